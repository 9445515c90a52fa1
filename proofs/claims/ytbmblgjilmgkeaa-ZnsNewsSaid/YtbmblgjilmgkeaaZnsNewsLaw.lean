/-
  THE STATEMENT ZnsNews: a new device of any bounds is the document's, or there is the document's error; the arguments stay as they were. For every input.
-/
import Derived.Test.YtbmblgjilmgkeaaZnsLive
import Derived.Test.YtbmblgjilmgkeaaZnsRefNew
import Derived.Test.YtbmblgjilmgkeaaZnsSame
import Derived.Test.YtbmblgjilmgkeaaFrame
namespace Go.Proofs.Ytbmblgjilmgkeaa
open Go.ChangeShapes Go.WideShapes Go.ChangeAt Go.RowKit Mem Zon
namespace Zns

set_option maxRecDepth 100000 in
set_option maxHeartbeats 3200000 in
theorem znsNews_walk (zones most op ac : Int) (w : World) :
    Calls Try.prog 3 #[.int .i64 zones, .int .i64 most, .int .i64 op, .int .i64 ac] w fun e w' => e = .returned (.bool true) ∧ Below w.heap.size w w' := by
  have H1 := fun w => Lib.hid (new_any zones most op ac w)
  have H2 := fun w => Lib.hid (refNew_any zones most op ac w)
  have HS := fun d x w (h1 : DevAt w d) (h2 : DevAt w x) (e : d.p = x.p) => Lib.hid (refSame_eq h1 h2 e)
  generalize newP zones most op ac = p at *
  generalize errOf (boundsB zones most op ac) = er at *
  have he : (er == er) = true := by simp
  unfold GaveD at *
  unfold dxv at HS
  go_enter Try.func3, Try.ntmps3
  go_wp2_with fail
  refine (live_any w).mono ?_
  rintro e w1 ⟨rfl, hb⟩
  have L1 := Lib.hid hb
  clear hb
  go_wp2_with fail
  refine (H1 w1).out.mono ?_
  rintro e w2 ⟨d, rfl, hdev, hp, hb⟩
  have b3 : Below w2.heap.size w2 (w2.alloc (.cells #[.int .i64 d.cap, .int .i64 d.op, .int .i64 d.ac, .slice d.A d.n d.c] 25)) := (Below.refl _ w2).alloc (Nat.le_refl _) _
  have L3 := Lib.hid (L1.out.trans ((hb.mono L1.out.size).trans (b3.mono (Nat.le_trans L1.out.size hb.size))))
  have D3 := Lib.hid (hdev.below b3)
  have B3 := Lib.hid (DBox.new w2 d)
  have P3 := Lib.hid hp
  clear hb b3 hdev hp L1 H1
  go_upto_region 3 with fail
  generalize w2.alloc (.cells #[.int .i64 d.cap, .int .i64 d.op, .int .i64 d.ac, .slice d.A d.n d.c] 25) = w3 at *
  generalize w2.heap.size = g3 at *
  go_wp2_with fail
  refine (H2 w3).out.mono ?_
  rintro e w4 ⟨x, rfl, hdev, hp, hb⟩
  have b5 : Below w4.heap.size w4 (w4.alloc (.cells #[.int .i64 x.cap, .int .i64 x.op, .int .i64 x.ac, .slice x.A x.n x.c] 25)) := (Below.refl _ w4).alloc (Nat.le_refl _) _
  have b35 := hb.trans (b5.mono hb.size)
  have L5 := Lib.hid (L3.out.trans (b35.mono L3.out.size))
  have D5 := Lib.hid (D3.out.below b35)
  have B5 := Lib.hid (B3.out.below b35)
  have X5 := Lib.hid (hdev.below b5)
  have Y5 := Lib.hid (DBox.new w4 x)
  have HPP : Hid (d.p = x.p) := P3.out.trans hp.symm
  clear hb b5 b35 hdev hp L3 D3 B3 P3 H2
  go_upto_region 4 with fail
  generalize w4.alloc (.cells #[.int .i64 x.cap, .int .i64 x.op, .int .i64 x.ac, .slice x.A x.n x.c] 25) = w5 at *
  generalize w4.heap.size = g5 at *
  obtain ⟨m0, m1, m2, m3⟩ := B5.out.cells
  obtain ⟨k0, k1, k2, k3⟩ := Y5.out.cells
  go_wp2_with fail
  refine (HS d x w5 D5.out X5.out HPP.out).out.mono ?_
  rintro e w6 ⟨rfl, hb⟩
  have L6 := Lib.hid (L5.out.trans (hb.mono L5.out.size))
  clear hb
  go_wp2_with fail
  go_ret
  exact ⟨rfl, L6.out⟩

theorem znsNews_says : Frame.Says Rows.znsNewsSpec 4 := by
  refine ⟨rfl, fun H ds h => ?_, fun H ds h => ?_, fun H ds h => ?_⟩ <;>
  · match ds, h with
    | [d1, d2, d3, d4], _ => rfl

set_option maxRecDepth 100000 in
theorem znsNews_walks : Frame.Walks 3 [3, 3, 3, 3] := by
  intro H enc W args ds ps base hok hA hsz
  obtain ⟨v0, vs0, d0, ds0, p0, q0, hargs, rfl, rfl, h0, r0⟩ := trodAll_cons hA
  obtain ⟨v1, vs1, d1, ds1, p1, q1, rfl, rfl, rfl, h1, r1⟩ := trodAll_cons r0
  obtain ⟨v2, vs2, d2, ds2, p2, q2, rfl, rfl, rfl, h2, r2⟩ := trodAll_cons r1
  obtain ⟨v3, vs3, d3, ds3, p3, q3, rfl, rfl, rfl, h3, r3⟩ := trodAll_cons r2
  obtain ⟨rfl, rfl, rfl⟩ := trodAll_nil r3
  obtain rfl : args = #[v0, v1, v2, v3] := by cases args; simp_all
  obtain ⟨a0, rfl, rfl, rfl, -⟩ := open_int Try.underlying3 (hok 0 _ v0 rfl rfl) h0
  obtain ⟨a1, rfl, rfl, rfl, -⟩ := open_int Try.underlying3 (hok 1 _ v1 rfl rfl) h1
  obtain ⟨a2, rfl, rfl, rfl, -⟩ := open_int Try.underlying3 (hok 2 _ v2 rfl rfl) h2
  obtain ⟨a3, rfl, rfl, rfl, -⟩ := open_int Try.underlying3 (hok 3 _ v3 rfl rfl) h3
  exact znsNews_walk a0 a1 a2 a3 W

set_option maxRecDepth 100000 in
theorem znsNews_over : Rows.znsNewsRow.holds Try.pinned (OpenSpec.ofChange Rows.znsNewsSpec) :=
  OpenClaim.holds_of_wide 3 Try.f3 rfl rfl rfl rfl rfl rfl rfl ⟨rfl, rfl, rfl, rfl, rfl⟩ rfl rfl rfl rfl rfl (by kernel_rfl) Try.func3 (by kernel_rfl)
    (of_decide_eq_true (by kernel_rfl)) (by unfold Func.isWrapper; first | (rw [if_pos (by decide +kernel)]; kernel_rfl) | (rw [if_neg (by decide +kernel)]; exact ⟨rfl, rfl⟩))
    (fun os started H enc _ => Frame.lifted (started := started) Try.underlying4 (by kernel_rfl) Try.func3 (n := 4) (by rw [Try.params3]; rfl) znsNews_says (by rw [Try.params3]; kernel_rfl) (by kernel_rfl)
      (ChangeSpec.witness6 (enc := enc) (C := Try.checked) false ⟨#[], #[.int .i64 0, .int .i64 0, .int .i64 0, .int .i64 0], []⟩ 8 (by kernel_rfl) (by kernel_rfl) (by kernel_rfl) (by kernel_rfl))
      (by rw [Try.params3]; exact znsNews_walks))
end Zns
/-- The given statement. -/
theorem znsNews_holds : Rows.ZnsNewsSaid := Zns.znsNews_over
end Go.Proofs.Ytbmblgjilmgkeaa
