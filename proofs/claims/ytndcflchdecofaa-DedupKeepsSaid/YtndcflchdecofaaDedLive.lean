/-
  A WALK: the law's own example (live).
-/
import Derived.Test.YtndcflchdecofaaDedForget
namespace Go.Proofs.Ytndcflchdecofaa
open Go.RowKit Mem Box
namespace Ded
open Net (Mp Mx MAt mxv MBox six_free)

/-- A message of a kind, else of zeros. -/
def kx (k : Int) : Mx := ⟨k, 0, 0, 0, none, 0, 0, [], none, 0, 0, []⟩
def kp (k : Int) : Mp := ⟨k, 0, 0, 0, [], []⟩
theorem kx_p (k : Int) : (kx k).p = kp k := rfl
theorem atk (w : World) {k : Int} (h1 : -9223372036854775808 ≤ k) (h2 : k < 9223372036854775808) : MAt w (kx k) := by
  have : OwnM 0 w (kx k) := ⟨Mem.Owns.nil _ _ _ _, Mem.Owns.nil _ _ _ _, ⟨by intro z hz; simp [kx, Mx.p] at hz; omega, by simp [kx, Mx.p], by simp [kx, Mx.p]⟩, by simp [kx]⟩
  exact this.at_
theorem live_done : doneP [] 1 3 (kp 7) = ([⟨1, 0, [⟨3, kp 7⟩]⟩], 0) := by decide +kernel
theorem live_ask3 : askP [⟨1, 0, [⟨3, kp 7⟩]⟩] 1 3 = (kp 7, 1) := by decide +kernel
theorem live_ask4 : askP [⟨1, 0, [⟨3, kp 7⟩]⟩] 1 4 = (m0, 0) := by decide +kernel

set_option maxRecDepth 100000 in
set_option maxHeartbeats 3200000 in
theorem live_any (w : World) : Calls Try.prog 7 #[] w fun e w' => e = .returned (.bool true) ∧ Below w.heap.size w w' := by
  have HD := Lib.hid (show Calls Try.prog 9 #[.slice none 0 0, .int .i64 1, .int .i64 3, .agg #[.int .i64 7, .int .i64 0, .int .i64 0, .int .i64 0, .slice none 0 0, .slice none 0 0]] w _ from done_any (w := w) (f := 1) (i := 3) (x := kx 7) (ListAt.nil w) (atk w (by omega) (by omega)) (by omega) bi_nil (by omega))
  rw [List.map_nil, kx_p, live_done] at HD
  go_enter Try.func7, Try.ntmps7
  go_upto_region 2 with (go_at_call 9; refine HD.out.mono ?_; rintro e w2 ⟨B, n, d, l, rfl, hl, hp, hb⟩; have L2 := Lib.hid hb; have A2 := Lib.hid hl; have HP := Lib.hid hp; clear hb hl hp)
  have HA3 : Hid (∀ W, Below w2.heap.size w2 W → Calls Try.prog 8 #[.slice B n d, .int .i64 1, .int .i64 3] W fun e w' => ∃ y : Mx, e = .returned (.tuple #[.agg #[.int .i64 7, .int .i64 y.f, .int .i64 y.t, .int .i64 y.i, .slice y.A y.n y.c, .slice y.B y.m y.d], .int .i64 1]) ∧ Below W.heap.size W w') := fun W hW => (ask_any (f := 1) (i := 3) (A2.out.below hW)).mono (by
    rintro e w' ⟨y, rfl, hy, -, hb⟩
    rw [HP.out, live_ask3] at hy ⊢
    have : y.k = 7 := congrArg Mp.k hy
    exact ⟨y, by unfold mxv; rw [this], hb⟩)
  have HA4 : Hid (∀ W, Below w2.heap.size w2 W → Calls Try.prog 8 #[.slice B n d, .int .i64 1, .int .i64 4] W fun e w' => ∃ y : Mx, e = .returned (.tuple #[.agg #[.int .i64 y.k, .int .i64 y.f, .int .i64 y.t, .int .i64 y.i, .slice y.A y.n y.c, .slice y.B y.m y.d], .int .i64 0]) ∧ Below W.heap.size W w') := fun W hW => (ask_any (f := 1) (i := 4) (A2.out.below hW)).mono (by
    rintro e w' ⟨y, rfl, hy, -, hb⟩
    rw [HP.out, live_ask4] at hy ⊢
    exact ⟨y, by unfold mxv; rfl, hb⟩)
  go_upto_region 3 with (go_at_call 8; refine (HA3.out _ (Below.refl _ _)).mono ?_; rintro e w3 ⟨y, rfl, hb⟩; have B3 := Lib.hid hb; clear hb)
  have b4 : Below w3.heap.size w3 (w3.alloc (.cells #[.int .i64 7, .int .i64 y.f, .int .i64 y.t, .int .i64 y.i, .slice y.A y.n y.c, .slice y.B y.m y.d] 33)) := (Below.refl _ w3).alloc (Nat.le_refl _) _
  have B4 := Lib.hid (B3.out.trans (b4.mono B3.out.size))
  have X4 : Hid (Cells (w3.alloc (.cells #[.int .i64 7, .int .i64 y.f, .int .i64 y.t, .int .i64 y.i, .slice y.A y.n y.c, .slice y.B y.m y.d] 33)) w3.heap.size 33 #[.int .i64 7, .int .i64 y.f, .int .i64 y.t, .int .i64 y.i, .slice y.A y.n y.c, .slice y.B y.m y.d]) := Cells.new _ _ _
  clear b4 B3
  generalize w3.alloc (.cells #[.int .i64 7, .int .i64 y.f, .int .i64 y.t, .int .i64 y.i, .slice y.A y.n y.c, .slice y.B y.m y.d] 33) = w4 at *
  generalize w3.heap.size = p3 at *
  go_upto_region 4 with (go_at_call 8; refine (HA4.out _ B4.out).mono ?_; rintro e w5 ⟨z, rfl, hb⟩; have B5 := Lib.hid (B4.out.trans (hb.mono B4.out.size)); have X5 := Lib.hid (Cells.below X4.out hb); clear hb)
  have b6 : Below w5.heap.size w5 (w5.alloc (.cells #[.int .i64 z.k, .int .i64 z.f, .int .i64 z.t, .int .i64 z.i, .slice z.A z.n z.c, .slice z.B z.m z.d] 33)) := (Below.refl _ w5).alloc (Nat.le_refl _) _
  have L6 := Lib.hid (L2.out.trans ((B5.out.trans (b6.mono B5.out.size)).mono L2.out.size))
  have X6 := Lib.hid (Cells.below X5.out b6)
  clear b6 X5 X4 B4 B5
  generalize w5.alloc (.cells #[.int .i64 z.k, .int .i64 z.f, .int .i64 z.t, .int .i64 z.i, .slice z.A z.n z.c, .slice z.B z.m z.d] 33) = w6 at *
  have m0 := Cells.cell X6.out 0
  go_wp2_with fail
  go_ret
  exact ⟨rfl, L6.out⟩
end Ded
end Go.Proofs.Ytndcflchdecofaa
