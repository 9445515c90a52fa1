/-
  SEVERAL TEXTS IN ONE FILE: CooArgsI, CooReplaysRow.
-/
import Derived.Test.YtmflngclncidjaaGreatJ25
import Derived.Test.YtmflngclncidjaaGreatJRp01
import Derived.Test.YtmflngclncidjaaGreatJ03
import Derived.Test.YtmflngclncidjaaGreatJRp04
import Derived.BigQuiet
/-
  A LAW'S ARGUMENTS: events. (Written by gen_cooargs.py.)
-/
namespace Go.Proofs.YtmflngclncidjaaGreat
open Go.ChangeShapes Go.WideShapes Go.ChangeAt Go.RowKit Mem
open Coo
namespace Args
variable {H : Type} {enc : TypeId × Value → H} {W : World}

set_option maxRecDepth 100000 in
/-- An event's eight cells. -/
theorem raw_eventI {fuel : Nat} {cs : List Value} {x : DataW H × List MemPlace} (hf : DataW.trod enc Tryz.prog W 0 (fun _ => true) true fuel 36 cs = some x) (hl : cs.length = 8) :
    ∃ v : Ev, cs = cellsE v ∧ Ints v := by
  have hu := Tryz.underlying36
  match cs, hl with
  | [c0, c1, c2, c3, c4, c5, c6, c7], _ =>
    obtain ⟨xs, n, _, hx, _, hlen, hg⟩ := DataW.trod_struct hu hf
    have hxl : xs.length = 8 := hlen
    match xs, hxl with
    | [y0, y1, y2, y3, y4, y5, y6, y7], _ =>
      have o3 : Tryz.prog.cellsOf 3 = 1 := by kernel_rfl
      have g0 := hg 0 _ rfl
      have g1 := hg 1 _ rfl
      have g2 := hg 2 _ rfl
      have g3 := hg 3 _ rfl
      have g4 := hg 4 _ rfl
      have g5 := hg 5 _ rfl
      have g6 := hg 6 _ rfl
      have g7 := hg 7 _ rfl
      simp [o3] at g0 g1 g2 g3 g4 g5 g6 g7
      obtain ⟨z0, h0, -, w0⟩ := DataW.trod_int Tryz.underlying3 g0
      obtain ⟨z1, h1, -, w1⟩ := DataW.trod_int Tryz.underlying3 g1
      obtain ⟨z2, h2, -, w2⟩ := DataW.trod_int Tryz.underlying3 g2
      obtain ⟨z3, h3, -, w3⟩ := DataW.trod_int Tryz.underlying3 g3
      obtain ⟨z4, h4, -, w4⟩ := DataW.trod_int Tryz.underlying3 g4
      obtain ⟨z5, h5, -, w5⟩ := DataW.trod_int Tryz.underlying3 g5
      obtain ⟨z6, h6, -, w6⟩ := DataW.trod_int Tryz.underlying3 g6
      obtain ⟨z7, h7, -, w7⟩ := DataW.trod_int Tryz.underlying3 g7
      simp only [List.cons.injEq, and_true] at h0 h1 h2 h3 h4 h5 h6 h7
      subst h0 h1 h2 h3 h4 h5 h6 h7
      exact ⟨⟨z0, z1, z2, z3, z4, z5, z6, z7⟩, rfl, fun n hn => by
        have b0 := (i64_of w0).2
        have b1 := (i64_of w1).2
        have b2 := (i64_of w2).2
        have b3 := (i64_of w3).2
        have b4 := (i64_of w4).2
        have b5 := (i64_of w5).2
        have b6 := (i64_of w6).2
        have b7 := (i64_of w7).2
        simp only [List.mem_cons, List.not_mem_nil, or_false] at hn
        rcases hn with rfl | rfl | rfl | rfl | rfl | rfl | rfl | rfl <;> omega⟩
set_option maxRecDepth 100000 in
theorem open_eventsI {v : Value} {d : DataW H} {p : List MemPlace} {base : Nat} (hok : Value.okWide Tryz.prog W .any base 22 v) (h : DataW.Trod enc Tryz.prog W 0 (fun _ => true) true 22 v d p)
    (hs : ∀ q ∈ d.weights Tryz.prog 22, q ≤ reachBytes) : ∃ A n c xs, v = .slice A n c ∧ RowS cellsE 8 W A n c xs ∧ ∀ x ∈ xs, Ints x := by
  obtain ⟨A, n, c, xs, h1, h2, h3⟩ := open_rowS (cells := cellsE) (k := 8) (bytes := 64) (p := Ints) Tryz.underlying22 (by kernel_rfl) (by kernel_rfl) (by omega) (by omega) (fun fuel cs x hf hl _ => raw_eventI hf hl) hok h hs
  exact ⟨A, n, c, xs, h1, h2, h3⟩
end Args
end Go.Proofs.YtmflngclncidjaaGreat
/-
  THE STATEMENT CoordReplays: its row. For every input. (Written by gen_coolaws.py.)
-/
namespace Go.Proofs.YtmflngclncidjaaGreat
open Go.ChangeShapes Go.WideShapes Go.ChangeAt Go.RowKit Mem
namespace Coo

theorem coordReplays_says : Frame.Says Rows.coordReplaysSpec 4 := by
  refine ⟨rfl, fun H ds h => ?_, fun H ds h => ?_, fun H ds h => ?_⟩ <;>
  · match ds, h with
    | [d0, d1, d2, d3], _ => rfl

set_option maxRecDepth 100000 in
theorem coordReplays_walks : Frame.Walks 4 [3, 3, 22, 3] := by
  intro H enc W args ds ps base hok hA hsz
  obtain ⟨v0, vs0, d0, ds0, p0, q0, hargs, rfl, rfl, h0, r0⟩ := trodAll_cons hA
  obtain ⟨v1, vs1, d1, ds1, p1, q1, rfl, rfl, rfl, h1, r1⟩ := trodAll_cons r0
  obtain ⟨v2, vs2, d2, ds2, p2, q2, rfl, rfl, rfl, h2, r2⟩ := trodAll_cons r1
  obtain ⟨v3, vs3, d3, ds3, p3, q3, rfl, rfl, rfl, h3, r3⟩ := trodAll_cons r2
  obtain ⟨rfl, rfl, rfl⟩ := trodAll_nil r3
  obtain rfl : args = #[v0, v1, v2, v3] := by cases args; simp_all
  obtain ⟨z, rfl, rfl, rfl, -⟩ := open_int Tryz.underlying3 (hok 0 _ v0 rfl rfl) h0
  obtain ⟨t, rfl, rfl, rfl, -⟩ := open_int Tryz.underlying3 (hok 1 _ v1 rfl rfl) h1
  obtain ⟨A, n, c, l, rfl, hL, hI⟩ := Args.open_eventsI (hok 2 _ v2 rfl rfl) h2 (Args.sized_arg hsz (j := 2) rfl rfl)
  obtain ⟨k, rfl, rfl, rfl, -⟩ := open_int Tryz.underlying3 (hok 3 _ v3 rfl rfl) h3
  exact coordReplays_walk z t k hL hI

set_option maxRecDepth 100000 in
theorem coordReplays_over : Rows.coordReplaysRow.holds Tryz.pinned (OpenSpec.ofChange Rows.coordReplaysSpec) :=
  OpenClaim.holds_of_wide 4 Tryz.f4 rfl rfl rfl rfl rfl rfl rfl ⟨rfl, rfl, rfl, rfl, rfl⟩ rfl rfl rfl rfl rfl (by kernel_rfl) Tryz.func4 (by kernel_rfl)
    (of_decide_eq_true (by kernel_rfl)) (by unfold Func.isWrapper; first | (rw [if_pos (by decide +kernel)]; kernel_rfl) | (rw [if_neg (by decide +kernel)]; exact ⟨rfl, rfl⟩))
    (fun os started H enc _ => Frame.lifted (started := started) Tryz.underlying4 (by kernel_rfl) Tryz.func4 (n := 4) (by rw [Tryz.params4]; rfl) coordReplays_says (by rw [Tryz.params4]; kernel_rfl) (by kernel_rfl)
      (ChangeSpec.witness6 (enc := enc) (C := Tryz.checked) false ⟨#[], #[.int .i64 0, .int .i64 0, .slice none 0 0, .int .i64 0], []⟩ 8 (by kernel_rfl) (by kernel_rfl) (by kernel_rfl) (by kernel_rfl))
      (by rw [Tryz.params4]; exact coordReplays_walks))
end Coo
/-- The given statement. -/
theorem coordReplays_holds : Rows.CoordReplaysSaid := Coo.coordReplays_over
end Go.Proofs.YtmflngclncidjaaGreat
