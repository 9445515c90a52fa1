/-
  THE STATEMENT DedupApart: its row. For every input that the row can read, no condition beside it. (Written by gen_dedrows.py.)
-/
import Derived.Test.YtndcflchdecofaaDedApart
namespace Go.Proofs.Ytndcflchdecofaa
open Go.ChangeShapes Go.WideShapes Go.ChangeAt Go.RowKit Mem Args
namespace Ded

theorem dedupApart_says : Frame.Says Rows.dedupApartSpec 3 := by
  refine ⟨rfl, fun H ds h => ?_, fun H ds h => ?_, fun H ds h => ?_⟩ <;>
  · match ds, h with
    | [d0, d1, d2], _ => rfl

set_option maxRecDepth 100000 in
theorem dedupApart_walks : Frame.Walks 5 [22, 3, 3] := by
  intro H enc W args ds ps base hok hA hsz
  obtain ⟨v0, vs0, d0, ds0, p0, q0, hargs, rfl, rfl, h0, r0⟩ := trodAll_cons hA
  obtain ⟨v1, vs1, d1, ds1, p1, q1, rfl, rfl, rfl, h1, r1⟩ := trodAll_cons r0
  obtain ⟨v2, vs2, d2, ds2, p2, q2, rfl, rfl, rfl, h2, r2⟩ := trodAll_cons r1
  obtain ⟨rfl, rfl, rfl⟩ := trodAll_nil r2
  obtain rfl : args = #[v0, v1, v2] := by cases args; simp_all
  obtain ⟨A0, n0, c0, l0, rfl, k0, kk0⟩ := open_opsD (hok 0 _ v0 rfl rfl) h0 (sized_arg hsz (j := 0) rfl rfl)
  obtain ⟨z1, rfl, rfl, rfl, hz1⟩ := open_int Try.underlying3 (hok 1 _ v1 rfl rfl) h1
  obtain ⟨z2, rfl, rfl, rfl, hz2⟩ := open_int Try.underlying3 (hok 2 _ v2 rfl rfl) h2
  exact apart_walk A0 n0 c0 l0 z1 z2 W k0 kk0

set_option maxRecDepth 100000 in
theorem dedupApart_over : Rows.dedupApartRow.holds Try.pinned (OpenSpec.ofChange Rows.dedupApartSpec) :=
  OpenClaim.holds_of_wide 5 Try.f5 rfl rfl rfl rfl rfl rfl rfl ⟨rfl, rfl, rfl, rfl, rfl⟩ rfl rfl rfl rfl rfl (by kernel_rfl) Try.func5 (by kernel_rfl)
    (of_decide_eq_true (by kernel_rfl)) (by unfold Func.isWrapper; first | (rw [if_pos (by decide +kernel)]; kernel_rfl) | (rw [if_neg (by decide +kernel)]; exact ⟨rfl, rfl⟩))
    (fun os started H enc _ => Frame.lifted (started := started) Try.underlying4 (by kernel_rfl) Try.func5 (n := 3) (by rw [Try.params5]; rfl) dedupApart_says (by rw [Try.params5]; kernel_rfl) (by kernel_rfl)
      (ChangeSpec.witness6 (enc := enc) (C := Try.checked) false ⟨#[], #[.slice none 0 0, .int .i64 0, .int .i64 0], []⟩ 8 (by kernel_rfl) (by kernel_rfl) (by kernel_rfl) (by kernel_rfl))
      (by rw [Try.params5]; exact dedupApart_walks))
end Ded
/-- The given statement. -/
theorem dedupApart_holds : Rows.DedupApartSaid := Ded.dedupApart_over
end Go.Proofs.Ytndcflchdecofaa
