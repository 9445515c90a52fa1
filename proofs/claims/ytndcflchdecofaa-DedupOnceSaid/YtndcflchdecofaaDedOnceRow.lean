/-
  THE STATEMENT DedupOnce: its row. For every input that the row can read, no condition beside it. (Written by gen_dedrows.py.)
-/
import Derived.Test.YtndcflchdecofaaDedOnce
namespace Go.Proofs.Ytndcflchdecofaa
open Go.ChangeShapes Go.WideShapes Go.ChangeAt Go.RowKit Mem Args
namespace Ded

theorem dedupOnce_says : Frame.Says Rows.dedupOnceSpec 1 := by
  refine ⟨rfl, fun H ds h => ?_, fun H ds h => ?_, fun H ds h => ?_⟩ <;>
  · match ds, h with
    | [d0], _ => rfl

set_option maxRecDepth 100000 in
theorem dedupOnce_walks : Frame.Walks 3 [22] := by
  intro H enc W args ds ps base hok hA hsz
  obtain ⟨v0, vs0, d0, ds0, p0, q0, hargs, rfl, rfl, h0, r0⟩ := trodAll_cons hA
  obtain ⟨rfl, rfl, rfl⟩ := trodAll_nil r0
  obtain rfl : args = #[v0] := by cases args; simp_all
  obtain ⟨A0, n0, c0, l0, rfl, k0, kk0⟩ := open_opsD (hok 0 _ v0 rfl rfl) h0 (sized_arg hsz (j := 0) rfl rfl)
  exact once_walk A0 n0 c0 l0 W k0 kk0

set_option maxRecDepth 100000 in
theorem dedupOnce_over : Rows.dedupOnceRow.holds Try.pinned (OpenSpec.ofChange Rows.dedupOnceSpec) :=
  OpenClaim.holds_of_wide 3 Try.f3 rfl rfl rfl rfl rfl rfl rfl ⟨rfl, rfl, rfl, rfl, rfl⟩ rfl rfl rfl rfl rfl (by kernel_rfl) Try.func3 (by kernel_rfl)
    (of_decide_eq_true (by kernel_rfl)) (by unfold Func.isWrapper; first | (rw [if_pos (by decide +kernel)]; kernel_rfl) | (rw [if_neg (by decide +kernel)]; exact ⟨rfl, rfl⟩))
    (fun os started H enc _ => Frame.lifted (started := started) Try.underlying4 (by kernel_rfl) Try.func3 (n := 1) (by rw [Try.params3]; rfl) dedupOnce_says (by rw [Try.params3]; kernel_rfl) (by kernel_rfl)
      (ChangeSpec.witness6 (enc := enc) (C := Try.checked) false ⟨#[], #[.slice none 0 0], []⟩ 8 (by kernel_rfl) (by kernel_rfl) (by kernel_rfl) (by kernel_rfl))
      (by rw [Try.params3]; exact dedupOnce_walks))
end Ded
/-- The given statement. -/
theorem dedupOnce_holds : Rows.DedupOnceSaid := Ded.dedupOnce_over
end Go.Proofs.Ytndcflchdecofaa
