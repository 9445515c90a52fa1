/-
  THE STATEMENT LeaseNext: its row. For every input. (Written by gen_lealaws.py.)
-/
import Derived.Test.YtehknenlifdchaaLeaNextLaw
import Derived.Test.YtehknenlifdchaaLeaArgs
namespace Go.Proofs.Ytehknenlifdchaa
open Go.ChangeShapes Go.WideShapes Go.ChangeAt Go.RowKit Mem
namespace Lea

theorem leaseNext_says : Frame.Says Rows.leaseNextSpec 1 := by
  refine ⟨rfl, fun H ds h => ?_, fun H ds h => ?_, fun H ds h => ?_⟩ <;>
  · match ds, h with
    | [d0], _ => rfl

set_option maxRecDepth 100000 in
theorem leaseNext_walks : Frame.Walks 7 [24] := by
  intro H enc W args ds ps base hok hA hsz
  obtain ⟨v0, vs0, d0, ds0, p0, q0, hargs, rfl, rfl, h0, r0⟩ := trodAll_cons hA
  obtain ⟨rfl, rfl, rfl⟩ := trodAll_nil r0
  obtain rfl : args = #[v0] := by cases args; simp_all
  obtain ⟨last, now, A, n, c, l, rfl, hl, htl⟩ := Args.open_table (hok 0 _ v0 rfl rfl) h0 (Args.sized_arg hsz (j := 0) rfl rfl)
  exact leaseNext_walk htl hl

set_option maxRecDepth 100000 in
theorem leaseNext_over : Rows.leaseNextRow.holds Try.pinned (OpenSpec.ofChange Rows.leaseNextSpec) :=
  OpenClaim.holds_of_wide 7 Try.f7 rfl rfl rfl rfl rfl rfl rfl ⟨rfl, rfl, rfl, rfl, rfl⟩ rfl rfl rfl rfl rfl (by kernel_rfl) Try.func7 (by kernel_rfl)
    (of_decide_eq_true (by kernel_rfl)) (by unfold Func.isWrapper; first | (rw [if_pos (by decide +kernel)]; kernel_rfl) | (rw [if_neg (by decide +kernel)]; exact ⟨rfl, rfl⟩))
    (fun os started H enc _ => Frame.lifted (started := started) Try.underlying4 (by kernel_rfl) Try.func7 (n := 1) (by rw [Try.params7]; rfl) leaseNext_says (by rw [Try.params7]; kernel_rfl) (by kernel_rfl)
      (ChangeSpec.witness6 (enc := enc) (C := Try.checked) false ⟨#[], #[.agg #[.int .i64 0, .int .i64 0, .slice none 0 0]], []⟩ 8 (by kernel_rfl) (by kernel_rfl) (by kernel_rfl) (by kernel_rfl))
      (by rw [Try.params7]; exact leaseNext_walks))
end Lea
/-- The given statement. -/
theorem leaseNext_holds : Rows.LeaseNextSaid := Lea.leaseNext_over
end Go.Proofs.Ytehknenlifdchaa
