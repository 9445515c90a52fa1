/-
  THE STATEMENT LeaseOnce: its row. For every input. (Written by gen_lealaws.py.)
-/
import Derived.Test.YtehknenlifdchaaLeaOnce
import Derived.Test.YtehknenlifdchaaLeaArgs
namespace Go.Proofs.Ytehknenlifdchaa
open Go.ChangeShapes Go.WideShapes Go.ChangeAt Go.RowKit Mem
namespace Lea

theorem leaseOnce_says : Frame.Says Rows.leaseOnceSpec 1 := by
  refine ⟨rfl, fun H ds h => ?_, fun H ds h => ?_, fun H ds h => ?_⟩ <;>
  · match ds, h with
    | [d0], _ => rfl

set_option maxRecDepth 100000 in
theorem leaseOnce_walks : Frame.Walks 4 [25] := by
  intro H enc W args ds ps base hok hA hsz
  obtain ⟨v0, vs0, d0, ds0, p0, q0, hargs, rfl, rfl, h0, r0⟩ := trodAll_cons hA
  obtain ⟨rfl, rfl, rfl⟩ := trodAll_nil r0
  obtain rfl : args = #[v0] := by cases args; simp_all
  obtain ⟨L, m, lc, os, rfl, hL⟩ := Args.open_dones (hok 0 _ v0 rfl rfl) h0 (Args.sized_arg hsz (j := 0) rfl rfl)
  exact leaseOnce_walk hL

set_option maxRecDepth 100000 in
theorem leaseOnce_over : Rows.leaseOnceRow.holds Try.pinned (OpenSpec.ofChange Rows.leaseOnceSpec) :=
  OpenClaim.holds_of_wide 4 Try.f4 rfl rfl rfl rfl rfl rfl rfl ⟨rfl, rfl, rfl, rfl, rfl⟩ rfl rfl rfl rfl rfl (by kernel_rfl) Try.func4 (by kernel_rfl)
    (of_decide_eq_true (by kernel_rfl)) (by unfold Func.isWrapper; first | (rw [if_pos (by decide +kernel)]; kernel_rfl) | (rw [if_neg (by decide +kernel)]; exact ⟨rfl, rfl⟩))
    (fun os started H enc _ => Frame.lifted (started := started) Try.underlying4 (by kernel_rfl) Try.func4 (n := 1) (by rw [Try.params4]; rfl) leaseOnce_says (by rw [Try.params4]; kernel_rfl) (by kernel_rfl)
      (ChangeSpec.witness6 (enc := enc) (C := Try.checked) false ⟨#[], #[.slice none 0 0], []⟩ 8 (by kernel_rfl) (by kernel_rfl) (by kernel_rfl) (by kernel_rfl))
      (by rw [Try.params4]; exact leaseOnce_walks))
end Lea
/-- The given statement. -/
theorem leaseOnce_holds : Rows.LeaseOnceSaid := Lea.leaseOnce_over
end Go.Proofs.Ytehknenlifdchaa
