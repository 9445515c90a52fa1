/-
  THE STATEMENT ExtentOrder: its row. For every input. (Written by gen_extlaws.py.)
-/
import Derived.Test.YthahemffeagifaaExtOrder
import Derived.Test.YthahemffeagifaaExtArgs
import Derived.Test.YthahemffeagifaaFrame
import Derived.BigQuiet
namespace Go.Proofs.Ythahemffeagifaa
open Go.ChangeShapes Go.WideShapes Go.ChangeAt Go.RowKit Mem
namespace Ext

theorem extentOrder_says : Frame.Says Rows.extentOrderSpec 2 := by
  refine ⟨rfl, fun H ds h => ?_, fun H ds h => ?_, fun H ds h => ?_⟩ <;>
  · match ds, h with
    | [d0, d1], _ => rfl

set_option maxRecDepth 100000 in
theorem extentOrder_walks : Frame.Walks 6 [22, 22] := by
  intro H enc W args ds ps base hok hA hsz
  obtain ⟨v0, vs0, d0, ds0, p0, q0, hargs, rfl, rfl, h0, r0⟩ := trodAll_cons hA
  obtain ⟨v1, vs1, d1, ds1, p1, q1, rfl, rfl, rfl, h1, r1⟩ := trodAll_cons r0
  obtain ⟨rfl, rfl, rfl⟩ := trodAll_nil r1
  obtain rfl : args = #[v0, v1] := by cases args; simp_all
  obtain ⟨Aa, na, ca, la, rfl, hLa⟩ := Args.open_exts (hok 0 _ v0 rfl rfl) h0 (Args.sized_arg hsz (j := 0) rfl rfl)
  obtain ⟨Ab, nb, cb, lb, rfl, hLb⟩ := Args.open_exts (hok 1 _ v1 rfl rfl) h1 (Args.sized_arg hsz (j := 1) rfl rfl)
  exact order_walk hLa hLb

set_option maxRecDepth 100000 in
theorem extentOrder_over : Rows.extentOrderRow.holds Try.pinned (OpenSpec.ofChange Rows.extentOrderSpec) :=
  OpenClaim.holds_of_wide 6 Try.f6 rfl rfl rfl rfl rfl rfl rfl ⟨rfl, rfl, rfl, rfl, rfl⟩ rfl rfl rfl rfl rfl (by kernel_rfl) Try.func6 (by kernel_rfl)
    (of_decide_eq_true (by kernel_rfl)) (by unfold Func.isWrapper; first | (rw [if_pos (by decide +kernel)]; kernel_rfl) | (rw [if_neg (by decide +kernel)]; exact ⟨rfl, rfl⟩))
    (fun os started H enc _ => Frame.lifted (started := started) Try.underlying4 (by kernel_rfl) Try.func6 (n := 2) (by rw [Try.params6]; rfl) extentOrder_says (by rw [Try.params6]; kernel_rfl) (by kernel_rfl)
      (ChangeSpec.witness6 (enc := enc) (C := Try.checked) false ⟨#[], #[.slice none 0 0, .slice none 0 0], []⟩ 8 (by kernel_rfl) (by kernel_rfl) (by kernel_rfl) (by kernel_rfl))
      (by rw [Try.params6]; exact extentOrder_walks))
end Ext
/-- The given statement. -/
theorem extentOrder_holds : Rows.ExtentOrderSaid := Ext.extentOrder_over
end Go.Proofs.Ythahemffeagifaa
