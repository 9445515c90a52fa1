/-
  THE STATEMENT ExtentLast: its row. For every input. (Written by gen_extlaws.py.)
-/
import Derived.Test.YthahemffeagifaaExtLast
import Derived.Test.YthahemffeagifaaExtArgs
import Derived.Test.YthahemffeagifaaFrame
import Derived.BigQuiet
namespace Go.Proofs.Ythahemffeagifaa
open Go.ChangeShapes Go.WideShapes Go.ChangeAt Go.RowKit Mem
namespace Ext

theorem extentLast_says : Frame.Says Rows.extentLastSpec 2 := by
  refine ⟨rfl, fun H ds h => ?_, fun H ds h => ?_, fun H ds h => ?_⟩ <;>
  · match ds, h with
    | [d0, d1], _ => rfl

set_option maxRecDepth 100000 in
theorem extentLast_walks : Frame.Walks 3 [22, 23] := by
  intro H enc W args ds ps base hok hA hsz
  obtain ⟨v0, vs0, d0, ds0, p0, q0, hargs, rfl, rfl, h0, r0⟩ := trodAll_cons hA
  obtain ⟨v1, vs1, d1, ds1, p1, q1, rfl, rfl, rfl, h1, r1⟩ := trodAll_cons r0
  obtain ⟨rfl, rfl, rfl⟩ := trodAll_nil r1
  obtain rfl : args = #[v0, v1] := by cases args; simp_all
  obtain ⟨A, n, c, l, rfl, hL⟩ := Args.open_exts (hok 0 _ v0 rfl rfl) h0 (Args.sized_arg hsz (j := 0) rfl rfl)
  obtain ⟨K, mk, kc, keys, rfl, hK, -⟩ := Args.open_ints_ (hok 1 _ v1 rfl rfl) h1 (Args.sized_arg hsz (j := 1) rfl rfl)
  exact last_walk hL hK

set_option maxRecDepth 100000 in
theorem extentLast_over : Rows.extentLastRow.holds Try.pinned (OpenSpec.ofChange Rows.extentLastSpec) :=
  OpenClaim.holds_of_wide 3 Try.f3 rfl rfl rfl rfl rfl rfl rfl ⟨rfl, rfl, rfl, rfl, rfl⟩ rfl rfl rfl rfl rfl (by kernel_rfl) Try.func3 (by kernel_rfl)
    (of_decide_eq_true (by kernel_rfl)) (by unfold Func.isWrapper; first | (rw [if_pos (by decide +kernel)]; kernel_rfl) | (rw [if_neg (by decide +kernel)]; exact ⟨rfl, rfl⟩))
    (fun os started H enc _ => Frame.lifted (started := started) Try.underlying4 (by kernel_rfl) Try.func3 (n := 2) (by rw [Try.params3]; rfl) extentLast_says (by rw [Try.params3]; kernel_rfl) (by kernel_rfl)
      (ChangeSpec.witness6 (enc := enc) (C := Try.checked) false ⟨#[], #[.slice none 0 0, .slice none 0 0], []⟩ 8 (by kernel_rfl) (by kernel_rfl) (by kernel_rfl) (by kernel_rfl))
      (by rw [Try.params3]; exact extentLast_walks))
end Ext
/-- The given statement. -/
theorem extentLast_holds : Rows.ExtentLastSaid := Ext.extentLast_over
end Go.Proofs.Ythahemffeagifaa
