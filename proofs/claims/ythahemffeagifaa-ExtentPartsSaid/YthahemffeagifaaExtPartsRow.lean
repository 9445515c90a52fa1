/-
  THE STATEMENT ExtentParts: its row. For every input. (Written by gen_extlaws.py.)
-/
import Derived.Test.YthahemffeagifaaExtParts
import Derived.Test.YthahemffeagifaaExtArgs
import Derived.Test.YthahemffeagifaaFrame
import Derived.BigQuiet
namespace Go.Proofs.Ythahemffeagifaa
open Go.ChangeShapes Go.WideShapes Go.ChangeAt Go.RowKit Mem
namespace Ext

theorem extentParts_says : Frame.Says Rows.extentPartsSpec 3 := by
  refine ⟨rfl, fun H ds h => ?_, fun H ds h => ?_, fun H ds h => ?_⟩ <;>
  · match ds, h with
    | [d0, d1, d2], _ => rfl

set_option maxRecDepth 100000 in
theorem extentParts_walks : Frame.Walks 4 [22, 3, 3] := by
  intro H enc W args ds ps base hok hA hsz
  obtain ⟨v0, vs0, d0, ds0, p0, q0, hargs, rfl, rfl, h0, r0⟩ := trodAll_cons hA
  obtain ⟨v1, vs1, d1, ds1, p1, q1, rfl, rfl, rfl, h1, r1⟩ := trodAll_cons r0
  obtain ⟨v2, vs2, d2, ds2, p2, q2, rfl, rfl, rfl, h2, r2⟩ := trodAll_cons r1
  obtain ⟨rfl, rfl, rfl⟩ := trodAll_nil r2
  obtain rfl : args = #[v0, v1, v2] := by cases args; simp_all
  obtain ⟨A, n, c, l, rfl, hL⟩ := Args.open_exts (hok 0 _ v0 rfl rfl) h0 (Args.sized_arg hsz (j := 0) rfl rfl)
  obtain ⟨a, rfl, rfl, rfl, wa⟩ := open_int Try.underlying3 (hok 1 _ v1 rfl rfl) h1
  obtain ⟨k, rfl, rfl, rfl, wk⟩ := open_int Try.underlying3 (hok 2 _ v2 rfl rfl) h2
  exact parts_walk hL a k (by have := (Args.i64_of wk).2; omega)

set_option maxRecDepth 100000 in
theorem extentParts_over : Rows.extentPartsRow.holds Try.pinned (OpenSpec.ofChange Rows.extentPartsSpec) :=
  OpenClaim.holds_of_wide 4 Try.f4 rfl rfl rfl rfl rfl rfl rfl ⟨rfl, rfl, rfl, rfl, rfl⟩ rfl rfl rfl rfl rfl (by kernel_rfl) Try.func4 (by kernel_rfl)
    (of_decide_eq_true (by kernel_rfl)) (by unfold Func.isWrapper; first | (rw [if_pos (by decide +kernel)]; kernel_rfl) | (rw [if_neg (by decide +kernel)]; exact ⟨rfl, rfl⟩))
    (fun os started H enc _ => Frame.lifted (started := started) Try.underlying4 (by kernel_rfl) Try.func4 (n := 3) (by rw [Try.params4]; rfl) extentParts_says (by rw [Try.params4]; kernel_rfl) (by kernel_rfl)
      (ChangeSpec.witness6 (enc := enc) (C := Try.checked) false ⟨#[], #[.slice none 0 0, .int .i64 0, .int .i64 0], []⟩ 8 (by kernel_rfl) (by kernel_rfl) (by kernel_rfl) (by kernel_rfl))
      (by rw [Try.params4]; exact extentParts_walks))
end Ext
/-- The given statement. -/
theorem extentParts_holds : Rows.ExtentPartsSaid := Ext.extentParts_over
end Go.Proofs.Ythahemffeagifaa
