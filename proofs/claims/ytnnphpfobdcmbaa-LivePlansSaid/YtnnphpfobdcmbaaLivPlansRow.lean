/-
  THE STATEMENT LivePlans: its row. For every input. (Written by gen_livrows.py.)
-/
import Derived.Test.YtnnphpfobdcmbaaLivPlans
import Derived.Test.YtnnphpfobdcmbaaLivCheck
import Derived.Test.YtnnphpfobdcmbaaZnsArgs
import Derived.Test.YtnnphpfobdcmbaaFrame
import Derived.BigQuiet
namespace Go.Proofs.Ytnnphpfobdcmbaa
open Go.ChangeShapes Go.WideShapes Go.ChangeAt Go.RowKit Mem
namespace Liv

theorem livePlans_says : Frame.Says Rows.livePlansSpec 4 := by
  refine ⟨rfl, fun H ds h => ?_, fun H ds h => ?_, fun H ds h => ?_⟩ <;>
  · match ds, h with
    | [d0, d1, d2, d3], _ => rfl

set_option maxRecDepth 100000 in
theorem livePlans_walks : Frame.Walks 4 [38, 22, 3, 26] := by
  intro H enc W args ds ps base hok hA hsz
  obtain ⟨v0, vs0, d0, ds0, p0, q0, hargs, rfl, rfl, h0, r0⟩ := trodAll_cons hA
  obtain ⟨v1, vs1, d1, ds1, p1, q1, rfl, rfl, rfl, h1, r1⟩ := trodAll_cons r0
  obtain ⟨v2, vs2, d2, ds2, p2, q2, rfl, rfl, rfl, h2, r2⟩ := trodAll_cons r1
  obtain ⟨v3, vs3, d3, ds3, p3, q3, rfl, rfl, rfl, h3, r3⟩ := trodAll_cons r2
  obtain ⟨rfl, rfl, rfl⟩ := trodAll_nil r3
  obtain rfl : args = #[v0, v1, v2, v3] := by cases args; simp_all
  obtain ⟨x0, rfl, hd0⟩ := Args.open_dev (hok 0 _ v0 rfl rfl) h0 (Args.sized_arg hsz (j := 0) rfl rfl)
  obtain ⟨A1, n1, c1, l1, rfl, hl1, hs1⟩ := Args.open_extsN (hok 1 _ v1 rfl rfl) h1 (Args.sized_arg hsz (j := 1) rfl rfl)
  obtain ⟨i2, rfl, rfl, rfl, wi2⟩ := open_int Try.underlying3 (hok 2 _ v2 rfl rfl) h2
  obtain ⟨A3, n3, c3, l3, rfl, hk3, -⟩ := Args.open_ints_ (hok 3 _ v3 rfl rfl) h3 (Args.sized_arg hsz (j := 3) rfl rfl)
  exact livePlans_walk hd0 hl1 hs1 i2 hk3

set_option maxRecDepth 100000 in
theorem livePlans_over : Rows.livePlansRow.holds Try.pinned (OpenSpec.ofChange Rows.livePlansSpec) :=
  OpenClaim.holds_of_wide 4 Try.f4 rfl rfl rfl rfl rfl rfl rfl ⟨rfl, rfl, rfl, rfl, rfl⟩ rfl rfl rfl rfl rfl (by kernel_rfl) Try.func4 (by kernel_rfl)
    (of_decide_eq_true (by kernel_rfl)) (by unfold Func.isWrapper; first | (rw [if_pos (by decide +kernel)]; kernel_rfl) | (rw [if_neg (by decide +kernel)]; exact ⟨rfl, rfl⟩))
    (fun os started H enc _ => Frame.lifted (started := started) Try.underlying4 (by kernel_rfl) Try.func4 (n := 4) (by rw [Try.params4]; rfl) livePlans_says (by rw [Try.params4]; kernel_rfl) (by kernel_rfl)
      (ChangeSpec.witness6 (enc := enc) (C := Try.checked) false ⟨#[], #[.agg #[.int .i64 0, .int .i64 0, .int .i64 0, .slice none 0 0], .slice none 0 0, .int .i64 0, .slice none 0 0], []⟩ 8 (by kernel_rfl) (by kernel_rfl) (by kernel_rfl) (by kernel_rfl))
      (by rw [Try.params4]; exact livePlans_walks))
end Liv
/-- The given statement. -/
theorem livePlans_holds : Rows.LivePlansSaid := Liv.livePlans_over
end Go.Proofs.Ytnnphpfobdcmbaa
