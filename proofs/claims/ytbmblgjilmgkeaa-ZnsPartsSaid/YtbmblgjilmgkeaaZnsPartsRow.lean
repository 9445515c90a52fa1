/-
  THE STATEMENT ZnsParts: its row. For every input. (Written by gen_laws.py.)
-/
import Derived.Test.YtbmblgjilmgkeaaZnsPartsLaw
namespace Go.Proofs.Ytbmblgjilmgkeaa
open Go.ChangeShapes Go.WideShapes Go.ChangeAt Go.RowKit Mem Zon
namespace Zns

theorem znsParts_says : Frame.Says Rows.znsPartsSpec 3 := by
  refine ⟨rfl, fun H ds h => ?_, fun H ds h => ?_, fun H ds h => ?_⟩ <;>
  · match ds, h with
    | [d1, d2, d3], _ => rfl

set_option maxRecDepth 100000 in
theorem znsParts_walks : Frame.Walks 7 [25, 31, 3] := by
  intro H enc W args ds ps base hok hA hsz
  obtain ⟨v0, vs0, d0, ds0, p0, q0, hargs, rfl, rfl, h0, r0⟩ := trodAll_cons hA
  obtain ⟨v1, vs1, d1, ds1, p1, q1, rfl, rfl, rfl, h1, r1⟩ := trodAll_cons r0
  obtain ⟨v2, vs2, d2, ds2, p2, q2, rfl, rfl, rfl, h2, r2⟩ := trodAll_cons r1
  obtain ⟨rfl, rfl, rfl⟩ := trodAll_nil r2
  obtain rfl : args = #[v0, v1, v2] := by cases args; simp_all
  obtain ⟨x0, rfl, l1⟩ := Args.open_dev (hok 0 _ v0 rfl rfl) h0 (Args.sized_arg hsz (j := 0) rfl rfl)
  obtain ⟨A, n, c, xs, rfl, l2, l3⟩ := Args.open_cmds (hok 1 _ v1 rfl rfl) h1 (Args.sized_arg hsz (j := 1) rfl rfl)
  obtain ⟨a2, rfl, rfl, rfl, w2⟩ := open_int Try.underlying3 (hok 2 _ v2 rfl rfl) h2
  exact znsParts_walk l1 l2 l3 a2

set_option maxRecDepth 100000 in
theorem znsParts_over : Rows.znsPartsRow.holds Try.pinned (OpenSpec.ofChange Rows.znsPartsSpec) :=
  OpenClaim.holds_of_wide 7 Try.f7 rfl rfl rfl rfl rfl rfl rfl ⟨rfl, rfl, rfl, rfl, rfl⟩ rfl rfl rfl rfl rfl (by kernel_rfl) Try.func7 (by kernel_rfl)
    (of_decide_eq_true (by kernel_rfl)) (by unfold Func.isWrapper; first | (rw [if_pos (by decide +kernel)]; kernel_rfl) | (rw [if_neg (by decide +kernel)]; exact ⟨rfl, rfl⟩))
    (fun os started H enc _ => Frame.lifted (started := started) Try.underlying4 (by kernel_rfl) Try.func7 (n := 3) (by rw [Try.params7]; rfl) znsParts_says (by rw [Try.params7]; kernel_rfl) (by kernel_rfl)
      (ChangeSpec.witness6 (enc := enc) (C := Try.checked) false ⟨#[], #[.agg #[.int .i64 0, .int .i64 0, .int .i64 0, .slice none 0 0], .slice none 0 0, .int .i64 0], []⟩ 8 (by kernel_rfl) (by kernel_rfl) (by kernel_rfl) (by kernel_rfl))
      (by rw [Try.params7]; exact znsParts_walks))
end Zns
/-- The given statement. -/
theorem znsParts_holds : Rows.ZnsPartsSaid := Zns.znsParts_over
end Go.Proofs.Ytbmblgjilmgkeaa
