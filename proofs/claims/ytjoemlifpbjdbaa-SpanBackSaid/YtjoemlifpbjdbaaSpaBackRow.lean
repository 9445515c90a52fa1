/-
  THE STATEMENT SpanBack: its row. For every input. (Written by gen_spalaws.py.)
-/
import Derived.Test.YtjoemlifpbjdbaaSpaBack
import Derived.Test.YtjoemlifpbjdbaaSpaArgs
namespace Go.Proofs.Ytjoemlifpbjdbaa
open Go.ChangeShapes Go.WideShapes Go.ChangeAt Go.RowKit Mem
namespace Spa

theorem spanBack_says : Frame.Says Rows.spanBackSpec 3 := by
  refine ⟨rfl, fun H ds h => ?_, fun H ds h => ?_, fun H ds h => ?_⟩ <;>
  · match ds, h with
    | [d0, d1, d2], _ => rfl

set_option maxRecDepth 100000 in
theorem spanBack_walks : Frame.Walks 7 [3, 45, 3] := by
  intro H enc W args ds ps base hok hA hsz
  obtain ⟨v0, vs0, d0, ds0, p0, q0, hargs, rfl, rfl, h0, r0⟩ := trodAll_cons hA
  obtain ⟨v1, vs1, d1, ds1, p1, q1, rfl, rfl, rfl, h1, r1⟩ := trodAll_cons r0
  obtain ⟨v2, vs2, d2, ds2, p2, q2, rfl, rfl, rfl, h2, r2⟩ := trodAll_cons r1
  obtain ⟨rfl, rfl, rfl⟩ := trodAll_nil r2
  obtain rfl : args = #[v0, v1, v2] := by cases args; simp_all
  obtain ⟨bl, rfl, rfl, rfl, -⟩ := open_int Try.underlying3 (hok 0 _ v0 rfl rfl) h0
  obtain ⟨A, n, c, l, rfl, hL⟩ := Args.open_tris (hok 1 _ v1 rfl rfl) h1 (Args.sized_arg hsz (j := 1) rfl rfl)
  obtain ⟨z, rfl, rfl, rfl, -⟩ := open_int Try.underlying3 (hok 2 _ v2 rfl rfl) h2
  exact spanBack_walk bl z hL

set_option maxRecDepth 100000 in
theorem spanBack_over : Rows.spanBackRow.holds Try.pinned (OpenSpec.ofChange Rows.spanBackSpec) :=
  OpenClaim.holds_of_wide 7 Try.f7 rfl rfl rfl rfl rfl rfl rfl ⟨rfl, rfl, rfl, rfl, rfl⟩ rfl rfl rfl rfl rfl (by kernel_rfl) Try.func7 (by kernel_rfl)
    (of_decide_eq_true (by kernel_rfl)) (by unfold Func.isWrapper; first | (rw [if_pos (by decide +kernel)]; kernel_rfl) | (rw [if_neg (by decide +kernel)]; exact ⟨rfl, rfl⟩))
    (fun os started H enc _ => Frame.lifted (started := started) Try.underlying4 (by kernel_rfl) Try.func7 (n := 3) (by rw [Try.params7]; rfl) spanBack_says (by rw [Try.params7]; kernel_rfl) (by kernel_rfl)
      (ChangeSpec.witness6 (enc := enc) (C := Try.checked) false ⟨#[], #[.int .i64 0, .slice none 0 0, .int .i64 0], []⟩ 8 (by kernel_rfl) (by kernel_rfl) (by kernel_rfl) (by kernel_rfl))
      (by rw [Try.params7]; exact spanBack_walks))
end Spa
/-- The given statement. -/
theorem spanBack_holds : Rows.SpanBackSaid := Spa.spanBack_over
end Go.Proofs.Ytjoemlifpbjdbaa
