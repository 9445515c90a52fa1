/-
  THE STATEMENT SpanOnce: its row. For every input. (Written by gen_spalaws.py.)
-/
import Derived.Test.YtjoemlifpbjdbaaSpaOnce
import Derived.Test.YtjoemlifpbjdbaaSpaArgs
namespace Go.Proofs.Ytjoemlifpbjdbaa
open Go.ChangeShapes Go.WideShapes Go.ChangeAt Go.RowKit Mem
namespace Spa

theorem spanOnce_says : Frame.Says Rows.spanOnceSpec 5 := by
  refine ⟨rfl, fun H ds h => ?_, fun H ds h => ?_, fun H ds h => ?_⟩ <;>
  · match ds, h with
    | [d0, d1, d2, d3, d4], _ => rfl

set_option maxRecDepth 100000 in
theorem spanOnce_walks : Frame.Walks 4 [22, 3, 3, 3, 3] := by
  intro H enc W args ds ps base hok hA hsz
  obtain ⟨v0, vs0, d0, ds0, p0, q0, hargs, rfl, rfl, h0, r0⟩ := trodAll_cons hA
  obtain ⟨v1, vs1, d1, ds1, p1, q1, rfl, rfl, rfl, h1, r1⟩ := trodAll_cons r0
  obtain ⟨v2, vs2, d2, ds2, p2, q2, rfl, rfl, rfl, h2, r2⟩ := trodAll_cons r1
  obtain ⟨v3, vs3, d3, ds3, p3, q3, rfl, rfl, rfl, h3, r3⟩ := trodAll_cons r2
  obtain ⟨v4, vs4, d4, ds4, p4, q4, rfl, rfl, rfl, h4, r4⟩ := trodAll_cons r3
  obtain ⟨rfl, rfl, rfl⟩ := trodAll_nil r4
  obtain rfl : args = #[v0, v1, v2, v3, v4] := by cases args; simp_all
  obtain ⟨A, n, c, l, rfl, hL⟩ := Args.open_spans (hok 0 _ v0 rfl rfl) h0 (Args.sized_arg hsz (j := 0) rfl rfl)
  obtain ⟨a, rfl, rfl, rfl, -⟩ := open_int Try.underlying3 (hok 1 _ v1 rfl rfl) h1
  obtain ⟨b, rfl, rfl, rfl, -⟩ := open_int Try.underlying3 (hok 2 _ v2 rfl rfl) h2
  obtain ⟨o, rfl, rfl, rfl, -⟩ := open_int Try.underlying3 (hok 3 _ v3 rfl rfl) h3
  obtain ⟨e, rfl, rfl, rfl, -⟩ := open_int Try.underlying3 (hok 4 _ v4 rfl rfl) h4
  exact spanOnce_walk a b o e hL

set_option maxRecDepth 100000 in
theorem spanOnce_over : Rows.spanOnceRow.holds Try.pinned (OpenSpec.ofChange Rows.spanOnceSpec) :=
  OpenClaim.holds_of_wide 4 Try.f4 rfl rfl rfl rfl rfl rfl rfl ⟨rfl, rfl, rfl, rfl, rfl⟩ rfl rfl rfl rfl rfl (by kernel_rfl) Try.func4 (by kernel_rfl)
    (of_decide_eq_true (by kernel_rfl)) (by unfold Func.isWrapper; first | (rw [if_pos (by decide +kernel)]; kernel_rfl) | (rw [if_neg (by decide +kernel)]; exact ⟨rfl, rfl⟩))
    (fun os started H enc _ => Frame.lifted (started := started) Try.underlying4 (by kernel_rfl) Try.func4 (n := 5) (by rw [Try.params4]; rfl) spanOnce_says (by rw [Try.params4]; kernel_rfl) (by kernel_rfl)
      (ChangeSpec.witness6 (enc := enc) (C := Try.checked) false ⟨#[], #[.slice none 0 0, .int .i64 0, .int .i64 0, .int .i64 0, .int .i64 0], []⟩ 8 (by kernel_rfl) (by kernel_rfl) (by kernel_rfl) (by kernel_rfl))
      (by rw [Try.params4]; exact spanOnce_walks))
end Spa
/-- The given statement. -/
theorem spanOnce_holds : Rows.SpanOnceSaid := Spa.spanOnce_over
end Go.Proofs.Ytjoemlifpbjdbaa
