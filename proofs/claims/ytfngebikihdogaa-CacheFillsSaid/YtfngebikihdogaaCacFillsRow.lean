/-
  THE STATEMENT CacheFills: its row. For every input. (Written by gen_cacrows.py.)
-/
import Derived.Test.YtfngebikihdogaaCacFills
import Derived.Test.YtfngebikihdogaaFrame
import Derived.BigQuiet
namespace Go.Proofs.Ytfngebikihdogaa
open Go.ChangeShapes Go.WideShapes Go.ChangeAt Go.RowKit Mem
namespace Cac

theorem cacheFills_says : Frame.Says Rows.cacheFillsSpec 4 := by
  refine ⟨rfl, fun H ds h => ?_, fun H ds h => ?_, fun H ds h => ?_⟩ <;>
  · match ds, h with
    | [d0, d1, d2, d3], _ => rfl

set_option maxRecDepth 100000 in
theorem cacheFills_walks : Frame.Walks 5 [3, 3, 3, 3] := by
  intro H enc W args ds ps base hok hA hsz
  obtain ⟨v0, vs0, d0, ds0, p0, q0, hargs, rfl, rfl, h0, r0⟩ := trodAll_cons hA
  obtain ⟨v1, vs1, d1, ds1, p1, q1, rfl, rfl, rfl, h1, r1⟩ := trodAll_cons r0
  obtain ⟨v2, vs2, d2, ds2, p2, q2, rfl, rfl, rfl, h2, r2⟩ := trodAll_cons r1
  obtain ⟨v3, vs3, d3, ds3, p3, q3, rfl, rfl, rfl, h3, r3⟩ := trodAll_cons r2
  obtain ⟨rfl, rfl, rfl⟩ := trodAll_nil r3
  obtain rfl : args = #[v0, v1, v2, v3] := by cases args; simp_all
  obtain ⟨most, rfl, rfl, rfl, -⟩ := open_int Try.underlying3 (hok 0 _ v0 rfl rfl) h0
  obtain ⟨lba, rfl, rfl, rfl, -⟩ := open_int Try.underlying3 (hok 1 _ v1 rfl rfl) h1
  obtain ⟨ver, rfl, rfl, rfl, -⟩ := open_int Try.underlying3 (hok 2 _ v2 rfl rfl) h2
  obtain ⟨many, rfl, rfl, rfl, -⟩ := open_int Try.underlying3 (hok 3 _ v3 rfl rfl) h3
  exact fills_walk most lba ver many W

set_option maxRecDepth 100000 in
theorem cacheFills_over : Rows.cacheFillsRow.holds Try.pinned (OpenSpec.ofChange Rows.cacheFillsSpec) :=
  OpenClaim.holds_of_wide 5 Try.f5 rfl rfl rfl rfl rfl rfl rfl ⟨rfl, rfl, rfl, rfl, rfl⟩ rfl rfl rfl rfl rfl (by kernel_rfl) Try.func5 (by kernel_rfl)
    (of_decide_eq_true (by kernel_rfl)) (by unfold Func.isWrapper; first | (rw [if_pos (by decide +kernel)]; kernel_rfl) | (rw [if_neg (by decide +kernel)]; exact ⟨rfl, rfl⟩))
    (fun os started H enc _ => Frame.lifted (started := started) Try.underlying4 (by kernel_rfl) Try.func5 (n := 4) (by rw [Try.params5]; rfl) cacheFills_says (by rw [Try.params5]; kernel_rfl) (by kernel_rfl)
      (ChangeSpec.witness6 (enc := enc) (C := Try.checked) false ⟨#[], #[.int .i64 0, .int .i64 0, .int .i64 0, .int .i64 0], []⟩ 8 (by kernel_rfl) (by kernel_rfl) (by kernel_rfl) (by kernel_rfl))
      (by rw [Try.params5]; exact cacheFills_walks))
end Cac
/-- The given statement. -/
theorem cacheFills_holds : Rows.CacheFillsSaid := Cac.cacheFills_over
end Go.Proofs.Ytfngebikihdogaa
