/-
  THE STATEMENT CacheRoom: its row. For every input. (Written by gen_cacrows.py.)
-/
import Derived.Test.YtfngebikihdogaaCacRoom
import Derived.Test.YtfngebikihdogaaFrame
import Derived.BigQuiet
namespace Go.Proofs.Ytfngebikihdogaa
open Go.ChangeShapes Go.WideShapes Go.ChangeAt Go.RowKit Mem
namespace Cac

theorem cacheRoom_says : Frame.Says Rows.cacheRoomSpec 2 := by
  refine ⟨rfl, fun H ds h => ?_, fun H ds h => ?_, fun H ds h => ?_⟩ <;>
  · match ds, h with
    | [d0, d1], _ => rfl

set_option maxRecDepth 100000 in
theorem cacheRoom_walks : Frame.Walks 4 [3, 3] := by
  intro H enc W args ds ps base hok hA hsz
  obtain ⟨v0, vs0, d0, ds0, p0, q0, hargs, rfl, rfl, h0, r0⟩ := trodAll_cons hA
  obtain ⟨v1, vs1, d1, ds1, p1, q1, rfl, rfl, rfl, h1, r1⟩ := trodAll_cons r0
  obtain ⟨rfl, rfl, rfl⟩ := trodAll_nil r1
  obtain rfl : args = #[v0, v1] := by cases args; simp_all
  obtain ⟨many, rfl, rfl, rfl, -⟩ := open_int Try.underlying3 (hok 0 _ v0 rfl rfl) h0
  obtain ⟨ask, rfl, rfl, rfl, -⟩ := open_int Try.underlying3 (hok 1 _ v1 rfl rfl) h1
  exact room_walk many ask W

set_option maxRecDepth 100000 in
theorem cacheRoom_over : Rows.cacheRoomRow.holds Try.pinned (OpenSpec.ofChange Rows.cacheRoomSpec) :=
  OpenClaim.holds_of_wide 4 Try.f4 rfl rfl rfl rfl rfl rfl rfl ⟨rfl, rfl, rfl, rfl, rfl⟩ rfl rfl rfl rfl rfl (by kernel_rfl) Try.func4 (by kernel_rfl)
    (of_decide_eq_true (by kernel_rfl)) (by unfold Func.isWrapper; first | (rw [if_pos (by decide +kernel)]; kernel_rfl) | (rw [if_neg (by decide +kernel)]; exact ⟨rfl, rfl⟩))
    (fun os started H enc _ => Frame.lifted (started := started) Try.underlying4 (by kernel_rfl) Try.func4 (n := 2) (by rw [Try.params4]; rfl) cacheRoom_says (by rw [Try.params4]; kernel_rfl) (by kernel_rfl)
      (ChangeSpec.witness6 (enc := enc) (C := Try.checked) false ⟨#[], #[.int .i64 0, .int .i64 0], []⟩ 8 (by kernel_rfl) (by kernel_rfl) (by kernel_rfl) (by kernel_rfl))
      (by rw [Try.params4]; exact cacheRoom_walks))
end Cac
/-- The given statement. -/
theorem cacheRoom_holds : Rows.CacheRoomSaid := Cac.cacheRoom_over
end Go.Proofs.Ytfngebikihdogaa
