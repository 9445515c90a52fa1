/-
  THE STATEMENT NetBack: its row. For every input that the row can read, no condition beside it. (Written by gen_netlaws.py.)
-/
import Derived.Test.YtamahknnppjegaaNetBack
namespace Go.Proofs.Ytamahknnppjegaa
open Go.ChangeShapes Go.WideShapes Go.ChangeAt Go.RowKit Mem Args
namespace Net

theorem netBack_says : Frame.Says Rows.netBackSpec 3 := by
  refine ⟨rfl, fun H ds h => ?_, fun H ds h => ?_, fun H ds h => ?_⟩ <;>
  · match ds, h with
    | [d0, d1, d2], _ => rfl

set_option maxRecDepth 100000 in
theorem netBack_walks : Frame.Walks 5 [3, 26, 23] := by
  intro H enc W args ds ps base hok hA hsz
  obtain ⟨v0, vs0, d0, ds0, p0, q0, hargs, rfl, rfl, h0, r0⟩ := trodAll_cons hA
  obtain ⟨v1, vs1, d1, ds1, p1, q1, rfl, rfl, rfl, h1, r1⟩ := trodAll_cons r0
  obtain ⟨v2, vs2, d2, ds2, p2, q2, rfl, rfl, rfl, h2, r2⟩ := trodAll_cons r1
  obtain ⟨rfl, rfl, rfl⟩ := trodAll_nil r2
  obtain rfl : args = #[v0, v1, v2] := by cases args; simp_all
  obtain ⟨z0, rfl, rfl, rfl, hz0⟩ := open_int Try.underlying3 (hok 0 _ v0 rfl rfl) h0
  obtain ⟨A1, n1, c1, l1, rfl, k1⟩ := open_msgs (hok 1 _ v1 rfl rfl) h1 (sized_arg hsz (j := 1) rfl rfl)
  obtain ⟨A2, n2, c2, l2, rfl, k2⟩ := open_bytes (hok 2 _ v2 rfl rfl) h2 (sized_arg hsz (j := 2) rfl rfl)
  exact back_walk z0 A1 n1 c1 l1 A2 n2 c2 l2 W k1 k2

set_option maxRecDepth 100000 in
theorem netBack_over : Rows.netBackRow.holds Try.pinned (OpenSpec.ofChange Rows.netBackSpec) :=
  OpenClaim.holds_of_wide 5 Try.f5 rfl rfl rfl rfl rfl rfl rfl ⟨rfl, rfl, rfl, rfl, rfl⟩ rfl rfl rfl rfl rfl (by kernel_rfl) Try.func5 (by kernel_rfl)
    (of_decide_eq_true (by kernel_rfl)) (by unfold Func.isWrapper; first | (rw [if_pos (by decide +kernel)]; kernel_rfl) | (rw [if_neg (by decide +kernel)]; exact ⟨rfl, rfl⟩))
    (fun os started H enc _ => Frame.lifted (started := started) Try.underlying4 (by kernel_rfl) Try.func5 (n := 3) (by rw [Try.params5]; rfl) netBack_says (by rw [Try.params5]; kernel_rfl) (by kernel_rfl)
      (ChangeSpec.witness6 (enc := enc) (C := Try.checked) false ⟨#[], #[.int .i64 0, .slice none 0 0, .slice none 0 0], []⟩ 8 (by kernel_rfl) (by kernel_rfl) (by kernel_rfl) (by kernel_rfl))
      (by rw [Try.params5]; exact netBack_walks))
end Net
/-- The given statement. -/
theorem netBack_holds : Rows.NetBackSaid := Net.netBack_over
end Go.Proofs.Ytamahknnppjegaa
