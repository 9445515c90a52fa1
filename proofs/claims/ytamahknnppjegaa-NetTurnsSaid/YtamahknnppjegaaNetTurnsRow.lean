/-
  THE STATEMENT NetTurns: its row. For every input that the row can read, no condition beside it. (Written by gen_netlaws.py.)
-/
import Derived.Test.YtamahknnppjegaaNetTurns
namespace Go.Proofs.Ytamahknnppjegaa
open Go.ChangeShapes Go.WideShapes Go.ChangeAt Go.RowKit Mem Args
namespace Net

theorem netTurns_says : Frame.Says Rows.netTurnsSpec 2 := by
  refine ⟨rfl, fun H ds h => ?_, fun H ds h => ?_, fun H ds h => ?_⟩ <;>
  · match ds, h with
    | [d0, d1], _ => rfl

set_option maxRecDepth 100000 in
theorem netTurns_walks : Frame.Walks 7 [26, 3] := by
  intro H enc W args ds ps base hok hA hsz
  obtain ⟨v0, vs0, d0, ds0, p0, q0, hargs, rfl, rfl, h0, r0⟩ := trodAll_cons hA
  obtain ⟨v1, vs1, d1, ds1, p1, q1, rfl, rfl, rfl, h1, r1⟩ := trodAll_cons r0
  obtain ⟨rfl, rfl, rfl⟩ := trodAll_nil r1
  obtain rfl : args = #[v0, v1] := by cases args; simp_all
  obtain ⟨A0, n0, c0, l0, rfl, k0⟩ := open_msgs (hok 0 _ v0 rfl rfl) h0 (sized_arg hsz (j := 0) rfl rfl)
  obtain ⟨z1, rfl, rfl, rfl, hz1⟩ := open_int Try.underlying3 (hok 1 _ v1 rfl rfl) h1
  exact turns_walk A0 n0 c0 l0 z1 W k0

set_option maxRecDepth 100000 in
theorem netTurns_over : Rows.netTurnsRow.holds Try.pinned (OpenSpec.ofChange Rows.netTurnsSpec) :=
  OpenClaim.holds_of_wide 7 Try.f7 rfl rfl rfl rfl rfl rfl rfl ⟨rfl, rfl, rfl, rfl, rfl⟩ rfl rfl rfl rfl rfl (by kernel_rfl) Try.func7 (by kernel_rfl)
    (of_decide_eq_true (by kernel_rfl)) (by unfold Func.isWrapper; first | (rw [if_pos (by decide +kernel)]; kernel_rfl) | (rw [if_neg (by decide +kernel)]; exact ⟨rfl, rfl⟩))
    (fun os started H enc _ => Frame.lifted (started := started) Try.underlying4 (by kernel_rfl) Try.func7 (n := 2) (by rw [Try.params7]; rfl) netTurns_says (by rw [Try.params7]; kernel_rfl) (by kernel_rfl)
      (ChangeSpec.witness6 (enc := enc) (C := Try.checked) false ⟨#[], #[.slice none 0 0, .int .i64 0], []⟩ 8 (by kernel_rfl) (by kernel_rfl) (by kernel_rfl) (by kernel_rfl))
      (by rw [Try.params7]; exact netTurns_walks))
end Net
/-- The given statement. -/
theorem netTurns_holds : Rows.NetTurnsSaid := Net.netTurns_over
end Go.Proofs.Ytamahknnppjegaa
