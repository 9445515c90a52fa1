/-
  THE STATEMENT LiveSkips: its row. For every input. (Written by gen_livrows.py.)
-/
import Derived.Test.YtnnphpfobdcmbaaLivSkips
import Derived.Test.YtnnphpfobdcmbaaLivCheck
import Derived.Test.YtnnphpfobdcmbaaZnsArgs
import Derived.Test.YtnnphpfobdcmbaaFrame
import Derived.BigQuiet
namespace Go.Proofs.Ytnnphpfobdcmbaa
open Go.ChangeShapes Go.WideShapes Go.ChangeAt Go.RowKit Mem
namespace Liv

theorem liveSkips_says : Frame.Says Rows.liveSkipsSpec 3 := by
  refine ⟨rfl, fun H ds h => ?_, fun H ds h => ?_, fun H ds h => ?_⟩ <;>
  · match ds, h with
    | [d0, d1, d2], _ => rfl

set_option maxRecDepth 100000 in
theorem liveSkips_walks : Frame.Walks 6 [38, 22, 26] := by
  intro H enc W args ds ps base hok hA hsz
  obtain ⟨v0, vs0, d0, ds0, p0, q0, hargs, rfl, rfl, h0, r0⟩ := trodAll_cons hA
  obtain ⟨v1, vs1, d1, ds1, p1, q1, rfl, rfl, rfl, h1, r1⟩ := trodAll_cons r0
  obtain ⟨v2, vs2, d2, ds2, p2, q2, rfl, rfl, rfl, h2, r2⟩ := trodAll_cons r1
  obtain ⟨rfl, rfl, rfl⟩ := trodAll_nil r2
  obtain rfl : args = #[v0, v1, v2] := by cases args; simp_all
  obtain ⟨x0, rfl, hd0⟩ := Args.open_dev (hok 0 _ v0 rfl rfl) h0 (Args.sized_arg hsz (j := 0) rfl rfl)
  obtain ⟨A1, n1, c1, l1, rfl, hl1, hs1⟩ := Args.open_extsN (hok 1 _ v1 rfl rfl) h1 (Args.sized_arg hsz (j := 1) rfl rfl)
  obtain ⟨A2, n2, c2, l2, rfl, hk2, -⟩ := Args.open_ints_ (hok 2 _ v2 rfl rfl) h2 (Args.sized_arg hsz (j := 2) rfl rfl)
  exact liveSkips_walk hd0 hl1 hs1 hk2

set_option maxRecDepth 100000 in
theorem liveSkips_over : Rows.liveSkipsRow.holds Try.pinned (OpenSpec.ofChange Rows.liveSkipsSpec) :=
  OpenClaim.holds_of_wide 6 Try.f6 rfl rfl rfl rfl rfl rfl rfl ⟨rfl, rfl, rfl, rfl, rfl⟩ rfl rfl rfl rfl rfl (by kernel_rfl) Try.func6 (by kernel_rfl)
    (of_decide_eq_true (by kernel_rfl)) (by unfold Func.isWrapper; first | (rw [if_pos (by decide +kernel)]; kernel_rfl) | (rw [if_neg (by decide +kernel)]; exact ⟨rfl, rfl⟩))
    (fun os started H enc _ => Frame.lifted (started := started) Try.underlying4 (by kernel_rfl) Try.func6 (n := 3) (by rw [Try.params6]; rfl) liveSkips_says (by rw [Try.params6]; kernel_rfl) (by kernel_rfl)
      (ChangeSpec.witness6 (enc := enc) (C := Try.checked) false ⟨#[], #[.agg #[.int .i64 0, .int .i64 0, .int .i64 0, .slice none 0 0], .slice none 0 0, .slice none 0 0], []⟩ 8 (by kernel_rfl) (by kernel_rfl) (by kernel_rfl) (by kernel_rfl))
      (by rw [Try.params6]; exact liveSkips_walks))
end Liv
/-- The given statement. -/
theorem liveSkips_holds : Rows.LiveSkipsSaid := Liv.liveSkips_over
end Go.Proofs.Ytnnphpfobdcmbaa
