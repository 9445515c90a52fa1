/-
  THE STATEMENT ZoneCounts: of every slice of zones, how many are open, and active, as the document counts them; the argument stays as it was. For every input.
-/
import Derived.Test.YtfcehlipbdngbaaZonCount
namespace Go.Proofs.Ytfcehlipbdngbaa
open Go.ChangeShapes Go.WideShapes Go.ChangeAt Go.RowKit Mem
namespace Zon

set_option maxRecDepth 100000 in
set_option maxHeartbeats 3200000 in
theorem zoneCounts_walk (A : Option Addr) (n c : Nat) (xs : List Zv) (w : World) (hr : RowS cellsZ 3 w A n c xs) :
    Calls Try.prog 6 #[.slice A n c] w fun e w' => e = .returned (.bool true) ∧ Below w.heap.size w w' := by
  have HR := Lib.hid hr
  have hbig := hr.big
  clear hr
  have H1 := fun w (h : RowS cellsZ 3 w A n c xs) => Lib.hid (opened_any h)
  have H2 := fun w (h : RowS cellsZ 3 w A n c xs) => Lib.hid (refOpened_any h)
  have H3 := fun w (h : RowS cellsZ 3 w A n c xs) => Lib.hid (active_any h)
  have H4 := fun w (h : RowS cellsZ 3 w A n c xs) => Lib.hid (refActive_any h)
  have hle := cnt_le xs
  have hd : decide (cntO xs ≤ cntA xs) = true := by simpa using hle
  clear hle
  generalize cntO xs = p at *
  generalize cntA xs = q at *
  have hp : ((p : Int) == (p : Int)) = true := by simp
  have hq : ((q : Int) == (q : Int)) = true := by simp
  by_cases hn : 1000 < n
  · have hn' : decide ((1000 : Int) < (n : Int)) = true := by simp; omega
    go_enter Try.func6, Try.ntmps6
    go_wp2_with fail
    refine (live_any w).mono ?_
    rintro e w1 ⟨rfl, hb⟩
    have B1 := Lib.hid hb
    clear hb
    go_wp2_with fail
    go_ret
    exact ⟨rfl, B1.out⟩
  · have hn' : decide ((1000 : Int) < (n : Int)) = false := by simp; omega
    go_enter Try.func6, Try.ntmps6
    go_wp2_with fail
    refine (live_any w).mono ?_
    rintro e w1 ⟨rfl, hb⟩
    have B1 := Lib.hid hb
    clear hb
    go_wp2_with fail
    refine (H1 w1 (HR.out.below B1.out)).out.mono ?_
    rintro e w2 ⟨rfl, hb⟩
    have B2 := Lib.hid (B1.out.trans (hb.mono B1.out.size))
    clear hb
    go_wp2_with fail
    refine (H2 w2 (HR.out.below B2.out)).out.mono ?_
    rintro e w3 ⟨rfl, hb⟩
    have B3 := Lib.hid (B2.out.trans (hb.mono B2.out.size))
    clear hb
    go_wp2_with fail
    refine (H3 w3 (HR.out.below B3.out)).out.mono ?_
    rintro e w4 ⟨rfl, hb⟩
    have B4 := Lib.hid (B3.out.trans (hb.mono B3.out.size))
    clear hb
    go_wp2_with fail
    refine (H4 w4 (HR.out.below B4.out)).out.mono ?_
    rintro e w5 ⟨rfl, hb⟩
    have B5 := Lib.hid (B4.out.trans (hb.mono B4.out.size))
    clear hb
    go_wp2_with fail
    refine (H1 w5 (HR.out.below B5.out)).out.mono ?_
    rintro e w6 ⟨rfl, hb⟩
    have B6 := Lib.hid (B5.out.trans (hb.mono B5.out.size))
    clear hb
    go_wp2_with fail
    refine (H3 w6 (HR.out.below B6.out)).out.mono ?_
    rintro e w7 ⟨rfl, hb⟩
    have B7 := Lib.hid (B6.out.trans (hb.mono B6.out.size))
    clear hb
    go_wp2_with fail
    go_ret
    exact ⟨rfl, B7.out⟩

theorem zoneCounts_says : Frame.Says Rows.zoneCountsSpec 1 := by
  refine ⟨rfl, fun H ds h => ?_, fun H ds h => ?_, fun H ds h => ?_⟩ <;>
  · match ds, h with
    | [d1], _ => rfl

set_option maxRecDepth 100000 in
theorem zoneCounts_walks : Frame.Walks 6 [46] := by
  intro H enc W args ds ps base hok hA hsz
  obtain ⟨v0, vs0, d0, ds0, p0, q0, hargs, rfl, rfl, h0, r0⟩ := trodAll_cons hA
  obtain ⟨rfl, rfl, rfl⟩ := trodAll_nil r0
  obtain rfl : args = #[v0] := by cases args; simp_all
  obtain ⟨A, n, c, xs, rfl, h1, -⟩ := Args.open_zones (hok 0 _ v0 rfl rfl) h0 (Args.sized_arg hsz (j := 0) rfl rfl)
  exact zoneCounts_walk A n c xs W h1

set_option maxRecDepth 100000 in
theorem zoneCounts_over : Rows.zoneCountsRow.holds Try.pinned (OpenSpec.ofChange Rows.zoneCountsSpec) :=
  OpenClaim.holds_of_wide 6 Try.f6 rfl rfl rfl rfl rfl rfl rfl ⟨rfl, rfl, rfl, rfl, rfl⟩ rfl rfl rfl rfl rfl (by kernel_rfl) Try.func6 (by kernel_rfl)
    (of_decide_eq_true (by kernel_rfl)) (by unfold Func.isWrapper; first | (rw [if_pos (by decide +kernel)]; kernel_rfl) | (rw [if_neg (by decide +kernel)]; exact ⟨rfl, rfl⟩))
    (fun os started H enc _ => Frame.lifted (started := started) Try.underlying4 (by kernel_rfl) Try.func6 (n := 1) (by rw [Try.params6]; rfl) zoneCounts_says (by rw [Try.params6]; kernel_rfl) (by kernel_rfl)
      (ChangeSpec.witness6 (enc := enc) (C := Try.checked) false ⟨#[], #[.slice none 0 0], []⟩ 8 (by kernel_rfl) (by kernel_rfl) (by kernel_rfl) (by kernel_rfl))
      (by rw [Try.params6]; exact zoneCounts_walks))
end Zon
/-- The given statement. -/
theorem zoneCounts_holds : Rows.ZoneCountsSaid := Zon.zoneCounts_over
end Go.Proofs.Ytfcehlipbdngbaa
