/-
  WALKS: two parts of a row of ints changed over.
-/
import Derived.Test.YtnnphpfobdcmbaaLivSwap
import Derived.Deep.LoopGhost
namespace Go.Proofs.Ytnnphpfobdcmbaa
open Go.Shelf Go.RowKit Go.Lib Go.Sort Stab
namespace Liv
variable {α : Type} [Inhabited α]
set_option maxRecDepth 100000 in
set_option maxHeartbeats 8000000 in
theorem rotate_s {enc : α → Value} {blk off : Nat} (cap a m b : Nat) {d0 d : Array α} {w0 w : World} (fv : Value) (R : Row1 enc w0 blk off d0) (hs : d0.size = d.size) (S : SW enc w0 blk off d w) (ham : a < m) (hmb : m < b) (hb : b ≤ d.size) (hsz : d.size < 1000000) :
    Calls Try.prog 79 #[.slice (some ⟨blk, off, none⟩) d.size cap, .int .i64 a, .int .i64 m, .int .i64 b, fv] w fun e w' => e = .returned (.tuple #[]) ∧ ∃ d', Rot d d' a m b ∧ SW enc w0 blk off d' w' := by
  have S0 : Aside (SW enc w0 blk off d w) := S
  clear S
  have hi0 : (m : Int) - (a : Int) = ((m - a : Nat) : Int) := by omega
  have hj0 : (b : Int) - (m : Int) = ((b - m : Nat) : Int) := by omega
  generalize hI : m - a = i0 at hi0
  generalize hJ : b - m = j0 at hj0
  have HI0 : Hid (a = m - i0 ∧ b = m + j0 ∧ 1 ≤ i0 ∧ i0 ≤ m ∧ 1 ≤ j0) := by refine ⟨?_, ?_, ?_, ?_, ?_⟩ <;> omega
  clear hI hJ
  go_enter Try.func79, Try.ntmps79
  go_wp2_with fail
  clear hi0 hj0
  go_loopw [10, 11] (fun vi vj wr => ∃ (i j : Nat) (dk : Array α), vi = .int .i64 i ∧ vj = .int .i64 j ∧ 1 ≤ i ∧ 1 ≤ j ∧ i ≤ m ∧ m + j ≤ b ∧ dk.size = d.size ∧ Aside (SW enc w0 blk off dk wr) ∧ Hid (∀ d2, Rot dk d2 (m - i) m (m + j) → Rot d d2 a m b)) (fun vi vj _ => (intOf vi).toNat + (intOf vj).toNat)
  case atStart => exact ⟨i0, j0, d, rfl, rfl, HI0.out.2.2.1, HI0.out.2.2.2.2, HI0.out.2.2.2.1, by have := HI0.out; omega, rfl, S0, fun d2 h => by rw [HI0.out.1, HI0.out.2.1]; exact h⟩
  case round =>
    clear S0 HI0
    obtain ⟨i, j, dk, rfl, rfl, hi, hj, him, hjb, hsk, S1, HR⟩ := hrel
    have hq : (m : Int) - (i : Int) = ((m - i : Nat) : Int) := by omega
    by_cases hij : i = j
    · subst hij
      generalize hqq : m - i = q at hq HR
      have HQ := Lib.hid hqq
      clear hqq
      go_wp2_with (go_at_call 81; rw [← hsk]; refine (swapRange_s cap q m i fv R (hs.trans hsk.symm) S1.out (by omega) (by omega) (by omega)).mono ?_; rintro e' w2 ⟨rfl, d2, hW, hS⟩; have HW := Lib.hid hW; have S2 : Aside (SW enc w0 blk off d2 w2) := hS; clear hW hS)
      go_end0
      subst_vars
      exact ⟨rfl, d2, HR.out d2 (Rot.equal him HW.out), S2.out⟩
    · have hne : ¬ (i : Int) = (j : Int) := by omega
      by_cases hgt : j < i
      · have hg1 : (j : Int) < (i : Int) := by omega
        have hd1 : (i : Int) - (j : Int) = ((i - j : Nat) : Int) := by omega
        generalize hqq : m - i = q at hq HR
        generalize hpp : i - j = p at hd1
        have HQ := Lib.hid hqq
        have HP := Lib.hid hpp
        clear hqq hpp
        go_wp2_with (go_at_call 81; rw [← hsk]; refine (swapRange_s cap q m j fv R (hs.trans hsk.symm) S1.out (by omega) (by omega) (by omega)).mono ?_; rintro e' w2 ⟨rfl, d2, hW, hS⟩; have HW := Lib.hid hW; have S2 : Aside (SW enc w0 blk off d2 w2) := hS; clear hW hS)
        go_roundw
        case rel => exact ⟨p, j, d2, by go_num, rfl, by have := HP.out; omega, hj, by have := HP.out; omega, hjb, HW.out.size.trans hsk, S2, fun d3 h => HR.out d3 (by have := Rot.left hgt him (by rw [HQ.out]; exact HW.out) (by rw [HP.out]; exact h); rw [HQ.out] at this; exact this)⟩
        case measure => have := HP.out; simp [intOf]; omega
      · have hlt : i < j := by omega
        have hg1 : ¬ (j : Int) < (i : Int) := by omega
        have hd1 : (j : Int) - (i : Int) = ((j - i : Nat) : Int) := by omega
        have hd2 : (m : Int) + (j : Int) = ((m + j : Nat) : Int) := by omega
        have hd3 : ((m + j : Nat) : Int) - (i : Int) = ((m + j - i : Nat) : Int) := by omega
        generalize hqq : m - i = q at hq HR
        generalize hss : m + j - i = s at hd3
        generalize hmj : m + j = mj at hd2 hd3 HR hjb
        generalize hpp : j - i = p at hd1
        have HQ := Lib.hid hqq
        have HP := Lib.hid hpp
        have HS := Lib.hid hss
        have HMJ := Lib.hid hmj
        clear hqq hpp hss hmj
        go_wp2_with (go_at_call 81; rw [← hsk]; refine (swapRange_s cap q s i fv R (hs.trans hsk.symm) S1.out (by have := HQ.out; have := HS.out; omega) (by have := HQ.out; have := HS.out; omega) (by omega)).mono ?_; rintro e' w2 ⟨rfl, d2, hW, hS⟩; have HW := Lib.hid hW; have S2 : Aside (SW enc w0 blk off d2 w2) := hS; clear hW hS)
        go_roundw
        case rel => exact ⟨i, p, d2, rfl, by go_num, hi, by have := HP.out; omega, him, by have := HP.out; have := HMJ.out; omega, HW.out.size.trans hsk, S2, fun d3 h => HR.out d3 (by have := Rot.right hlt him (by rw [HQ.out, HS.out]; exact HW.out) (by rw [HP.out]; exact h); rw [HQ.out, HMJ.out] at this; exact this)⟩
        case measure => have := HP.out; simp [intOf]; omega
end Liv
end Go.Proofs.Ytnnphpfobdcmbaa
