/-
  zone IN PLAIN: what may be, what an append gives, and why not.
-/
import Derived.Test.YtnnphpfobdcmbaaMem
namespace Go.Proofs.Ytnnphpfobdcmbaa
open Go.RowKit Mem
namespace Zon
abbrev B8 := BitVec 8
/-- A zone, in plain. -/
structure Zn where
  st : Int
  fc : Int
  data : List B8
def nilZ : Zn := ⟨0, 0, []⟩
def Zn.len (z : Zn) : Int := (z.data.length : Int)
/-- A zone as a value. -/
def zv (z : Zn) (D : Option Addr) (c : Nat) : Value := .agg #[.int .i64 z.st, .int .i64 z.fc, .slice D z.data.length c]

/-- How many bytes may stand in a state. -/
def mayB (st n most : Int) : Bool :=
  bif st == 0 then n == 0 else bif (st == 1 || st == 3) then !(n == 0) && decide (n < most) else bif st == 2 then decide (n < most) else bif st == 4 then decide (n ≤ most) else false
def okB (z : Zn) (most : Int) : Bool := !decide (most < 1) && (!decide (65536 < most) && (!decide (z.fc < 0) && mayB z.st z.len most))
def errOf (b : Bool) : Int := bif b then 0 else 1
/-- Why bytes can't be appended. -/
def appErr (z : Zn) (most : Int) (n : Nat) : Int :=
  bif !okB z most then 1 else bif n == 0 then 1 else bif z.st == 4 then 41 else bif decide (most < z.len + n) then 40 else 0
def stB (st n most : Int) : Int := bif n == most then 4 else bif st == 2 then 2 else 1
def appZ (z : Zn) (most : Int) (b : List B8) : Zn := ⟨stB z.st (z.len + b.length) most, z.fc, z.data ++ b⟩
def inZ (z : Zn) (st : Int) : Zn := ⟨st, z.fc, z.data⟩

theorem mayB_le {st most : Int} {n : Nat} (hm : 0 ≤ most) (h : mayB st n most = true) : (n : Int) ≤ most := by
  unfold mayB at h
  rcases e0 : (st == 0) <;> rw [e0] at h
  · rcases e1 : (st == 1 || st == 3) <;> rw [e1] at h
    · rcases e2 : (st == 2) <;> rw [e2] at h
      · rcases e4 : (st == 4) <;> rw [e4] at h
        · simp at h
        · simpa using h
      · simp at h; omega
    · simp at h; omega
  · simp at h; omega
theorem ok_parts {z : Zn} {most : Int} (h : okB z most = true) : 1 ≤ most ∧ most ≤ 65536 ∧ 0 ≤ z.fc ∧ mayB z.st z.len most = true ∧ z.len ≤ most := by
  unfold okB at h
  simp only [Bool.and_eq_true, Bool.not_eq_true', decide_eq_false_iff_not] at h
  obtain ⟨h1, h2, h3, h4⟩ := h
  exact ⟨by omega, by omega, by omega, h4, mayB_le (by omega) h4⟩
theorem ok_not {z : Zn} {most : Int} (h : okB z most = false) : most < 1 ∨ 65536 < most ∨ z.fc < 0 ∨ mayB z.st z.len most = false := by
  unfold okB at h
  simp only [Bool.and_eq_false_iff, Bool.not_eq_false', decide_eq_true_eq] at h
  exact h
/-- The ways that an append may go. -/
theorem app_cases (z : Zn) (most : Int) (n : Nat) :
    (okB z most = false ∧ appErr z most n = 1) ∨ (okB z most = true ∧ n = 0 ∧ appErr z most n = 1) ∨ (okB z most = true ∧ 0 < n ∧ z.st = 4 ∧ appErr z most n = 41) ∨
      (okB z most = true ∧ 0 < n ∧ z.st ≠ 4 ∧ most < z.len + n ∧ appErr z most n = 40) ∨ (okB z most = true ∧ 0 < n ∧ z.st ≠ 4 ∧ z.len + n ≤ most ∧ appErr z most n = 0) := by
  unfold appErr
  rcases ho : okB z most
  · exact .inl ⟨rfl, rfl⟩
  · refine .inr ?_
    rcases Nat.eq_zero_or_pos n with h0 | h0
    · subst h0; exact .inl ⟨rfl, rfl, rfl⟩
    · refine .inr ?_
      have e0 : (n == 0) = false := beq_eq_false_iff_ne.2 (by omega)
      rw [e0]
      by_cases h4 : z.st = 4
      · refine .inl ⟨rfl, h0, h4, ?_⟩
        rw [h4]; rfl
      · refine .inr ?_
        have e4 : (z.st == 4) = false := beq_eq_false_iff_ne.2 h4
        rw [e4]
        by_cases hf : most < z.len + n
        · refine .inl ⟨rfl, h0, h4, hf, ?_⟩
          rw [decide_eq_true hf]; rfl
        · refine .inr ⟨rfl, h0, h4, by omega, ?_⟩
          rw [decide_eq_false hf]; rfl
theorem appErr_le (z : Zn) (most : Int) (n : Nat) : appErr z most n = 0 ∨ appErr z most n = 1 ∨ appErr z most n = 41 ∨ appErr z most n = 40 := by
  rcases app_cases z most n with ⟨-, h⟩ | ⟨-, -, h⟩ | ⟨-, -, -, h⟩ | ⟨-, -, -, -, h⟩ | ⟨-, -, -, -, h⟩ <;> simp [h]
theorem appErr_zero {z : Zn} {most : Int} {n : Nat} (h : appErr z most n = 0) : okB z most = true ∧ 0 < n ∧ z.st ≠ 4 ∧ z.len + n ≤ most := by
  rcases app_cases z most n with ⟨-, h'⟩ | ⟨-, -, h'⟩ | ⟨-, -, -, h'⟩ | ⟨-, -, -, -, h'⟩ | ⟨h1, h2, h3, h4, -⟩
  · rw [h] at h'; cases h'
  · rw [h] at h'; cases h'
  · rw [h] at h'; cases h'
  · rw [h] at h'; cases h'
  · exact ⟨h1, h2, h3, h4⟩
theorem appErr_of {z : Zn} {most : Int} {n : Nat} (h1 : okB z most = true) (h2 : 0 < n) (h3 : z.st ≠ 4) (h4 : z.len + n ≤ most) : appErr z most n = 0 := by
  unfold appErr
  rw [h1, beq_eq_false_iff_ne.2 (by omega : n ≠ 0), beq_eq_false_iff_ne.2 h3, decide_eq_false (by omega)]
  rfl
end Zon
end Go.Proofs.Ytnnphpfobdcmbaa
