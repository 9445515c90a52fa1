/-
  ZONES IN PLAIN: what may be stays so.
-/
import Derived.Test.YtbmblgjilmgkeaaZonAny
namespace Go.Proofs.Ytbmblgjilmgkeaa
open Go.RowKit Mem
namespace Zon
theorem ok_iff {z : Zn} {most : Int} (h1 : 1 ≤ most) (h2 : most ≤ 65536) (h3 : 0 ≤ z.fc) : okB z most = mayB z.st z.len most := by
  unfold okB
  rw [decide_eq_false (by omega : ¬ most < 1), decide_eq_false (by omega : ¬ 65536 < most), decide_eq_false (by omega : ¬ z.fc < 0)]
  rfl
theorem may_less {st n most : Int} (h0 : 1 ≤ most) (h : mayB st n most = true) (h4 : st ≠ 4) : n < most := by
  unfold mayB at h
  rw [show (st == 4) = false from beq_eq_false_iff_ne.2 h4] at h
  rcases e0 : (st == 0) <;> rw [e0] at h
  · rcases e1 : (st == 1 || st == 3) <;> rw [e1] at h
    · rcases e2 : (st == 2) <;> rw [e2] at h
      · cases h
      · simpa using h
    · simp at h; exact h.2
  · simp at h; omega
theorem may4 {n most : Int} (h : n ≤ most) : mayB 4 n most = true := by
  unfold mayB
  rw [show ((4 : Int) == 0) = false from rfl, show ((4 : Int) == 1 || (4 : Int) == 3) = false from rfl, show ((4 : Int) == 2) = false from rfl, show ((4 : Int) == 4) = true from rfl]
  simpa using h
theorem may2 {n most : Int} (h : n < most) : mayB 2 n most = true := by
  unfold mayB
  rw [show ((2 : Int) == 0) = false from rfl, show ((2 : Int) == 1 || (2 : Int) == 3) = false from rfl, show ((2 : Int) == 2) = true from rfl]
  simpa using h
theorem may1 {n most : Int} (h0 : n ≠ 0) (h : n < most) : mayB 1 n most = true := by
  unfold mayB
  rw [show ((1 : Int) == 0) = false from rfl, show ((1 : Int) == 1 || (1 : Int) == 3) = true from rfl, beq_eq_false_iff_ne.2 h0]
  simpa using h
theorem may3 {n most : Int} (h0 : n ≠ 0) (h : n < most) : mayB 3 n most = true := by
  unfold mayB
  rw [show ((3 : Int) == 0) = false from rfl, show ((3 : Int) == 1 || (3 : Int) == 3) = true from rfl, beq_eq_false_iff_ne.2 h0]
  simpa using h
theorem app_ok {z : Zn} {most : Int} {b : List B8} (he : appErr z most b.length = 0) : okB (appZ z most b) most = true := by
  obtain ⟨h1, h2, h3, h4⟩ := appErr_zero he
  obtain ⟨p1, p2, p3, -, -⟩ := ok_parts h1
  rw [ok_iff p1 p2 (show 0 ≤ (appZ z most b).fc from p3)]
  have hl : (appZ z most b).len = z.len + b.length := by unfold Zn.len appZ; simp
  rw [hl]
  show mayB (stB z.st (z.len + b.length) most) _ _ = true
  have h0 : 0 ≤ z.len := Int.natCast_nonneg _
  unfold stB
  rcases e : (z.len + b.length == most)
  · have hne := beq_eq_false_iff_ne.1 e
    rcases e2 : (z.st == 2)
    · exact may1 (by omega) (by omega)
    · exact may2 (by omega)
  · exact may4 h4
theorem ok_full {z : Zn} {most : Int} (h : okB z most = true) : okB (inZ z 4) most = true := by
  obtain ⟨h1, h2, h3, -, h5⟩ := ok_parts h
  unfold okB
  rw [decide_eq_false (by omega : ¬ most < 1), decide_eq_false (by omega : ¬ 65536 < most), decide_eq_false (by show ¬ z.fc < 0; omega)]
  show (mayB 4 z.len most) = true
  unfold mayB
  rw [show ((4 : Int) == 0) = false from rfl, show ((4 : Int) == 1 || (4 : Int) == 3) = false from rfl, show ((4 : Int) == 2) = false from rfl, show ((4 : Int) == 4) = true from rfl]
  simpa using h5
theorem ok_new {z : Zn} {most : Int} (h : okB z most = true) : okB ⟨0, z.fc, []⟩ most = true := by
  obtain ⟨h1, h2, h3, -, -⟩ := ok_parts h
  unfold okB
  rw [decide_eq_false (by omega : ¬ most < 1), decide_eq_false (by omega : ¬ 65536 < most), decide_eq_false (by show ¬ z.fc < 0; omega)]
  rfl
end Zon
end Go.Proofs.Ytbmblgjilmgkeaa
