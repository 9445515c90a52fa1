/-
  WHAT IS DONE WITH A ZONE, ONE BY ONE (the law's own step): what it gives, and that the zone may be, and keeps its bytes.
-/
import Derived.Test.YtfcehlipbdngbaaZonBut
import Derived.Test.YtfcehlipbdngbaaZonOpen
namespace Go.Proofs.Ytfcehlipbdngbaa
open Go.ChangeShapes Go.WideShapes Go.ChangeAt Go.RowKit Mem
namespace Zon

/-- Something that is done with a zone. -/
structure Ov where
  d : Int
  b : List B8
  n : Int
  off : Int
  B : Option Addr
  c : Nat
def cellsO (x : Ov) : List Value := [.int .i64 x.d, .slice x.B x.b.length x.c, .int .i64 x.n, .int .i64 x.off]
def ov (x : Ov) : Value := .agg #[.int .i64 x.d, .slice x.B x.b.length x.c, .int .i64 x.n, .int .i64 x.off]
def stepZ (z : Zn) (most : Int) (o : Ov) : Zn :=
  bif o.d == 0 then appRes z most o.b else bif o.d == 1 then tornZ z most o.b o.n else bif o.d == 2 then openZ z most else bif o.d == 3 then closeZ z else bif o.d == 4 then inZ z 4 else bif o.d == 5 then ⟨0, z.fc, []⟩ else z
def stepE (z : Zn) (most : Int) (o : Ov) : Int :=
  bif o.d == 0 then appErr z most o.b.length else bif o.d == 1 then tornErr z most o.b o.n else bif o.d == 2 then openErr z most else bif o.d == 3 then closeErr z else bif o.d == 4 then 0 else bif o.d == 5 then 0 else errOf (readB z o.off o.n)

/-! ### What follows: a zone that may be stays one; what is there stays -/
theorem ok_iff {z : Zn} {most : Int} (h1 : 1 ≤ most) (h2 : most ≤ 65536) (h3 : 0 ≤ z.fc) : okB z most = mayB z.st z.len most := by
  unfold okB
  rw [decide_eq_false (by omega : ¬ most < 1), decide_eq_false (by omega : ¬ 65536 < most), decide_eq_false (by omega : ¬ z.fc < 0)]
  rfl
theorem may_less {st n most : Int} (h0 : 1 ≤ most) (h : mayB st n most = true) (h4 : st ≠ 4) : n < most := by
  unfold mayB at h
  rw [show (st == 4) = false from beq_eq_false_iff_ne.2 h4] at h
  rcases e0 : (st == 0) <;> rw [e0] at h
  · rcases e1 : (st == 1 || st == 3) <;> rw [e1] at h
    · rcases e2 : (st == 2) <;> rw [e2] at h
      · cases h
      · simpa using h
    · simp at h; exact h.2
  · simp at h; omega
theorem may4 {n most : Int} (h : n ≤ most) : mayB 4 n most = true := by
  unfold mayB
  rw [show ((4 : Int) == 0) = false from rfl, show ((4 : Int) == 1 || (4 : Int) == 3) = false from rfl, show ((4 : Int) == 2) = false from rfl, show ((4 : Int) == 4) = true from rfl]
  simpa using h
theorem may2 {n most : Int} (h : n < most) : mayB 2 n most = true := by
  unfold mayB
  rw [show ((2 : Int) == 0) = false from rfl, show ((2 : Int) == 1 || (2 : Int) == 3) = false from rfl, show ((2 : Int) == 2) = true from rfl]
  simpa using h
theorem may1 {n most : Int} (h0 : n ≠ 0) (h : n < most) : mayB 1 n most = true := by
  unfold mayB
  rw [show ((1 : Int) == 0) = false from rfl, show ((1 : Int) == 1 || (1 : Int) == 3) = true from rfl, beq_eq_false_iff_ne.2 h0]
  simpa using h
theorem may3 {n most : Int} (h0 : n ≠ 0) (h : n < most) : mayB 3 n most = true := by
  unfold mayB
  rw [show ((3 : Int) == 0) = false from rfl, show ((3 : Int) == 1 || (3 : Int) == 3) = true from rfl, beq_eq_false_iff_ne.2 h0]
  simpa using h
theorem app_ok {z : Zn} {most : Int} {b : List B8} (he : appErr z most b.length = 0) : okB (appZ z most b) most = true := by
  obtain ⟨h1, h2, h3, h4⟩ := appErr_zero he
  obtain ⟨p1, p2, p3, -, -⟩ := ok_parts h1
  rw [ok_iff p1 p2 (show 0 ≤ (appZ z most b).fc from p3)]
  have hl : (appZ z most b).len = z.len + b.length := by unfold Zn.len appZ; simp
  rw [hl]
  show mayB (stB z.st (z.len + b.length) most) _ _ = true
  have h0 : 0 ≤ z.len := Int.natCast_nonneg _
  unfold stB
  rcases e : (z.len + b.length == most)
  · have hne := beq_eq_false_iff_ne.1 e
    rcases e2 : (z.st == 2)
    · exact may1 (by omega) (by omega)
    · exact may2 (by omega)
  · exact may4 h4
/-- What a step leaves, where it is told that all is well. -/
structure Keeps (z : Zn) (most : Int) (o : Ov) (x : Zn) : Prop where
  ok : okB x most = true
  fc : x.fc = z.fc
  five : o.d = 5 → x.st = 0 ∧ x.data.length = 0
  rest : o.d ≠ 5 → z.data.length ≤ x.data.length ∧ x.data.take z.data.length = z.data ∧ (z.st = 4 → x.st = 4)
theorem app_keeps {z : Zn} {most : Int} {o : Ov} {b : List B8} (h5 : o.d ≠ 5) (he : appErr z most b.length = 0) : Keeps z most o (appZ z most b) := by
  obtain ⟨h1, h2, h3, h4⟩ := appErr_zero he
  exact ⟨app_ok he, rfl, fun h => absurd h h5, fun _ => ⟨by show _ ≤ (z.data ++ b).length; simp, by show (z.data ++ b).take _ = _; simp, fun h => absurd h h3⟩⟩
theorem same_keeps {z : Zn} {most : Int} {o : Ov} (h5 : o.d ≠ 5) (h : okB z most = true) : Keeps z most o z :=
  ⟨h, rfl, fun h => absurd h h5, fun _ => ⟨Nat.le_refl _, by simp, id⟩⟩
theorem in_keeps {z : Zn} {most : Int} {o : Ov} {st : Int} (h5 : o.d ≠ 5) (h : okB z most = true) (hm : mayB st z.len most = true) (h4 : z.st = 4 → st = 4) : Keeps z most o (inZ z st) := by
  obtain ⟨p1, p2, p3, -, -⟩ := ok_parts h
  exact ⟨by rw [ok_iff p1 p2 (show 0 ≤ (inZ z st).fc from p3)]; exact hm, rfl, fun h => absurd h h5, fun _ => ⟨Nat.le_refl _, by show z.data.take _ = _; simp, h4⟩⟩
theorem step_keeps {z : Zn} {most : Int} {o : Ov} (h : okB z most = true) (he : stepE z most o = 0) : Keeps z most o (stepZ z most o) := by
  obtain ⟨p1, p2, p3, p4, p5⟩ := ok_parts h
  unfold stepE at he
  unfold stepZ
  rcases e0 : (o.d == 0)
  · rcases e1 : (o.d == 1)
    · rcases e2 : (o.d == 2)
      · rcases e3 : (o.d == 3)
        · rcases e4 : (o.d == 4)
          · rcases e5 : (o.d == 5)
            · exact same_keeps (beq_eq_false_iff_ne.1 e5) h
            · have h5 := beq_iff_eq.1 e5
              simp only [cond_false, cond_true]
              exact ⟨by rw [ok_iff p1 p2 (show 0 ≤ (⟨0, z.fc, []⟩ : Zn).fc from p3)]; rfl, rfl, fun _ => ⟨rfl, rfl⟩, fun h => absurd h5 h⟩
          · have h5 := beq_iff_eq.1 e4
            exact in_keeps (by omega) h (may4 p5) (fun _ => rfl)
        · have h5 := beq_iff_eq.1 e3
          rw [e0, e1, e2, e3] at he
          simp only [cond_false, cond_true] at he ⊢
          unfold closeErr at he
          unfold closeZ
          rcases ec : (z.st == 0 || z.st == 4)
          · simp only [Bool.or_eq_false_iff] at ec
            have hn4 := beq_eq_false_iff_ne.1 ec.2
            rcases el : (z.data.length == 0)
            · have := beq_eq_false_iff_ne.1 el
              exact in_keeps (by omega) h (may3 (by unfold Zn.len; omega) (may_less p1 p4 hn4)) (fun h => absurd h hn4)
            · have := beq_iff_eq.1 el
              exact in_keeps (by omega) h (by unfold Zn.len; rw [this]; rfl) (fun h => absurd h hn4)
          · rw [ec] at he; cases he
      · have h5 := beq_iff_eq.1 e2
        rw [e0, e1, e2] at he
        simp only [cond_false, cond_true] at he ⊢
        unfold openZ
        rw [he]
        unfold openErr at he
        rw [h] at he
        rcases e4 : (z.st == 4)
        · have hn4 := beq_eq_false_iff_ne.1 e4
          exact in_keeps (by omega) h (may2 (may_less p1 p4 hn4)) (fun h => absurd h hn4)
        · rw [e4] at he; cases he
    · have h5 := beq_iff_eq.1 e1
      rw [e0, e1] at he
      simp only [cond_false, cond_true] at he ⊢
      unfold tornZ
      rw [he]
      unfold tornErr at he
      rcases ea : (appErr z most o.b.length == 0)
      · rw [ea] at he
        exact absurd he (beq_eq_false_iff_ne.1 ea)
      · rw [ea] at he
        simp only [cond_true] at he
        obtain ⟨q1, q2, q3, q4⟩ := appErr_zero (beq_iff_eq.1 ea)
        rcases ek : (decide (o.n < 0) || decide ((o.b.length : Int) < o.n))
        · simp only [Bool.or_eq_false_iff, decide_eq_false_iff_not] at ek
          rcases k0 : (o.n == 0)
          · have hk := beq_eq_false_iff_ne.1 k0
            have htl : (o.b.take o.n.toNat).length = o.n.toNat := by rw [List.length_take]; omega
            exact app_keeps (by omega) (appErr_of q1 (by omega) q3 (by omega))
          · exact same_keeps (by omega) h
        · rw [ek] at he; cases he
  · have h5 := beq_iff_eq.1 e0
    rw [e0] at he
    simp only [cond_true] at he ⊢
    unfold appRes
    rw [he]
    exact app_keeps (by omega) he
theorem step_nil {z : Zn} {most : Int} {o : Ov} (he : stepE z most o ≠ 0) (h0 : 0 ≤ o.d) (h5 : o.d ≤ 5) : (stepZ z most o).data.length = 0 := by
  unfold stepE at he
  unfold stepZ
  rcases e0 : (o.d == 0)
  · rcases e1 : (o.d == 1)
    · rcases e2 : (o.d == 2)
      · rcases e3 : (o.d == 3)
        · rcases e4 : (o.d == 4)
          · rcases e5 : (o.d == 5)
            · have n0 := beq_eq_false_iff_ne.1 e0
              have n1 := beq_eq_false_iff_ne.1 e1
              have n2 := beq_eq_false_iff_ne.1 e2
              have n3 := beq_eq_false_iff_ne.1 e3
              have n4 := beq_eq_false_iff_ne.1 e4
              have n5 := beq_eq_false_iff_ne.1 e5
              omega
            · rfl
          · rw [e0, e1, e2, e3, e4] at he
            exact absurd rfl he
        · rw [e0, e1, e2, e3] at he
          simp only [cond_false, cond_true] at he ⊢
          unfold closeErr at he
          unfold closeZ
          rcases ec : (z.st == 0 || z.st == 4)
          · rw [ec] at he; exact absurd rfl he
          · rfl
      · rw [e0, e1, e2] at he
        simp only [cond_false, cond_true] at he ⊢
        unfold openZ
        rw [beq_eq_false_iff_ne.2 he]
        rfl
    · rw [e0, e1] at he
      simp only [cond_false, cond_true] at he ⊢
      unfold tornZ
      rw [beq_eq_false_iff_ne.2 he]
      rfl
  · rw [e0] at he
    simp only [cond_true] at he ⊢
    unfold appRes
    rw [beq_eq_false_iff_ne.2 he]
    rfl
end Zon
end Go.Proofs.Ytfcehlipbdngbaa
