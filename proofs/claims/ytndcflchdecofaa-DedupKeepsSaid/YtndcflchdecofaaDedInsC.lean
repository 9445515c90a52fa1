/-
  WHAT slices.Insert, slices.Delete AND THE LIKE LEAVE, in plain; rows of one; other changes of a block. (Program-free.)
-/
import Derived.Test.YtndcflchdecofaaOwnW
import Derived.Lib.AppendZerosOnto
import Derived.Lib.Overlaps
import Derived.Laws.CopyOwn
import Derived.Laws.Externs
import Derived.Laws.NewBlocks
namespace Go.Proofs.Ytndcflchdecofaa
open Go.RowKit Mem Box
namespace OwnS
/-- Two copies that open a row and fill the gap; two that lay a new row's middle and end. -/
theorem splice_in {α : Type} (X1 X2 R Y : List α) (a b : Nat) (ha : X1.length = a) (hb : Y.length = b) (hR : b ≤ R.length) :
    splice (splice (X1 ++ X2 ++ R) (a + b) X2) a Y = X1 ++ Y ++ X2 ++ R.drop b := by
  subst ha hb
  unfold splice
  have e0 : ((X1 ++ X2 ++ R).take (X1.length + Y.length)).length = X1.length + Y.length := by simp; omega
  have e1 : ((X1 ++ X2 ++ R).take (X1.length + Y.length)).take X1.length = X1 := by
    rw [List.take_take, Nat.min_eq_left (by omega), List.append_assoc, List.take_append_of_le_length (Nat.le_refl _), List.take_length]
  have e2 : (X1 ++ X2 ++ R).drop (X1.length + Y.length + X2.length) = R.drop Y.length := by
    rw [List.drop_append, List.drop_eq_nil_of_le (by simp only [List.length_append]; omega), List.nil_append]
    congr 1
    simp only [List.length_append]
    omega
  rw [e2]
  rw [List.take_append_of_le_length (by omega), e1, List.drop_append, e0, List.drop_eq_nil_of_le (by omega)]
  simp
theorem splice_new {α : Type} (X1 Y X2 Z : List α) (a b : Nat) (ha : X1.length = a) (hb : Y.length = b) (hZ : b + X2.length ≤ Z.length) :
    splice (splice (X1 ++ Z) a Y) (a + b) X2 = X1 ++ Y ++ X2 ++ Z.drop (b + X2.length) := by
  subst ha hb
  unfold splice
  simp only [List.take_left', List.drop_append]
  simp only [List.take_append, List.append_assoc, Nat.add_assoc]
  rw [List.take_of_length_le (by omega : X1.length ≤ X1.length + Y.length), List.drop_eq_nil_of_le (by omega : X1.length ≤ X1.length + (Y.length + X2.length)), List.drop_eq_nil_of_le (by omega : Y.length ≤ X1.length + (Y.length + X2.length) - X1.length)]
  simp
  omega
theorem len_splice {α : Type} (L : List α) (o : Nat) (cs : List α) (h : o + cs.length ≤ L.length) : (splice L o cs).length = L.length := length_splice L o cs h


section
variable {α : Type} {cells : α → List Value} {k : Nat}
theorem flat_take (F : Fit cells k) (l : List α) (i : Nat) : (l.flatMap cells).take (i * k) = (l.take i).flatMap cells := by
  induction l generalizing i with
  | nil => simp
  | cons x l ih =>
    rcases i with _ | i
    · simp
    · rw [List.flatMap_cons, List.take_succ_cons, List.flatMap_cons, List.take_append, List.take_of_length_le (by rw [F.len, Nat.succ_mul]; omega), F.len, show (i + 1) * k - k = i * k by rw [Nat.succ_mul]; omega, ih]
theorem row_one (F : Fit cells k) {w : World} {q : Nat} {t : TypeId} {x : α} (h : Cells w q t (cells x).toArray) : RowS cells k w (some ⟨q, 0, none⟩) 1 1 [x] := by
  refine ⟨rfl, by omega, by omega, fun _ => ⟨_, _, rfl, Cells.lt h, fun i y hy j u hu => ?_⟩⟩
  have hi : i = 0 := by have := (List.getElem?_eq_some_iff.1 hy).1; simpa using this
  subst hi
  simp at hy
  subst hy
  rw [show 0 + 0 * k + j = j by omega, Cells.cell h]
  simpa using hu
end
theorem cells_setRow {w : World} {g : Nat} {t : TypeId} {cur cs : List Value} (h : Cells w g t cur.toArray) : Cells (w.setRow g cs.toArray) g t cs.toArray := setRow_heap w g _ _ t _ h
theorem mov_setRow (w : World) (g : Nat) (cs : Array Value) : Mov [g] w (w.setRow g cs) :=
  ⟨rfl, rfl, rfl, by simp [World.setRow], fun k _ hn => setRow_other w g k cs (fun e => hn (by rw [e]; simp))⟩
/-- The one row is the other's block, or a new one's. -/
def New (w : World) (s s' : Value) : Prop := s'.ownBlock = s.ownBlock ∨ ∀ k, s'.ownBlock = some k → w.heap.size ≤ k
theorem grown_below {w w' : World} (h : Below w.heap.size w w') (r : Option Nat) : w.grownBy w' r := ⟨h.os, h.tape, h.output, h.size, fun k hk _ => h.block k hk⟩
theorem grown_mov {w w' : World} {g : Nat} (h : Mov [g] w w') : w.grownBy w' (some g) := ⟨h.os, h.tape, h.output, h.size, fun k hk hn => h.block k hk (by simpa using fun e => hn (by rw [e]))⟩
/-- A row of one's own, of fewer. -/
theorem Owns.pre {α : Type} {cells : α → List Value} {k : Nat} {e : TypeId} {base : Nat} {w : World} {n c m : Nat} {A : Option Addr} {l : List α} (F : Fit cells k) (h : Owns cells k e base w (.slice A n c) n l) (hm : m ≤ n) (h0 : 0 < n) : Owns cells k e base w (.slice A m c) m (l.take m) := by
  obtain ⟨g, cur, rfl, hb, hg, hnc, hcm, hs, ht⟩ := h.place h0
  refine Owns.of_cells (cur := cur.toList) F (by simpa using hg) hb (by omega) hcm (by simpa using hs) ?_ (by rw [List.length_take, h.2]; omega)
  rw [← flat_take F, ← ht, List.take_take, Nat.min_eq_left (Nat.mul_le_mul_right k hm)]
end OwnS
end Go.Proofs.Ytndcflchdecofaa
