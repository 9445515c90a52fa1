/-
  A WALK OVER zone.Append: bytes appended, or why not.
-/
import Derived.Test.YtnnphpfobdcmbaaZonCheck
namespace Go.Proofs.Ytnnphpfobdcmbaa
open Go.RowKit Mem
namespace Zon

/-- A zone, whose bytes are the call's own, and more, as a call gave them. -/
def GaveZ (w : World) (z : Zn) (rest : List Value) (en : Ending) (w' : World) : Prop :=
  ∃ D c, en = .returned (.tuple (zv z D c :: rest).toArray) ∧ Owns cb 5 w.heap.size w' (.slice D z.data.length c) z.data.length z.data ∧ Below w.heap.size w w'
theorem GaveZ.nil {w w' : World} {st fc : Int} {rest : List Value} (hb : Below w.heap.size w w') : GaveZ w ⟨st, fc, []⟩ rest (.returned (.tuple (zv ⟨st, fc, []⟩ none 0 :: rest).toArray)) w' := ⟨none, 0, rfl, Owns.nil _ _ _ _, hb⟩

theorem Box.store {w : World} {g : Nat} {z : Zn} {D : Option Addr} {c : Nat} (h : Box w g z D c) (z' : Zn) (D' : Option Addr) (c' : Nat) :
    Box (((w.setCell ⟨g, 0, none⟩ (.int .i64 z'.st)).setCell ⟨g, 1, none⟩ (.int .i64 z'.fc)).setCell ⟨g, 2, none⟩ (.slice D' z'.data.length c')) g z' D' c' :=
  Cells.set_ (Cells.set_ (Cells.set_ h 0 (.int .i64 z'.st)) 1 (.int .i64 z'.fc)) 2 (.slice D' z'.data.length c')
theorem Box.other3 {w : World} {g g' : Nat} {z : Zn} {D : Option Addr} {c : Nat} (h : Box w g z D c) (hg : g' ≠ g) (x y v : Value) :
    Box (((w.setCell ⟨g', 0, none⟩ x).setCell ⟨g', 1, none⟩ y).setCell ⟨g', 2, none⟩ v) g z D c := Cells.set_other (Cells.set_other (Cells.set_other h hg 0 x) hg 1 y) hg 2 v
theorem below3 {B g : Nat} {a w : World} (h : Below B a w) (hg : B ≤ g) (x y v : Value) : Below B a (((w.setCell ⟨g, 0, none⟩ x).setCell ⟨g, 1, none⟩ y).setCell ⟨g, 2, none⟩ v) :=
  ((h.setCell (p := ⟨g, 0, none⟩) hg x).setCell (p := ⟨g, 1, none⟩) hg y).setCell (p := ⟨g, 2, none⟩) hg v
theorem Owns.other {α : Type} {f : α → Value} {e : TypeId} {base : Nat} {w : World} {s : Value} {n : Nat} {l : List α} (h : Owns f e base w s n l) {p : Addr} (hp : p.block < base) (v : Value) : Owns f e base (w.setCell p v) s n l :=
  ownsRow_setCell_below h hp v
theorem Owns.other3 {α : Type} {f : α → Value} {e : TypeId} {base g : Nat} {w : World} {s : Value} {n : Nat} {l : List α} (h : Owns f e base w s n l) (hg : g < base) (x y v : Value) :
    Owns f e base (((w.setCell ⟨g, 0, none⟩ x).setCell ⟨g, 1, none⟩ y).setCell ⟨g, 2, none⟩ v) s n l :=
  Owns.other (Owns.other (Owns.other h (p := ⟨g, 0, none⟩) hg x) (p := ⟨g, 1, none⟩) hg y) (p := ⟨g, 2, none⟩) hg v

/-- Two slices of bytes in one block. -/
theorem row_two {w : World} {A B : Option Addr} {n c m d : Nat} {a b : List B8} {t : TypeId} {q : Nat} (hq : q = w.heap.size) :
    Row Piece.val (w.alloc (.cells #[.slice A n c, .slice B m d] t)) (some ⟨q, 0, none⟩) 2 2 [⟨A, n, c, a⟩, ⟨B, m, d, b⟩] := by
  subst hq
  refine ⟨rfl, by omega, by omega, fun _ => ⟨_, _, rfl, by simp, fun i x hi => ?_⟩⟩
  rw [cell_of_row _ w.heap.size (0 + i) _ _ (0, 0) (heap_alloc_new w _)]
  match i, hi with
  | 0, hi => simp at hi; subst hi; rfl
  | 1, hi => simp at hi; subst hi; rfl

end Zon
end Go.Proofs.Ytnnphpfobdcmbaa
