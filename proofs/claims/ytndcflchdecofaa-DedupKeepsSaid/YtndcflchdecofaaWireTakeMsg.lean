/-
  wire: TakeMsg, AND THE DOCUMENT's OWN COMPARISON OF MESSAGES.
-/
import Derived.Test.YtndcflchdecofaaWireMsg
import Derived.Deep.RegionHeld3
import Derived.Deep.DeepCutAuto
namespace Go.Proofs.Ytndcflchdecofaa
open Go.RowKit Mem
namespace Wire

/-- What TakeMsg tells of a message that is whole. -/
def TookM (k f t i : Nat) (a : List Nat) (v : List B8) (n : Nat) (w : World) (en : Ending) (w' : World) : Prop :=
  ∃ A ka ca B kb cb', en = .returned (.tuple #[.agg #[.int .i64 k, .int .i64 f, .int .i64 t, .int .i64 i, .slice A ka ca, .slice B kb cb'], .int .i64 (n : Int), .int .i64 0]) ∧
    Owns ci 3 w.heap.size w' (.slice A ka ca) ka (asInts a) ∧ Owns cb 5 w.heap.size w' (.slice B kb cb') kb v ∧ Below w.heap.size w w'
/-- .. of one that is not. -/
def NotM (e : Nat) (w : World) (en : Ending) (w' : World) : Prop :=
  en = .returned (.tuple #[.agg #[.int .i64 0, .int .i64 0, .int .i64 0, .int .i64 0, .slice none 0 0, .slice none 0 0], .int .i64 0, .int .i64 (e : Int)]) ∧ Below w.heap.size w w'

/-- .. nor may what lies in it not be written. -/
theorem box_free {w w2 : World} {cs : Array Value} {T : TypeId} (h : Below (w.heap.size + 1) (w.alloc (.cells cs T)) w2) (o : Nat) : w2.frozen? ⟨w.heap.size, o, none⟩ = false := by
  rw [h.frozen (p := ⟨w.heap.size, o, none⟩) (by simp)]
  have hh := heap_alloc_new w (.cells cs T)
  simp only [World.frozen?, hh]
  simp
theorem zeroMsg (w : World) : (zeroValue 33).run Try.prog w = .ok (.agg #[.int .i64 0, .int .i64 0, .int .i64 0, .int .i64 0, .slice none 0 0, .slice none 0 0]) w := by kernel_rfl

theorem six_set {w w2 : World} (h : Below w.heap.size w w2) (a b c d e f : Value) : Below w.heap.size w ((((((w2.setCell ⟨w.heap.size, 0, none⟩ a).setCell ⟨w.heap.size, 1, none⟩ b).setCell ⟨w.heap.size, 2, none⟩ c).setCell ⟨w.heap.size, 3, none⟩ d).setCell ⟨w.heap.size, 4, none⟩ e).setCell ⟨w.heap.size, 5, none⟩ f) :=
  (((((h.setCell (p := ⟨w.heap.size, 0, none⟩) (Nat.le_refl _) a).setCell (p := ⟨w.heap.size, 1, none⟩) (Nat.le_refl _) b).setCell (p := ⟨w.heap.size, 2, none⟩) (Nat.le_refl _) c).setCell (p := ⟨w.heap.size, 3, none⟩) (Nat.le_refl _) d).setCell (p := ⟨w.heap.size, 4, none⟩) (Nat.le_refl _) e).setCell (p := ⟨w.heap.size, 5, none⟩) (Nat.le_refl _) f
theorem owns_six {α : Type} {f' : α → Value} {e' : TypeId} {B n : Nat} {s : Value} {l : List α} {w2 : World} (h : Owns f' e' (B + 1) w2 s n l) (a b c d e f : Value) : Owns f' e' (B + 1) ((((((w2.setCell ⟨B, 0, none⟩ a).setCell ⟨B, 1, none⟩ b).setCell ⟨B, 2, none⟩ c).setCell ⟨B, 3, none⟩ d).setCell ⟨B, 4, none⟩ e).setCell ⟨B, 5, none⟩ f) s n l := by
  unfold Owns at *
  have lt : ∀ o, (⟨B, o, none⟩ : Addr).block < B + 1 := fun o => Nat.lt_succ_self B
  exact ownsRow_setCell_below (ownsRow_setCell_below (ownsRow_setCell_below (ownsRow_setCell_below (ownsRow_setCell_below (ownsRow_setCell_below h (lt 0) a) (lt 1) b) (lt 2) c) (lt 3) d) (lt 4) e) (lt 5) f
theorem tail_sum (A : Option Addr) (n c k j : Nat) (h : k + j ≤ n) (w : World) : (Instr.slice 31 (.slice A n c) (some (.int .i64 ((k : Int) + (j : Int)))) none none).run Try.prog w = .ok (.slice (tailA A c (k + j)) (n - (k + j)) (c - (k + j))) w := by
  have := run_tail A n c (k + j) h w
  rwa [Int.natCast_add] at this

end Wire
end Go.Proofs.Ytndcflchdecofaa
