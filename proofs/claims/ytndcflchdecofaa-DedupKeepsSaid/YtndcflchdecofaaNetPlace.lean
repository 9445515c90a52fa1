/-
  WALKS: net.New, net.has, net.hasRoom, net.places with its closures, net.all, net.others, net.To.
-/
import Derived.Test.YtndcflchdecofaaNetClone
import Derived.BigQuiet
namespace Go.Proofs.Ytndcflchdecofaa
open Go.RowKit Mem Box
namespace Net
open Wire (B8 info_int asInts asInts_append)

/-- Is there an i-th of n? -/
def hasB (n : Nat) (i : Int) : Bool := decide (0 ≤ i) && decide (i < (n : Int))
/-- May a net be of so many? -/
def newB (most : Int) : Bool := decide (most < 1) || decide ((4096 : Int) < most)
/-! ### Places -/
/-- Which of n places are as they should be. -/
def placesP (n : Nat) (p : Nat → Bool) : List Nat := (List.range n).filter p
theorem places_snoc (n : Nat) (p : Nat → Bool) : placesP (n + 1) p = placesP n p ++ (bif p n then [n] else []) := by
  unfold placesP
  rw [List.range_succ, List.filter_append]
  congr 1
theorem places_lt {n : Nat} {p : Nat → Bool} {i : Nat} (h : i ∈ placesP n p) : i < n := by
  have := (List.mem_filter.1 h).1
  simpa using this
theorem places_len (n : Nat) (p : Nat → Bool) : (placesP n p).length ≤ n := by
  have := List.length_filter_le p (List.range n)
  rwa [List.length_range] at this
/-- A question of places: it answers p, and leaves what lay there. -/
def PredI (n g : Nat) (lb : Array Value) (p : Nat → Bool) (w : World) : Prop :=
  ∀ (W : World) (i : Nat), i < n → Below w.heap.size w W → Calls Try.prog g (#[.int .i64 (i : Int)] ++ lb) W fun e w' => e = .returned (.bool (p i)) ∧ Below W.heap.size W w'
theorem rowI_one (w : World) (x : Int) : Row ci (w.alloc (.cells #[.int .i64 x] 3)) (some ⟨w.heap.size, 0, none⟩) 1 1 [x] := Wire.row_one ci w x _ _ rfl

/-- Places, as a call gave them. -/
def GaveP (l : List Nat) (w : World) (en : Ending) (w' : World) : Prop := (∃ X k d, en = .returned (.slice X k d) ∧ Owns ci 3 w.heap.size w' (.slice X k d) k (asInts l)) ∧ Below w.heap.size w w'

theorem at_all (n : Nat) : placesP n (fun _ => true) = List.range n := by simp [placesP]
end Net
end Go.Proofs.Ytndcflchdecofaa
