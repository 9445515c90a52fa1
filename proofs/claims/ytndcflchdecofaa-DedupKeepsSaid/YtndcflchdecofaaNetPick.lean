/-
  WALKS: net.picked: messages cloned into a new net.
-/
import Derived.Test.YtndcflchdecofaaNetPlace
import Derived.Laws.MakeOwn
namespace Go.Proofs.Ytndcflchdecofaa
open Go.RowKit Mem Box
namespace Net
open Wire (B8 info_int asInts asInts_append)

theorem made_own (w : World) (n : Nat) (hn : n ≤ 10000000) {base : Nat} (hb : base ≤ w.heap.size) (lo : Nat) : OwnN lo base (w.alloc (.cells (madeCells #[.int .i64 0, .int .i64 0, .int .i64 0, .int .i64 0, .slice none 0 0, .slice none 0 0] (n * 6)) 33)) (.slice (some ⟨w.heap.size, 0, none⟩) 0 n) 0 [] :=
  ⟨⟨World.ownsRow_made w _ n hb (by unfold maxLen; omega) (size_madeCells _ _), rfl⟩, by simp, by simp, by simp⟩

/-- What lies at these places. -/
def pickP {α : Type} (l : List α) (at_ : List Nat) : List α := at_.filterMap fun i => l[i]?
theorem pick_map {α β : Type} (f : α → β) (l : List α) (at_ : List Nat) : (pickP l at_).map f = pickP (l.map f) at_ := by
  unfold pickP
  rw [List.map_filterMap]
  congr 1
  funext i
  rw [List.getElem?_map]
theorem pick_snoc {α : Type} {l : List α} {at_ : List Nat} {k i : Nat} {x : α} (hk : at_[k]? = some i) (hx : l[i]? = some x) : pickP l (at_.take (k + 1)) = pickP l (at_.take k) ++ [x] := by
  unfold pickP
  rw [List.take_add_one, hk, List.filterMap_append]
  simp [hx]
theorem asInts_get {l : List Nat} {k : Nat} {z : Int} (h : (asInts l)[k]? = some z) : ∃ i : Nat, l[k]? = some i ∧ z = (i : Int) := by
  unfold asInts at h
  rw [List.getElem?_map] at h
  obtain ⟨i, h1, rfl⟩ := Option.map_eq_some_iff.1 h
  exact ⟨i, h1, rfl⟩
theorem asInts_len (l : List Nat) : (asInts l).length = l.length := by simp [asInts]

section
variable {base : Nat} {w wr w' : World} {cap : Nat} {Q : Option Addr} {n c g : Nat} {R : Option Addr} {k d : Nat} {l : List Mx}
end

end Net
end Go.Proofs.Ytndcflchdecofaa
