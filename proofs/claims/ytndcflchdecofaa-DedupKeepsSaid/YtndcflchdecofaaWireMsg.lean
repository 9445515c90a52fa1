/-
  wire: MESSAGES: Msg AND TakeMsg.
-/
import Derived.Test.YtndcflchdecofaaWireNumL
import Derived.Test.YtndcflchdecofaaWireConcat
import Derived.Test.YtndcflchdecofaaWireMsgMath
namespace Go.Proofs.Ytndcflchdecofaa
open Go.RowKit Mem
namespace Wire

theorem toNat_asInts (l : List Nat) : (asInts l).map Int.toNat = l := by
  unfold asInts
  rw [List.map_map]
  have : (Int.toNat ∘ fun n : Nat => (n : Int)) = id := by funext n; simp
  rw [this, List.map_id]
theorem asInts_nonneg (l : List Nat) : ∀ z ∈ asInts l, 0 ≤ z := by
  intro z hz
  obtain ⟨n, -, rfl⟩ := List.mem_map.1 hz
  omega
theorem asInts_lt {l : List Nat} (h : ∀ n ∈ l, n < 9223372036854775808) : ∀ z ∈ asInts l, z < 9223372036854775808 := by
  intro z hz
  obtain ⟨n, hn, rfl⟩ := List.mem_map.1 hz
  have := h n hn
  omega
theorem all_five {k f t i n : Nat} (hk : k < 9223372036854775808) (hf : f < 9223372036854775808) (ht : t < 9223372036854775808) (hi : i < 9223372036854775808) (hn : n < 9223372036854775808) : ∀ z ∈ [k, f, t, i, n], z < 9223372036854775808 := by
  intro z hz
  simp only [List.mem_cons, List.not_mem_nil, or_false] at hz
  rcases hz with rfl | rfl | rfl | rfl | rfl <;> omega
/-- A box, behind what only makes new memory. -/
theorem box_cell {w w2 : World} {cs : Array Value} {T : TypeId} (h : Below (w.heap.size + 1) (w.alloc (.cells cs T)) w2) (o : Nat) : w2.cell? ⟨w.heap.size, o, none⟩ = cs[o]? := by
  rw [h.cell (p := ⟨w.heap.size, o, none⟩) (by simp)]
  exact cell_of_row _ w.heap.size o _ _ (0, 0) (heap_alloc_new w _)

/-- Msg of what may not be. -/
def MsgBad (w : World) (en : Ending) (w' : World) : Prop := ∃ er : Int, (er = 1 ∨ er = 2) ∧ en = .returned (.tuple #[.slice none 0 0, .int .i64 er]) ∧ Below w.heap.size w w'

end Wire
end Go.Proofs.Ytndcflchdecofaa
