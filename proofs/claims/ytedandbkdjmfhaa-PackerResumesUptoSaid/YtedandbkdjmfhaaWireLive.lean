/-
  wire: WHAT THE STATEMENTS ASK FIRST: the chapter's examples (live).
-/
import Derived.Test.YtedandbkdjmfhaaWireFix
namespace Go.Proofs.Ytedandbkdjmfhaa
open Go.RowKit Mem
namespace Wire

theorem row_new {α : Type} (f : α → Value) (w : World) (l : List α) (t : TypeId) (hn : l.length ≤ 140737488351232) {vs : Array Value} (hv : vs = (l.map f).toArray) : Row f (w.alloc (.cells vs t)) (some ⟨w.heap.size, 0, none⟩) l.length l.length l := by
  subst hv
  refine ⟨rfl, Nat.le_refl _, hn, fun _ => ⟨_, _, rfl, by simp, fun i y hi => ?_⟩⟩
  rw [cell_of_row _ w.heap.size (0 + i) _ _ (0, 0) (heap_alloc_new w _)]
  simp [hi]

theorem enc300 : enc 300 = [172#8, 2#8] := by rw [enc_ge (by omega), enc_lt (by omega)]
theorem str300 : str (enc 300) = ⟨#[172, 2]⟩ := by rw [enc300]; rfl
theorem take128 : take1 [128#8, 0#8] = (0, 0, 21) := by decide
theorem take300 : take1 [172#8, 2#8, 9#8] = (300, 2, 0) := by decide

end Wire
end Go.Proofs.Ytedandbkdjmfhaa
