/-
  wire: Nums of numbers that are not below 0, and of others. (Parted from WireCuts in round 13.)
-/
import Derived.Test.YtndcflchdecofaaWireRows
namespace Go.Proofs.Ytndcflchdecofaa
open Go.RowKit Mem
namespace Wire

theorem asInts_toNat : ∀ {l : List Int}, (∀ z ∈ l, 0 ≤ z) → asInts (l.map Int.toNat) = l := by
  intro l
  induction l with
  | nil => intro _; rfl
  | cons z l ih =>
    intro h
    have h1 := h z (by simp)
    have h2 := ih fun y hy => h y (by simp [hy])
    unfold asInts at *
    simp only [List.map_cons]
    rw [h2, Int.toNat_of_nonneg h1]
end Wire
end Go.Proofs.Ytndcflchdecofaa
