/-
  wire: Nums of numbers that are not below 0, and of others. (Parted from WireCuts in round 13.)
-/
import Derived.Test.YtamahknnppjegaaWireRows
namespace Go.Proofs.Ytamahknnppjegaa
open Go.RowKit Mem
namespace Wire

theorem asInts_toNat : ∀ {l : List Int}, (∀ z ∈ l, 0 ≤ z) → asInts (l.map Int.toNat) = l := by
  intro l
  induction l with
  | nil => intro _; rfl
  | cons z l ih =>
    intro h
    have h1 := h z (by simp)
    have h2 := ih fun y hy => h y (by simp [hy])
    unfold asInts at *
    simp only [List.map_cons]
    rw [h2, Int.toNat_of_nonneg h1]
theorem nums_pos {A : Option Addr} {n c : Nat} {l : List Int} {w : World} (h : Row ci w A n c l) (hr : ∀ z ∈ l, z < 9223372036854775808) (hn : n ≤ 17592186044416) (hp : ∀ z ∈ l, 0 ≤ z) :
    Calls Try.prog 60 #[.slice A n c] w (GaveE cb 5 w.heap.size w (encs (l.map Int.toNat)) 0) :=
  (nums_any h hr hn).mono fun e w' hN => by
    rcases hN with ⟨-, h⟩ | ⟨⟨z, hz, hneg⟩, -⟩
    · exact h
    · have := hp z hz; omega
theorem nums_neg {A : Option Addr} {n c : Nat} {l : List Int} {w : World} (h : Row ci w A n c l) (hr : ∀ z ∈ l, z < 9223372036854775808) (hn : n ≤ 17592186044416) (hp : ¬ ∀ z ∈ l, 0 ≤ z) :
    Calls Try.prog 60 #[.slice A n c] w fun e w' => e = .returned (.tuple #[.slice none 0 0, .int .i64 1]) ∧ Below w.heap.size w w' :=
  (nums_any h hr hn).mono fun e w' hN => by
    rcases hN with ⟨h, -⟩ | ⟨-, h⟩
    · exact absurd h hp
    · exact h
end Wire
end Go.Proofs.Ytamahknnppjegaa
