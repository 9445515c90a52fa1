/-
  REMAINDERS THAT ARE BROUGHT ABOVE 0: (x % n + n) % n. (No program is named here.)
-/
import Derived.WalkKit
namespace Go.Proofs.Ytedandbkdjmfhaa
namespace Cut
theorem tmod_bounds (cut : Int) (n : Nat) (hn : 0 < n) : -(n : Int) < Int.tmod cut n ∧ Int.tmod cut n < (n : Int) := by
  rcases Int.le_total 0 cut with h | h
  · rw [Int.tmod_eq_emod_of_nonneg h]
    have h1 := Int.emod_nonneg cut (b := (n : Int)) (by omega)
    have h2 := Int.emod_lt_of_pos cut (b := (n : Int)) (by omega)
    omega
  · have e : cut = -(-cut) := by omega
    rw [e, Int.neg_tmod, Int.tmod_eq_emod_of_nonneg (by omega)]
    have h1 := Int.emod_nonneg (-cut) (b := (n : Int)) (by omega)
    have h2 := Int.emod_lt_of_pos (-cut) (b := (n : Int)) (by omega)
    omega
theorem cut_at (cut : Int) (n : Nat) (hn : 0 < n) : ∃ (r : Int) (j : Nat), Int.tmod cut n = r ∧ -(n : Int) < r ∧ r < (n : Int) ∧ Int.tmod (r + n) n = j ∧ (r + n) % (n : Int) = j ∧ j < n := by
  obtain ⟨h1, h2⟩ := tmod_bounds cut n hn
  have h3 := Int.emod_nonneg (Int.tmod cut n + n) (b := (n : Int)) (by omega)
  have h4 := Int.emod_lt_of_pos (Int.tmod cut n + n) (b := (n : Int)) (by omega)
  refine ⟨_, ((Int.tmod cut n + n) % (n : Int)).toNat, rfl, h1, h2, ?_, by omega, by omega⟩
  rw [Int.tmod_eq_emod_of_nonneg (by omega)]
  omega
end Cut
end Go.Proofs.Ytedandbkdjmfhaa
