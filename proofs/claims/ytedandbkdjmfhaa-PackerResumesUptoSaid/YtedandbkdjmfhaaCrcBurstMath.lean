/-
  PLAIN MATHEMATICS OF A BURST: a text in which at most 32 bits that stand together are turned, the first of them one, has another register behind it.
-/
import Derived.Test.YtedandbkdjmfhaaCrcMath
namespace Go.Proofs.Ytedandbkdjmfhaa
namespace Crc

/-- One bit of a text is turned (of each byte the lowest first). -/
def flip1 (l : List (BitVec 8)) (k : Nat) : List (BitVec 8) := l.set (k / 8) (l.getD (k / 8) 0#8 ^^^ (1#8 <<< (k % 8)))
/-- Of the bits y from p on the first j, as far as the text goes. -/
def flips (l : List (BitVec 8)) (p : Nat) (y : BitVec 32) : Nat → List (BitVec 8)
  | 0 => l
  | j + 1 => if p + j < 8 * l.length ∧ y.getLsbD j = true then flip1 (flips l p y j) (p + j) else flips l p y j
theorem flip1_length (l : List (BitVec 8)) (k : Nat) : (flip1 l k).length = l.length := by simp [flip1]
theorem flips_length (l : List (BitVec 8)) (p : Nat) (y : BitVec 32) (j : Nat) : (flips l p y j).length = l.length := by
  induction j with
  | zero => rfl
  | succ j ih =>
    simp only [flips]
    split
    · rw [flip1_length, ih]
    · exact ih
theorem flip1_zip (l e : List (BitVec 8)) (k : Nat) (h : l.length = e.length) (hk : k < 8 * l.length) : flip1 (List.zipWith (· ^^^ ·) l e) k = List.zipWith (· ^^^ ·) l (flip1 e k) := by
  apply List.ext_getElem
  · simp [flip1]
  · intro i h1 h2
    have hi : i < l.length := by simp [flip1] at h1; omega
    have hd : k / 8 < l.length := by omega
    simp only [flip1, List.getElem_set, List.getElem_zipWith]
    by_cases e1 : k / 8 = i
    · subst e1
      have e2 : k / 8 < e.length := by omega
      simp only [if_true, List.getD, List.getElem?_eq_getElem hd, List.getElem?_eq_getElem e2, Option.getD_some, List.getElem?_zipWith]
      rw [BitVec.xor_assoc]
    · simp [e1]
theorem flips_zip (l e : List (BitVec 8)) (p : Nat) (y : BitVec 32) (h : l.length = e.length) : ∀ j, flips (List.zipWith (· ^^^ ·) l e) p y j = List.zipWith (· ^^^ ·) l (flips e p y j) := by
  intro j
  induction j with
  | zero => rfl
  | succ j ih =>
    simp only [flips]
    have e1 : (List.zipWith (· ^^^ ·) l e).length = e.length := by simp; omega
    rw [e1, ih]
    split
    · rename_i hc
      exact flip1_zip l _ _ (by rw [flips_length]; exact h) (by rw [h]; exact hc.1)
    · rfl
theorem zip_zeros (l : List (BitVec 8)) : List.zipWith (· ^^^ ·) l (List.replicate l.length 0#8) = l := by
  induction l with
  | nil => rfl
  | cons x l ih => simp [List.replicate_succ, ih]

/-- One bit alone, in a text of zeros. -/
theorem shn_one (r : Nat) (hr : r < 32) : shn r (1#32 <<< r) = 1#32 := by
  rw [shn_clear]
  · apply BitVec.eq_of_getLsbD_eq
    intro i hi
    simp only [BitVec.getLsbD_ushiftRight, BitVec.getLsbD_shiftLeft, BitVec.getLsbD_one]
    by_cases h : i = 0
    · subst h; simp [hr]
    · simp [h]
  · intro i hi
    simp only [BitVec.getLsbD_shiftLeft]
    simp [hi]
theorem run_unit (n k : Nat) (hk : k < 8 * n) : run 0#32 (flip1 (List.replicate n 0#8) k) = shn (8 * n - k) 1#32 := by
  have hd : k / 8 < n := by omega
  have e : flip1 (List.replicate n 0#8) k = List.replicate (k / 8) 0#8 ++ (1#8 <<< (k % 8)) :: List.replicate (n - k / 8 - 1) 0#8 := by
    unfold flip1
    apply List.ext_getElem
    · simp; omega
    · intro i h1 h2
      rw [List.getElem_set]
      by_cases h : k / 8 = i
      · subst h
        simp [List.getD, hd]
      · rw [if_neg h, List.getElem_replicate, List.getElem_append]
        split
        · simp
        · rename_i h3
          simp only [List.length_replicate] at h3
          rw [List.getElem_cons]
          have h4 : ¬ (i - (List.replicate (k / 8) 0#8).length = 0) := by simp; omega
          rw [dif_neg h4]
          simp
  rw [e, run_append, run_zeros, shn_zero]
  show run (step 0#32 (1#8 <<< (k % 8))) _ = _
  rw [run_zeros]
  unfold step
  rw [BitVec.zero_xor, ← shn_add]
  have hr : k % 8 < 8 := Nat.mod_lt _ (by omega)
  have e2 : (1#8 <<< (k % 8)).setWidth 32 = 1#32 <<< (k % 8) := by
    apply BitVec.eq_of_toNat_eq
    have h2 : 2 ^ (k % 8) < 2 ^ 8 := Nat.pow_lt_pow_right (by omega) hr
    have h3 : 2 ^ (k % 8) < 2 ^ 32 := Nat.lt_trans h2 (by decide)
    rw [BitVec.toNat_setWidth, BitVec.toNat_shiftLeft, BitVec.toNat_shiftLeft]
    simp only [Nat.shiftLeft_eq, BitVec.toNat_ofNat]
    rw [show 1 % 2 ^ 8 = 1 by decide, Nat.one_mul, Nat.mod_eq_of_lt h2]
  rw [e2]
  have e3 : 8 * (n - k / 8 - 1) + 8 = (8 * n - k) + k % 8 := by omega
  rw [e3, shn_add, shn_one _ (by omega)]

/-- The bits that were turned so far, as one word. -/
def turned (p N : Nat) (y : BitVec 32) : Nat → BitVec 32
  | 0 => 0#32
  | j + 1 => if p + j < N ∧ y.getLsbD j = true then turned p N y j ^^^ (1#32 <<< j) else turned p N y j
theorem run_turned (n p : Nat) (y : BitVec 32) (hp : p < 8 * n) : ∀ j, j ≤ 32 → run 0#32 (flips (List.replicate n 0#8) p y j) = shn (8 * n - p) (turned p (8 * n) y j) := by
  intro j
  induction j with
  | zero => intro _; simp only [flips, turned]; rw [run_zeros, shn_zero, shn_zero]
  | succ j ih =>
    intro hj
    simp only [flips, turned, List.length_replicate]
    split
    · rename_i hc
      have h1 := flip1_zip (flips (List.replicate n 0#8) p y j) (List.replicate n 0#8) (p + j) (by rw [flips_length]) (by rw [flips_length]; simpa using hc.1)
      have h2 := zip_zeros (flips (List.replicate n 0#8) p y j)
      rw [flips_length, List.length_replicate] at h2
      rw [h2] at h1
      rw [h1]
      have h3 := run_xor (flips (List.replicate n 0#8) p y j) (flip1 (List.replicate n 0#8) (p + j)) 0#32 0#32 (by rw [flips_length, flip1_length])
      rw [BitVec.xor_self] at h3
      rw [h3, ih (by omega), run_unit n (p + j) hc.1, shn_xor]
      congr 1
      have e : 8 * n - p = (8 * n - (p + j)) + j := by omega
      rw [e, shn_add, shn_one j (by omega)]
    · exact ih (by omega)
theorem turned_low (p N : Nat) (y : BitVec 32) (hp : p < N) (hy : y.getLsbD 0 = true) : ∀ j, j ≤ 32 → (turned p N y (j + 1)).getLsbD 0 = true := by
  intro j
  induction j with
  | zero => intro _; simp [turned, hp, hy]
  | succ j ih =>
    intro hj
    have h := ih (by omega)
    have e : turned p N y (j + 1 + 1) = if p + (j + 1) < N ∧ y.getLsbD (j + 1) = true then turned p N y (j + 1) ^^^ (1#32 <<< (j + 1)) else turned p N y (j + 1) := rfl
    rw [e]
    split
    · rw [BitVec.getLsbD_xor, h]
      simp
    · exact h
/-- THE BURST TELLS. -/
theorem goes_flips (l : List (BitVec 8)) (p : Nat) (y : BitVec 32) (hp : p < 8 * l.length) (hy : y.getLsbD 0 = true) : goes 0#32 l ≠ goes 0#32 (flips l p y 32) := by
  intro h
  unfold goes at h
  have h1 : run (~~~ 0#32) l = run (~~~ 0#32) (flips l p y 32) := by
    have := congrArg (fun x => ~~~ x) h
    simpa using this
  have h2 : flips l p y 32 = List.zipWith (· ^^^ ·) l (flips (List.replicate l.length 0#8) p y 32) := by
    have := flips_zip l (List.replicate l.length 0#8) p y (by simp) 32
    rw [zip_zeros] at this
    exact this
  have h3 := run_xor l (flips (List.replicate l.length 0#8) p y 32) (~~~ 0#32) 0#32 (by rw [flips_length]; simp)
  rw [BitVec.xor_zero, ← h2, ← h1] at h3
  have h4 : run 0#32 (flips (List.replicate l.length 0#8) p y 32) = 0#32 := by
    have := congrArg (fun x => run (~~~ 0#32) l ^^^ x) h3
    simp only [← BitVec.xor_assoc, BitVec.xor_self, BitVec.zero_xor] at this
    exact this.symm
  rw [run_turned l.length p y hp 32 (by omega)] at h4
  have h5 := shn_inj0 _ _ h4
  have h6 := turned_low p (8 * l.length) y hp hy 31 (by omega)
  rw [h5] at h6
  exact absurd h6 (by decide)
end Crc
end Go.Proofs.Ytedandbkdjmfhaa
