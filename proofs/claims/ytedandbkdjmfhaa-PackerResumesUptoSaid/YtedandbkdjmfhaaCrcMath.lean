/-
  THE PLAIN MATHEMATICS OF CRC-32C, over words of 32 bits: the register's step, that it is linear, what goes by bytes, what goes by zeros, and that it loses nothing. No program is named here.
-/
import Derived.WalkKit
namespace Go.Proofs.Ytedandbkdjmfhaa
namespace Crc

/-- A word as the program's number. -/
def v (c : BitVec 32) : Int := (c.toNat : Int)
/-- A byte as the program's number. -/
def u (x : BitVec 8) : Int := (x.toNat : Int)
def poly : BitVec 32 := 0x82f63b78#32
def ones : BitVec 32 := 0xffffffff#32

/-- The register goes one bit to the right. -/
def sh (c : BitVec 32) : BitVec 32 := if c.getLsbD 0 then (c >>> 1) ^^^ poly else c >>> 1
def shn : Nat → BitVec 32 → BitVec 32
  | 0, c => c
  | n + 1, c => shn n (sh c)

theorem sh_xor (a b : BitVec 32) : sh (a ^^^ b) = sh a ^^^ sh b := by
  unfold sh
  rw [BitVec.getLsbD_xor, BitVec.ushiftRight_xor_distrib]
  cases a.getLsbD 0 <;> cases b.getLsbD 0 <;> simp
  · rw [BitVec.xor_assoc]
  · rw [BitVec.xor_assoc, BitVec.xor_assoc, BitVec.xor_comm poly]
  · rw [BitVec.xor_assoc, ← BitVec.xor_assoc poly, BitVec.xor_comm poly, BitVec.xor_assoc, BitVec.xor_self, BitVec.xor_zero]

theorem sh_zero : sh 0#32 = 0#32 := by decide
theorem shn_xor (n : Nat) : ∀ a b : BitVec 32, shn n (a ^^^ b) = shn n a ^^^ shn n b := by
  induction n with
  | zero => intro a b; rfl
  | succ n ih => intro a b; simp only [shn]; rw [sh_xor, ih]
theorem shn_zero (n : Nat) : shn n 0#32 = 0#32 := by
  induction n with
  | zero => rfl
  | succ n ih => simp only [shn]; rw [sh_zero, ih]
theorem shn_add (m n : Nat) : ∀ c, shn (m + n) c = shn m (shn n c) := by
  induction n with
  | zero => intro c; rfl
  | succ n ih => intro c; show shn (m + n) (sh c) = _; rw [ih]; rfl
theorem shn_succ (n : Nat) (c : BitVec 32) : shn (n + 1) c = sh (shn n c) := by rw [Nat.add_comm, shn_add]; rfl

/-- Where the lowest n bits are not set, n steps are a shift. -/
theorem shn_clear (n : Nat) : ∀ c : BitVec 32, (∀ i, i < n → c.getLsbD i = false) → shn n c = c >>> n := by
  induction n with
  | zero => intro c _; simp [shn]
  | succ n ih =>
    intro c h
    have h0 : sh c = c >>> 1 := by unfold sh; rw [h 0 (by omega)]; simp
    show shn n (sh c) = _
    rw [h0, ih _ (fun i hi => by rw [BitVec.getLsbD_ushiftRight]; exact h _ (by omega))]
    rw [← BitVec.shiftRight_add, Nat.add_comm]

/-- One byte goes in: the program's way by its table is the register's own. -/
def step (c : BitVec 32) (x : BitVec 8) : BitVec 32 := shn 8 (c ^^^ x.setWidth 32)

theorem step_table (c : BitVec 32) (x : BitVec 8) : step c x = (c >>> 8) ^^^ shn 8 ((c.setWidth 8 ^^^ x).setWidth 32) := by
  have hd : c ^^^ x.setWidth 32 = ((c >>> 8) <<< 8) ^^^ ((c.setWidth 8 ^^^ x).setWidth 32) := by
    apply BitVec.eq_of_getLsbD_eq
    intro i hi
    simp only [BitVec.getLsbD_xor, BitVec.getLsbD_shiftLeft, BitVec.getLsbD_ushiftRight, BitVec.getLsbD_setWidth]
    by_cases h : i < 8
    · simp [h, hi]
    · have h2 : x.getLsbD i = false := BitVec.getLsbD_of_ge x i (by omega)
      have h3 : 8 + (i - 8) = i := by omega
      simp [h, hi, h2, h3]
  unfold step
  rw [hd, shn_xor]
  congr 1
  rw [shn_clear]
  · apply BitVec.eq_of_getLsbD_eq
    intro i hi
    simp only [BitVec.getLsbD_shiftLeft, BitVec.getLsbD_ushiftRight]
    by_cases h : 8 + i < 32
    · simp [h]
    · have h2 : c.getLsbD (8 + i) = false := BitVec.getLsbD_of_ge c _ (by omega)
      simp [h2]
  · intro i hi
    simp only [BitVec.getLsbD_shiftLeft]
    simp [hi]

/-- The register behind the bytes of l. -/
def run (c : BitVec 32) (l : List (BitVec 8)) : BitVec 32 := l.foldl step c
/-- What a sum c goes on to, behind the bytes of l. -/
def goes (c : BitVec 32) (l : List (BitVec 8)) : BitVec 32 := ~~~ run (~~~ c) l
theorem run_append (c : BitVec 32) (a b : List (BitVec 8)) : run c (a ++ b) = run (run c a) b := List.foldl_append
theorem goes_append (c : BitVec 32) (a b : List (BitVec 8)) : goes (goes c a) b = goes c (a ++ b) := by
  unfold goes; rw [BitVec.not_not, run_append]
theorem goes_nil (c : BitVec 32) : goes c [] = c := by unfold goes run; simp
/-- The sum of pieces. -/
def sums (l : List (List (BitVec 8))) : BitVec 32 := l.foldl goes 0#32
theorem sums_flat (l : List (List (BitVec 8))) : ∀ c, l.foldl goes c = goes c l.flatten := by
  induction l with
  | nil => intro c; simp [goes_nil]
  | cons a l ih => intro c; simp only [List.foldl_cons, List.flatten_cons]; rw [ih, goes_append]

theorem zip_step (a b : BitVec 32) (x y : BitVec 8) : step (a ^^^ b) (x ^^^ y) = step a x ^^^ step b y := by
  unfold step
  rw [← shn_xor]
  congr 1
  rw [BitVec.setWidth_xor]
  ac_rfl
theorem run_xor : ∀ (l m : List (BitVec 8)) (a b : BitVec 32), l.length = m.length → run (a ^^^ b) (List.zipWith (· ^^^ ·) l m) = run a l ^^^ run b m
  | [], [], a, b, _ => rfl
  | x :: l, y :: m, a, b, h => by
    show run (step (a ^^^ b) (x ^^^ y)) _ = _
    rw [zip_step]
    exact run_xor l m _ _ (by simpa using h)
theorem run_zeros (n : Nat) : ∀ c, run c (List.replicate n 0#8) = shn (8 * n) c := by
  induction n with
  | zero => intro c; rfl
  | succ n ih =>
    intro c
    show run (step c 0#8) (List.replicate n 0#8) = _
    rw [ih]
    unfold step
    rw [← shn_add]
    simp
    rfl
/-- What was in the register ahead of l goes by zeros. -/
theorem run_split (c d : BitVec 32) (l : List (BitVec 8)) : run (c ^^^ d) l = run c l ^^^ shn (8 * l.length) d := by
  have h := run_xor l (List.replicate l.length 0#8) c d (by simp)
  have hz : List.zipWith (· ^^^ ·) l (List.replicate l.length 0#8) = l := by
    clear h
    induction l with
    | nil => rfl
    | cons x l ih => simp [List.replicate_succ, ih]
  rw [hz, run_zeros] at h
  exact h

theorem not_xor (x y : BitVec 32) : y ^^^ ~~~ x = ~~~ (x ^^^ y) := by
  apply BitVec.eq_of_getLsbD_eq
  intro i hi
  simp only [BitVec.getLsbD_xor, BitVec.getLsbD_not, hi]
  cases y.getLsbD i <;> cases x.getLsbD i <;> rfl
/-- JOIN: the sum of the first, gone by as many zeros as the second has bytes, with the second's sum put in. -/
theorem goes_join (a b : List (BitVec 8)) : shn (8 * b.length) (goes 0#32 a) ^^^ goes 0#32 b = goes 0#32 (a ++ b) := by
  unfold goes
  rw [run_append]
  generalize run (~~~ 0#32) a = r
  have h : run r b = run (~~~ 0#32) b ^^^ shn (8 * b.length) (~~~ r) := by
    rw [← run_split]
    congr 1
    apply BitVec.eq_of_getLsbD_eq
    intro i hi
    rw [BitVec.getLsbD_xor, BitVec.getLsbD_not, BitVec.getLsbD_not, BitVec.getLsbD_zero]
    cases r.getLsbD i <;> simp [hi]
  rw [h, not_xor]

/-! ### The square's way -/
def unity : BitVec 32 := 0x80000000#32
/-- product's loop: from bit i on. -/
def prodFrom (a : BitVec 32) : Nat → BitVec 32 → BitVec 32 → BitVec 32
  | 0, _, c => c
  | k + 1, b, c => prodFrom a k (sh b) (if a.getLsbD k then c ^^^ b else c)
def prod (a b : BitVec 32) : BitVec 32 := prodFrom a 32 b 0#32

theorem prodFrom_acc (a : BitVec 32) : ∀ k b c d, prodFrom a k b (c ^^^ d) = prodFrom a k b c ^^^ d := by
  intro k
  induction k with
  | zero => intro b c d; rfl
  | succ k ih =>
    intro b c d
    simp only [prodFrom]
    cases a.getLsbD k <;> simp
    · exact ih _ _ _
    · rw [← ih]
      congr 1
      ac_rfl
theorem prodFrom_shn (a : BitVec 32) (m : Nat) : ∀ k b c, prodFrom a k (shn m b) (shn m c) = shn m (prodFrom a k b c) := by
  intro k
  induction k with
  | zero => intro b c; rfl
  | succ k ih =>
    intro b c
    simp only [prodFrom]
    have h : sh (shn m b) = shn m (sh b) := by rw [← shn_succ]; rfl
    rw [h, ← ih]
    cases a.getLsbD k <;> simp
    rw [shn_xor]
theorem prodFrom_unity (a : BitVec 32) : ∀ k, k ≤ 32 → prodFrom a k (1#32 <<< (k - 1)) 0#32 = a &&& (BitVec.ofNat 32 (2 ^ k - 1)) := by
  intro k
  induction k with
  | zero => intro _; simp [prodFrom]
  | succ k ih =>
    intro hk
    simp only [prodFrom]
    have hacc : prodFrom a k (sh (1#32 <<< (k + 1 - 1))) (if a.getLsbD k then 0#32 ^^^ (1#32 <<< (k + 1 - 1)) else 0#32) =
        prodFrom a k (sh (1#32 <<< (k + 1 - 1))) 0#32 ^^^ (if a.getLsbD k then 1#32 <<< k else 0#32) := by
      rw [← prodFrom_acc]
      congr 1
      cases a.getLsbD k <;> simp
    rw [hacc]
    have hs : 0 < k → sh (1#32 <<< (k + 1 - 1)) = 1#32 <<< (k - 1) := by
      intro h0
      have hb : (1#32 <<< (k + 1 - 1)).getLsbD 0 = false := by
        simp only [BitVec.getLsbD_shiftLeft]
        simp [h0]
      unfold sh
      rw [hb]
      simp only [Bool.false_eq_true, if_false]
      apply BitVec.eq_of_getLsbD_eq
      intro i hi
      simp only [BitVec.getLsbD_shiftLeft, BitVec.getLsbD_ushiftRight, BitVec.getLsbD_one]
      by_cases h1 : i = k - 1
      · subst h1
        have e1 : 1 + (k - 1) = k := by omega
        simp [e1]
        omega
      · by_cases h2 : i < k - 1
        · have e1 : 1 + i < k := by omega
          simp [e1, h2]
        · have e1 : ¬ (1 + i < k) := by omega
          have e2 : ¬ (1 + i - k = 0) := by omega
          have e3 : ¬ (i - (k - 1) = 0) := by omega
          simp [e2, e3]
    have hz : prodFrom a k (sh (1#32 <<< (k + 1 - 1))) 0#32 = a &&& BitVec.ofNat 32 (2 ^ k - 1) := by
      rcases Nat.eq_zero_or_pos k with h0 | h0
      · subst h0; simp [prodFrom]
      · rw [hs h0]; exact ih (by omega)
    rw [hz]
    apply BitVec.eq_of_getLsbD_eq
    intro i hi
    have t1 : (BitVec.ofNat 32 (2 ^ k - 1)).getLsbD i = decide (i < k) := by
      rw [BitVec.getLsbD_ofNat, Nat.testBit_two_pow_sub_one]; simp [hi]
    have t2 : (BitVec.ofNat 32 (2 ^ (k + 1) - 1)).getLsbD i = decide (i < k + 1) := by
      rw [BitVec.getLsbD_ofNat, Nat.testBit_two_pow_sub_one]; simp [hi]
    rw [BitVec.getLsbD_xor, BitVec.getLsbD_and, BitVec.getLsbD_and, t1, t2]
    by_cases h1 : i = k
    · subst h1
      cases a.getLsbD i <;> simp
      omega
    · by_cases h2 : i < k
      · have h3 : i < k + 1 := by omega
        have hone : (1#32 <<< k).getLsbD i = false := by
          simp only [BitVec.getLsbD_shiftLeft]; simp [h2]
        cases a.getLsbD k <;> simp [h2, h3, hone]
      · have h3 : ¬ i < k + 1 := by omega
        have hone : (1#32 <<< k).getLsbD i = false := by
          simp only [BitVec.getLsbD_shiftLeft, BitVec.getLsbD_one]
          have : ¬ (i - k = 0) := by omega
          simp [this]
        cases a.getLsbD k <;> simp [h2, h3, hone]
theorem prod_unity (a : BitVec 32) : prod a unity = a := by
  have h := prodFrom_unity a 32 (by omega)
  have e : (1#32 <<< (32 - 1)) = unity := by decide
  rw [e] at h
  unfold prod
  rw [h]
  have e2 : BitVec.ofNat 32 (2 ^ 32 - 1) = BitVec.allOnes 32 := by decide
  rw [e2, BitVec.and_allOnes]
theorem prod_shn (a : BitVec 32) (m : Nat) : prod a (shn m unity) = shn m a := by
  have h := prodFrom_shn a m 32 unity 0#32
  rw [shn_zero] at h
  show prodFrom a 32 (shn m unity) 0#32 = _
  rw [h]
  show shn m (prod a unity) = _
  rw [prod_unity]
theorem oneByte_eq : (0x00800000#32) = shn 8 unity := by decide

/-! ### Nothing is lost -/
theorem sh_inj0 (c : BitVec 32) (h : sh c = 0#32) : c = 0#32 := by
  unfold sh at h
  cases hb : c.getLsbD 0
  · rw [hb] at h
    simp only [Bool.false_eq_true, if_false] at h
    apply BitVec.eq_of_getLsbD_eq
    intro i hi
    rcases Nat.eq_zero_or_pos i with h0 | h0
    · subst h0; rw [hb]; simp
    · have := congrArg (fun x => x.getLsbD (i - 1)) h
      simp only [BitVec.getLsbD_ushiftRight] at this
      have e : 1 + (i - 1) = i := by omega
      rw [e] at this
      rw [this]; simp
  · rw [hb] at h
    simp only [if_true] at h
    have := congrArg (fun x => x.getLsbD 31) h
    simp only [BitVec.getLsbD_xor, BitVec.getLsbD_ushiftRight] at this
    have e : c.getLsbD (1 + 31) = false := BitVec.getLsbD_of_ge c _ (by omega)
    rw [e] at this
    exact absurd this (by decide)
theorem shn_inj0 (n : Nat) : ∀ c, shn n c = 0#32 → c = 0#32 := by
  induction n with
  | zero => intro c h; exact h
  | succ n ih => intro c h; exact sh_inj0 _ (ih _ h)

end Crc
end Go.Proofs.Ytedandbkdjmfhaa
