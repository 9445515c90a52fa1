/-
  THE PLAIN MATHEMATICS OF wire: numbers as bytes, seven bits at a time; what is read back; vectors and messages; cut anywhere they are too short. Nothing of the program stands here.
-/
namespace Go.Proofs.Ytedandbkdjmfhaa
namespace Wire

abbrev B8 := BitVec 8

/-- A number's bytes. -/
def enc (n : Nat) : List B8 := if n < 128 then [BitVec.ofNat 8 n] else BitVec.ofNat 8 (n % 128 + 128) :: enc (n / 128)
termination_by n
decreasing_by omega
/-- What bytes say, whether or not they end. -/
def dec : List B8 → Nat
  | [] => 0
  | b :: r => b.toNat % 128 + 128 * dec r
/-- From place i on: how many bytes the number has, and what is wrong with it (0: nothing). -/
def scan : Nat → List B8 → Nat × Nat
  | _, [] => (0, 20)
  | i, b :: r => if (i = 9 ∧ 1 < b.toNat) ∨ (0 < i ∧ b.toNat = 0) then (0, 21) else if b.toNat < 128 then (i + 1, 0) else scan (i + 1) r

theorem enc_lt {n : Nat} (h : n < 128) : enc n = [BitVec.ofNat 8 n] := by rw [enc, if_pos h]
theorem enc_ge {n : Nat} (h : 128 ≤ n) : enc n = BitVec.ofNat 8 (n % 128 + 128) :: enc (n / 128) := by rw [enc, if_neg (by omega)]
theorem enc_pos (n : Nat) : 0 < (enc n).length := by
  by_cases h : n < 128
  · rw [enc_lt h]; simp
  · rw [enc_ge (by omega)]; simp
theorem dec_enc (n : Nat) : dec (enc n) = n := by
  induction n using Nat.strongRecOn with
  | _ n ih =>
    by_cases h : n < 128
    · rw [enc_lt h]; simp [dec]; omega
    · rw [enc_ge (by omega)]; simp only [dec]; rw [ih (n / 128) (by omega)]; simp; omega
theorem enc_inj {a b : Nat} (h : enc a = enc b) : a = b := by rw [← dec_enc a, ← dec_enc b, h]

theorem scan_enc (rest : List B8) : ∀ (n i : Nat), (i = 0 ∨ 0 < n) → n * 128 ^ i < 18446744073709551616 → scan i (enc n ++ rest) = (i + (enc n).length, 0) := by
  intro n
  induction n using Nat.strongRecOn with
  | _ n ih =>
    intro i hi hb
    have h9 : i = 9 → n < 2 := by
      rintro rfl
      have : (128 : Nat) ^ 9 = 9223372036854775808 := by decide
      rw [this] at hb
      omega
    by_cases h : n < 128
    · rw [enc_lt h]
      have e : (BitVec.ofNat 8 n).toNat = n := by rw [BitVec.toNat_ofNat]; omega
      simp only [List.cons_append, List.nil_append, scan, e, List.length_cons, List.length_nil]
      rw [if_neg (by rintro (⟨h1, h2⟩ | ⟨h1, h2⟩); · have := h9 h1; omega
                     · omega), if_pos h]
    · rw [enc_ge (by omega)]
      have e : (BitVec.ofNat 8 (n % 128 + 128)).toNat = n % 128 + 128 := by rw [BitVec.toNat_ofNat]; omega
      simp only [List.cons_append, scan, e, List.length_cons]
      have hnext : n / 128 * 128 ^ (i + 1) < 18446744073709551616 := by
        refine Nat.lt_of_le_of_lt ?_ hb
        rw [Nat.pow_succ, Nat.mul_comm (128 ^ i) 128, ← Nat.mul_assoc]
        exact Nat.mul_le_mul_right _ (Nat.div_mul_le_self n 128)
      rw [if_neg (by rintro (⟨h1, h2⟩ | ⟨h1, h2⟩); · have := h9 h1; omega
                     · omega), if_neg (by omega), ih (n / 128) (by omega) (i + 1) (.inr (by omega)) hnext]
      congr 1; omega

theorem scan_cut : ∀ (n i j : Nat), (i = 0 ∨ 0 < n) → n * 128 ^ i < 18446744073709551616 → j < (enc n).length → scan i ((enc n).take j) = (0, 20) := by
  intro n
  induction n using Nat.strongRecOn with
  | _ n ih =>
    intro i j hi hb hj
    have h9 : i = 9 → n < 2 := by
      rintro rfl
      have : (128 : Nat) ^ 9 = 9223372036854775808 := by decide
      rw [this] at hb
      omega
    by_cases h : n < 128
    · rw [enc_lt h] at hj ⊢
      obtain rfl : j = 0 := by simp at hj; omega
      rfl
    · rw [enc_ge (by omega)] at hj ⊢
      cases j with
      | zero => rfl
      | succ j =>
        have e : (BitVec.ofNat 8 (n % 128 + 128)).toNat = n % 128 + 128 := by rw [BitVec.toNat_ofNat]; omega
        simp only [List.take_succ_cons, scan, e]
        have hnext : n / 128 * 128 ^ (i + 1) < 18446744073709551616 := by
          refine Nat.lt_of_le_of_lt ?_ hb
          rw [Nat.pow_succ, Nat.mul_comm (128 ^ i) 128, ← Nat.mul_assoc]
          exact Nat.mul_le_mul_right _ (Nat.div_mul_le_self n 128)
        rw [if_neg (by rintro (⟨h1, h2⟩ | ⟨h1, h2⟩); · have := h9 h1; omega
                       · omega), if_neg (by omega)]
        exact ih (n / 128) (by omega) (i + 1) j (.inr (by omega)) hnext (by simpa using hj)

/-- What was read is the number's own bytes. -/
theorem scan_one : ∀ (l : List B8) (i k : Nat), i ≤ 9 → scan i l = (k, 0) → ∃ j, k = i + j + 1 ∧ j < l.length ∧ j + i ≤ 9 ∧ enc (dec (l.take (j + 1))) = l.take (j + 1) ∧ (0 < i → 0 < dec (l.take (j + 1))) ∧ dec (l.take (j + 1)) * 128 ^ i < 18446744073709551616 := by
  intro l
  induction l with
  | nil => intro i k hi h; simp [scan] at h
  | cons b r ih =>
    intro i k hi h
    have hbl := b.isLt
    have h128 : (128 : Nat) ^ 9 = 9223372036854775808 := by decide
    rw [scan] at h
    split at h
    · simp at h
    · rename_i hn
      split at h
      · rename_i hlt
        simp only [Prod.mk.injEq, and_true] at h
        refine ⟨0, by omega, by simp, by omega, ?_, ?_, ?_⟩
        · simp only [Nat.zero_add, List.take_succ_cons, List.take_zero, dec]
          rw [enc_lt (by omega)]
          congr 1
          apply BitVec.eq_of_toNat_eq
          rw [BitVec.toNat_ofNat]; omega
        · intro h0
          simp only [Nat.zero_add, List.take_succ_cons, List.take_zero, dec]
          have : ¬ b.toNat = 0 := fun e => hn (.inr ⟨h0, e⟩)
          omega
        · simp only [Nat.zero_add, List.take_succ_cons, List.take_zero, dec]
          have e : b.toNat % 128 + 128 * 0 = b.toNat := by omega
          rw [e]
          by_cases h9 : i = 9
          · subst h9
            have : ¬ 1 < b.toNat := fun e => hn (.inl ⟨rfl, e⟩)
            rw [h128]; omega
          · have hp : (128 : Nat) ^ i ≤ 128 ^ 8 := Nat.pow_le_pow_right (by omega) (by omega)
            have h8 : (128 : Nat) ^ 8 = 72057594037927936 := by decide
            rw [h8] at hp
            exact Nat.lt_of_le_of_lt (Nat.mul_le_mul (Nat.le_of_lt hlt) hp) (by decide)
      · rename_i hge
        have hi9 : i ≠ 9 := fun e => by
          have : ¬ 1 < b.toNat := fun e' => hn (.inl ⟨e, e'⟩)
          omega
        obtain ⟨j, hk, hj, h9, hen, hpos, hbd⟩ := ih (i + 1) k (by omega) h
        have hp := hpos (by omega)
        refine ⟨j + 1, by omega, by simpa using hj, by omega, ?_, ?_, ?_⟩
        · simp only [List.take_succ_cons, dec]
          rw [enc_ge (by omega)]
          have e1 : (b.toNat % 128 + 128 * dec (List.take (j + 1) r)) % 128 + 128 = b.toNat := by omega
          have e2 : (b.toNat % 128 + 128 * dec (List.take (j + 1) r)) / 128 = dec (List.take (j + 1) r) := by omega
          rw [e1, e2, hen]
          congr 1
          apply BitVec.eq_of_toNat_eq
          rw [BitVec.toNat_ofNat]; omega
        · intro _
          simp only [List.take_succ_cons, dec]
          omega
        · simp only [List.take_succ_cons, dec]
          have hle : (dec (List.take (j + 1) r) + 1) * 128 ^ (i + 1) ≤ 18446744073709551616 := by
            -- 2^64 is a multiple of 128^(i+1) here
            have hdvd : ∃ m, 18446744073709551616 = m * 128 ^ (i + 1) := by
              have : i + 1 = 1 ∨ i + 1 = 2 ∨ i + 1 = 3 ∨ i + 1 = 4 ∨ i + 1 = 5 ∨ i + 1 = 6 ∨ i + 1 = 7 ∨ i + 1 = 8 ∨ i + 1 = 9 := by omega
              rcases this with h | h | h | h | h | h | h | h | h <;> rw [h]
              · exact ⟨144115188075855872, by decide⟩
              · exact ⟨1125899906842624, by decide⟩
              · exact ⟨8796093022208, by decide⟩
              · exact ⟨68719476736, by decide⟩
              · exact ⟨536870912, by decide⟩
              · exact ⟨4194304, by decide⟩
              · exact ⟨32768, by decide⟩
              · exact ⟨256, by decide⟩
              · exact ⟨2, by decide⟩
            obtain ⟨m, hm⟩ := hdvd
            rw [hm] at hbd ⊢
            have hlt := Nat.lt_of_mul_lt_mul_right hbd
            exact Nat.mul_le_mul_right _ hlt
          rw [Nat.pow_succ] at hle
          have hpp : 0 < 128 ^ i := Nat.pow_pos (by omega)
          have : (b.toNat % 128 + 128 * dec (List.take (j + 1) r)) < (dec (List.take (j + 1) r) + 1) * 128 := by omega
          calc (b.toNat % 128 + 128 * dec (List.take (j + 1) r)) * 128 ^ i < ((dec (List.take (j + 1) r) + 1) * 128) * 128 ^ i := Nat.mul_lt_mul_of_pos_right this hpp
            _ = (dec (List.take (j + 1) r) + 1) * (128 ^ i * 128) := by rw [Nat.mul_assoc, Nat.mul_comm 128 (128 ^ i)]
            _ ≤ _ := hle

/-- A scan that fails tells no bytes. -/
theorem scan_bad : ∀ (l : List B8) (i k e : Nat), scan i l = (k, e) → e ≠ 0 → k = 0 ∧ (e = 20 ∨ e = 21) := by
  intro l
  induction l with
  | nil => intro i k e h he; simp [scan] at h; omega
  | cons b r ih =>
    intro i k e h he
    rw [scan] at h
    split at h
    · simp at h; omega
    · split at h
      · simp at h; omega
      · exact ih _ _ _ h he

theorem enc_len_mono : ∀ {b a : Nat}, a ≤ b → (enc a).length ≤ (enc b).length := by
  intro b
  induction b using Nat.strongRecOn with
  | _ b ih =>
    intro a h
    by_cases ha : a < 128
    · rw [enc_lt ha]; have := enc_pos b; simp; omega
    · rw [enc_ge (n := a) (by omega), enc_ge (n := b) (by omega)]
      have := ih (b / 128) (by omega) (a := a / 128) (by omega)
      simpa using this
theorem enc_len_le {n : Nat} (h : n < 18446744073709551616) : (enc n).length ≤ 10 := by
  have h1 := scan_enc [] n 0 (.inl rfl) (by simpa using h)
  obtain ⟨j, hk, hj, h9, -⟩ := scan_one _ 0 _ (by omega) h1
  simp at hj
  omega

/-! ### Take, as the program answers: the number, how many bytes, the error -/
def take1 (l : List B8) : Nat × Nat × Nat := let r := scan 0 l; if r.2 = 0 then (dec (l.take r.1), r.1, 0) else (0, 0, r.2)
/-- .. of a number that goes into 63 bits. -/
def int1 (l : List B8) : Nat × Nat × Nat := let r := take1 l; if r.2.2 = 0 then (if 9223372036854775807 < r.1 then (0, 0, 21) else r) else (0, 0, r.2.2)

theorem take1_enc (n : Nat) (rest : List B8) (h : n < 18446744073709551616) : take1 (enc n ++ rest) = (n, (enc n).length, 0) := by
  unfold take1
  rw [scan_enc rest n 0 (.inl rfl) (by simpa using h)]
  simp [dec_enc]
theorem int1_enc (n : Nat) (rest : List B8) (h : n < 9223372036854775808) : int1 (enc n ++ rest) = (n, (enc n).length, 0) := by
  unfold int1
  rw [take1_enc n rest (by omega)]
  simp only [if_pos]
  rw [if_neg (by omega)]
theorem take1_cut {n j : Nat} (h : n < 18446744073709551616) (hj : j < (enc n).length) : take1 ((enc n).take j) = (0, 0, 20) := by
  unfold take1
  rw [scan_cut n 0 j (.inl rfl) (by simpa using h) hj]
  simp
theorem int1_cut {n j : Nat} (h : n < 9223372036854775808) (hj : j < (enc n).length) : int1 ((enc n).take j) = (0, 0, 20) := by
  unfold int1
  rw [take1_cut (by omega) hj]
  simp
theorem take1_one {l : List B8} {n k : Nat} (h : take1 l = (n, k, 0)) : 1 ≤ k ∧ k ≤ l.length ∧ k ≤ 10 ∧ enc n = l.take k ∧ n < 18446744073709551616 ∧ n = dec (l.take k) := by
  unfold take1 at h
  rcases hs : scan 0 l with ⟨k', e⟩
  rw [hs] at h
  by_cases he : e = 0
  · subst he
    simp only [if_pos, Prod.mk.injEq, and_true] at h
    obtain ⟨rfl, rfl⟩ := h
    obtain ⟨j, hk, hj, h9, hen, -, hbd⟩ := scan_one l 0 k' (by omega) hs
    obtain rfl : k' = j + 1 := by omega
    exact ⟨by omega, by omega, by omega, hen, by simpa using hbd, rfl⟩
  · simp [he] at h
theorem take1_bad {l : List B8} {n k e : Nat} (h : take1 l = (n, k, e)) (he : e ≠ 0) : n = 0 ∧ k = 0 ∧ (e = 20 ∨ e = 21) ∧ scan 0 l = (0, e) := by
  unfold take1 at h
  rcases hs : scan 0 l with ⟨k', e'⟩
  rw [hs] at h
  by_cases h0 : e' = 0
  · simp [h0] at h; omega
  · simp only [if_neg h0, Prod.mk.injEq] at h
    obtain ⟨rfl, rfl, rfl⟩ := h
    have := scan_bad l 0 k' e' hs he
    exact ⟨rfl, rfl, this.2, by rw [this.1]⟩
theorem int1_one {l : List B8} {n k : Nat} (h : int1 l = (n, k, 0)) : take1 l = (n, k, 0) ∧ n < 9223372036854775808 := by
  unfold int1 at h
  rcases hs : take1 l with ⟨n', k', e'⟩
  rw [hs] at h
  by_cases h0 : e' = 0
  · subst h0
    simp only [if_pos] at h
    split at h
    · simp at h
    · simp only [Prod.mk.injEq, and_true] at h
      obtain ⟨rfl, rfl⟩ := h
      exact ⟨rfl, by omega⟩
  · simp [h0] at h
theorem int1_bad {l : List B8} {n k e : Nat} (h : int1 l = (n, k, e)) (he : e ≠ 0) : n = 0 ∧ k = 0 ∧ (e = 20 ∨ e = 21) := by
  unfold int1 at h
  rcases hs : take1 l with ⟨n', k', e'⟩
  rw [hs] at h
  by_cases h0 : e' = 0
  · subst h0
    simp only [if_pos] at h
    split at h
    · simp at h; omega
    · simp at h; omega
  · simp only [if_neg h0, Prod.mk.injEq] at h
    obtain ⟨rfl, rfl, rfl⟩ := h
    exact ⟨rfl, rfl, (take1_bad hs h0).2.2.1⟩
theorem take1_err (l : List B8) : (take1 l).2.2 = 0 ∨ (take1 l).2.2 = 20 ∨ (take1 l).2.2 = 21 := by
  rcases h : take1 l with ⟨n, k, e⟩
  by_cases he : e = 0
  · exact .inl he
  · exact .inr (take1_bad h he).2.2.1

/-! ### Numbers one behind the other -/
def encs (l : List Nat) : List B8 := l.flatMap enc
def ints : Nat → List B8 → List Nat × Nat × Nat
  | 0, _ => ([], 0, 0)
  | m + 1, b => let r := int1 b; if r.2.2 = 0 then (let s := ints m (b.drop r.2.1); if s.2.2 = 0 then (r.1 :: s.1, r.2.1 + s.2.1, 0) else ([], 0, s.2.2)) else ([], 0, r.2.2)

theorem encs_cons (n : Nat) (l : List Nat) : encs (n :: l) = enc n ++ encs l := by simp [encs]
theorem encs_nil : encs [] = [] := rfl
theorem encs_append (l r : List Nat) : encs (l ++ r) = encs l ++ encs r := by simp [encs]
theorem encs_len {l : List Nat} (h : ∀ n ∈ l, n < 18446744073709551616) : (encs l).length ≤ 10 * l.length := by
  induction l with
  | nil => simp [encs]
  | cons n l ih =>
    rw [encs_cons, List.length_append, List.length_cons]
    have := enc_len_le (h n (by simp))
    have := ih fun m hm => h m (by simp [hm])
    omega
theorem encs_len_ge (l : List Nat) : l.length ≤ (encs l).length := by
  induction l with
  | nil => simp
  | cons n l ih => rw [encs_cons, List.length_append, List.length_cons]; have := enc_pos n; omega

theorem ints_encs (rest : List B8) : ∀ (l : List Nat), (∀ n ∈ l, n < 9223372036854775808) → ints l.length (encs l ++ rest) = (l, (encs l).length, 0) := by
  intro l
  induction l with
  | nil => intro _; simp [ints, encs]
  | cons n l ih =>
    intro h
    rw [encs_cons, List.length_cons, ints, List.append_assoc, int1_enc n _ (h n (by simp))]
    simp only [if_pos, List.drop_left]
    rw [ih fun m hm => h m (by simp [hm])]
    simp
theorem ints_cut : ∀ (l : List Nat) (j : Nat), (∀ n ∈ l, n < 9223372036854775808) → j < (encs l).length → ints l.length ((encs l).take j) = ([], 0, 20) := by
  intro l
  induction l with
  | nil => intro j _ hj; simp [encs] at hj
  | cons n l ih =>
    intro j h hj
    rw [encs_cons] at hj ⊢
    rw [List.length_cons, ints]
    by_cases hc : j < (enc n).length
    · rw [List.take_append_of_le_length (by omega), int1_cut (h n (by simp)) hc]
      simp
    · have e : (enc n ++ encs l).take j = enc n ++ (encs l).take (j - (enc n).length) := by
        rw [List.take_append, List.take_of_length_le (by omega)]
      rw [e, int1_enc n _ (h n (by simp))]
      simp only [if_pos, List.drop_left]
      rw [ih (j - (enc n).length) (fun m hm => h m (by simp [hm])) (by rw [List.length_append] at hj; omega)]
      simp
theorem ints_one : ∀ (m : Nat) (b : List B8) (l : List Nat) (k : Nat), ints m b = (l, k, 0) → l.length = m ∧ k ≤ b.length ∧ encs l = b.take k ∧ ∀ n ∈ l, n < 9223372036854775808 := by
  intro m
  induction m with
  | zero => intro b l k h; simp [ints] at h; obtain ⟨rfl, rfl⟩ := h; simp [encs]
  | succ m ih =>
    intro b l k h
    rw [ints] at h
    rcases hr : int1 b with ⟨n, k1, e⟩
    rw [hr] at h
    by_cases he : e = 0
    · subst he
      simp only [if_pos] at h
      rcases hs : ints m (b.drop k1) with ⟨l', k2, e2⟩
      rw [hs] at h
      by_cases he2 : e2 = 0
      · subst he2
        simp only [if_pos, Prod.mk.injEq, and_true] at h
        obtain ⟨rfl, rfl⟩ := h
        obtain ⟨h1, hn⟩ := int1_one hr
        obtain ⟨t1, t2, t3, t4, t5, -⟩ := take1_one h1
        obtain ⟨a1, a2, a3, a4⟩ := ih _ _ _ hs
        rw [List.length_drop] at a2
        refine ⟨by simp [a1], by omega, ?_, ?_⟩
        · rw [encs_cons, t4, a3]
          rw [← List.take_append_drop k1 (b.take (k1 + k2))]
          congr 1
          · rw [List.take_take]; congr 1; omega
          · rw [List.drop_take]; congr 1; omega
        · intro x hx
          rcases List.mem_cons.1 hx with rfl | hx
          · exact hn
          · exact a4 x hx
      · simp [he2] at h
    · simp [he] at h
theorem ints_bad : ∀ (m : Nat) (b : List B8) (l : List Nat) (k e : Nat), ints m b = (l, k, e) → e ≠ 0 → l = [] ∧ k = 0 ∧ (e = 20 ∨ e = 21) := by
  intro m
  induction m with
  | zero => intro b l k e h he; simp [ints] at h; omega
  | succ m ih =>
    intro b l k e h he
    rw [ints] at h
    rcases hr : int1 b with ⟨n, k1, e1⟩
    rw [hr] at h
    by_cases he1 : e1 = 0
    · subst he1
      simp only [if_pos] at h
      rcases hs : ints m (b.drop k1) with ⟨l', k2, e2⟩
      rw [hs] at h
      by_cases he2 : e2 = 0
      · subst he2; simp at h; omega
      · simp only [if_neg he2, Prod.mk.injEq] at h
        obtain ⟨rfl, rfl, rfl⟩ := h
        exact ⟨rfl, rfl, (ih _ _ _ _ hs he2).2.2⟩
    · simp only [if_neg he1, Prod.mk.injEq] at h
      obtain ⟨rfl, rfl, rfl⟩ := h
      exact ⟨rfl, rfl, (int1_bad hr he1).2.2⟩

/-- Gone on with: what was read so far, and the rest. -/
def goOn (l : List Nat) (k : Nat) (r : List Nat × Nat × Nat) : List Nat × Nat × Nat := if r.2.2 = 0 then (l ++ r.1, k + r.2.1, 0) else ([], 0, r.2.2)
theorem goOn_start (r : List Nat × Nat × Nat) (h : r.2.2 ≠ 0 → r.1 = [] ∧ r.2.1 = 0) : goOn [] 0 r = r := by
  obtain ⟨a, b, c⟩ := r
  unfold goOn
  by_cases h0 : c = 0
  · simp [h0]
  · obtain ⟨h1, h2⟩ := h h0
    simp only at h1 h2
    subst h1 h2
    simp [h0]
theorem goOn_ints (m : Nat) (b : List B8) : goOn [] 0 (ints m b) = ints m b := by
  refine goOn_start _ fun h => ?_
  rcases hr : ints m b with ⟨l, k, e⟩
  rw [hr] at h
  obtain ⟨h1, h2, -⟩ := ints_bad m b l k e hr h
  exact ⟨h1, h2⟩
theorem goOn_step {l : List Nat} {k m : Nat} {b : List B8} {n j : Nat} (h : int1 (b.drop k) = (n, j, 0)) : goOn l k (ints (m + 1) (b.drop k)) = goOn (l ++ [n]) (k + j) (ints m (b.drop (k + j))) := by
  rw [ints, h]
  simp only [if_pos, List.drop_drop]
  unfold goOn
  rcases hs : ints m (b.drop (k + j)) with ⟨l', k2, e2⟩
  by_cases he : e2 = 0
  · subst he; simp [Nat.add_assoc]
  · simp [he]
theorem goOn_stop {l : List Nat} {k m : Nat} {b : List B8} {n j e : Nat} (h : int1 (b.drop k) = (n, j, e)) (he : e ≠ 0) : goOn l k (ints (m + 1) (b.drop k)) = ([], 0, e) := by
  rw [ints, h]
  simp [goOn, he]
theorem goOn_end (l : List Nat) (k : Nat) (b : List B8) : goOn l k (ints 0 b) = (l, k, 0) := by simp [ints, goOn]

/-! ### A vector -/
def encV (x : List B8) : List B8 := enc x.length ++ x
def vec1 (b : List B8) : List B8 × Nat × Nat :=
  let r := int1 b
  if r.2.2 = 0 then (if 65536 < r.1 then ([], 0, 2) else if b.length - r.2.1 < r.1 then ([], 0, 20) else ((b.drop r.2.1).take r.1, r.2.1 + r.1, 0)) else ([], 0, r.2.2)
theorem vec1_enc (x rest : List B8) (h : x.length ≤ 65536) : vec1 (encV x ++ rest) = (x, (encV x).length, 0) := by
  unfold vec1 encV
  rw [List.append_assoc, int1_enc _ _ (by omega)]
  simp only [if_pos, List.drop_left, List.take_left, List.length_append]
  rw [if_neg (by omega), if_neg (by omega)]
theorem vec1_cut (x : List B8) (j : Nat) (h : x.length ≤ 65536) (hj : j < (encV x).length) : vec1 ((encV x).take j) = ([], 0, 20) := by
  unfold vec1 encV at *
  by_cases hc : j < (enc x.length).length
  · rw [List.take_append_of_le_length (by omega), int1_cut (by omega) hc]
    simp
  · have e : (enc x.length ++ x).take j = enc x.length ++ x.take (j - (enc x.length).length) := by
      rw [List.take_append, List.take_of_length_le (by omega)]
    rw [e, int1_enc _ _ (by omega)]
    rw [List.length_append] at hj
    simp only [if_pos, List.length_append, List.length_take]
    rw [if_neg (by omega), if_pos (by omega)]
theorem vec1_one {b v : List B8} {k : Nat} (h : vec1 b = (v, k, 0)) : encV v = b.take k ∧ k ≤ b.length ∧ v.length ≤ 65536 ∧ 1 ≤ k := by
  unfold vec1 at h
  rcases hr : int1 b with ⟨n, k1, e⟩
  rw [hr] at h
  by_cases he : e = 0
  · subst he
    simp only [if_pos] at h
    split at h
    · simp at h
    · split at h
      · simp at h
      · rename_i h1 h2
        simp only [Prod.mk.injEq, and_true] at h
        obtain ⟨rfl, rfl⟩ := h
        obtain ⟨t1, t2, t3, t4, t5, -⟩ := take1_one (int1_one hr).1
        have hlen : ((b.drop k1).take n).length = n := by rw [List.length_take, List.length_drop]; omega
        refine ⟨?_, by omega, by omega, by omega⟩
        unfold encV
        rw [hlen, t4, ← List.take_append_drop k1 (b.take (k1 + n))]
        congr 1
        · rw [List.take_take]; congr 1; omega
        · rw [List.drop_take]; congr 1; omega
  · simp [he] at h
theorem vec1_bad {b v : List B8} {k e : Nat} (h : vec1 b = (v, k, e)) (he : e ≠ 0) : v = [] ∧ k = 0 ∧ (e = 2 ∨ e = 20 ∨ e = 21) := by
  unfold vec1 at h
  rcases hr : int1 b with ⟨n, k1, e1⟩
  rw [hr] at h
  by_cases he1 : e1 = 0
  · subst he1
    simp only [if_pos] at h
    split at h
    · simp at h; obtain ⟨rfl, rfl, rfl⟩ := h; simp
    · split at h
      · simp at h; obtain ⟨rfl, rfl, rfl⟩ := h; simp
      · simp at h; omega
  · simp only [if_neg he1, Prod.mk.injEq] at h
    obtain ⟨rfl, rfl, rfl⟩ := h
    have := (int1_bad hr he1).2.2
    exact ⟨rfl, rfl, by omega⟩
end Wire
end Go.Proofs.Ytedandbkdjmfhaa
