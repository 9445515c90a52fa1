/-
  SEVERAL TEXTS IN ONE FILE: WireMath, CooRepP, WireNums, WireBack, WireTake.
-/
import Derived.Test.YtmflngclncidjaaGreatJ05
import Derived.Test.YtmflngclncidjaaGreatJ01
import Derived.LoopTactic
import Derived.Deep.LoopGhost
import Derived.RangeFuncNested
import Derived.RangeFuncBound
import Derived.RangeFuncCalls
import Derived.RangeFuncLeaves
import Derived.RangeFuncBox
import Derived.Shelf.Abstract
import Derived.OwnWalkIn
import Derived.TacticsInMore
import Derived.LoopNIn
import Derived.LoopIn
/-
  THE PLAIN MATHEMATICS OF wire: numbers as bytes, seven bits at a time; what is read back; vectors and messages; cut anywhere they are too short. Nothing of the program stands here.
-/
namespace Go.Proofs.YtmflngclncidjaaGreat
namespace Wire

abbrev B8 := BitVec 8

/-- A number's bytes. -/
def enc (n : Nat) : List B8 := if n < 128 then [BitVec.ofNat 8 n] else BitVec.ofNat 8 (n % 128 + 128) :: enc (n / 128)
termination_by n
decreasing_by omega
/-- What bytes say, whether or not they end. -/
def dec : List B8 → Nat
  | [] => 0
  | b :: r => b.toNat % 128 + 128 * dec r
/-- From place i on: how many bytes the number has, and what is wrong with it (0: nothing). -/
def scan : Nat → List B8 → Nat × Nat
  | _, [] => (0, 20)
  | i, b :: r => if (i = 9 ∧ 1 < b.toNat) ∨ (0 < i ∧ b.toNat = 0) then (0, 21) else if b.toNat < 128 then (i + 1, 0) else scan (i + 1) r

theorem enc_lt {n : Nat} (h : n < 128) : enc n = [BitVec.ofNat 8 n] := by rw [enc, if_pos h]
theorem enc_ge {n : Nat} (h : 128 ≤ n) : enc n = BitVec.ofNat 8 (n % 128 + 128) :: enc (n / 128) := by rw [enc, if_neg (by omega)]
theorem enc_pos (n : Nat) : 0 < (enc n).length := by
  by_cases h : n < 128
  · rw [enc_lt h]; simp
  · rw [enc_ge (by omega)]; simp
theorem dec_enc (n : Nat) : dec (enc n) = n := by
  induction n using Nat.strongRecOn with
  | _ n ih =>
    by_cases h : n < 128
    · rw [enc_lt h]; simp [dec]; omega
    · rw [enc_ge (by omega)]; simp only [dec]; rw [ih (n / 128) (by omega)]; simp; omega
theorem enc_inj {a b : Nat} (h : enc a = enc b) : a = b := by rw [← dec_enc a, ← dec_enc b, h]

theorem scan_enc (rest : List B8) : ∀ (n i : Nat), (i = 0 ∨ 0 < n) → n * 128 ^ i < 18446744073709551616 → scan i (enc n ++ rest) = (i + (enc n).length, 0) := by
  intro n
  induction n using Nat.strongRecOn with
  | _ n ih =>
    intro i hi hb
    have h9 : i = 9 → n < 2 := by
      rintro rfl
      have : (128 : Nat) ^ 9 = 9223372036854775808 := by decide
      rw [this] at hb
      omega
    by_cases h : n < 128
    · rw [enc_lt h]
      have e : (BitVec.ofNat 8 n).toNat = n := by rw [BitVec.toNat_ofNat]; omega
      simp only [List.cons_append, List.nil_append, scan, e, List.length_cons, List.length_nil]
      rw [if_neg (by rintro (⟨h1, h2⟩ | ⟨h1, h2⟩); · have := h9 h1; omega
                     · omega), if_pos h]
    · rw [enc_ge (by omega)]
      have e : (BitVec.ofNat 8 (n % 128 + 128)).toNat = n % 128 + 128 := by rw [BitVec.toNat_ofNat]; omega
      simp only [List.cons_append, scan, e, List.length_cons]
      have hnext : n / 128 * 128 ^ (i + 1) < 18446744073709551616 := by
        refine Nat.lt_of_le_of_lt ?_ hb
        rw [Nat.pow_succ, Nat.mul_comm (128 ^ i) 128, ← Nat.mul_assoc]
        exact Nat.mul_le_mul_right _ (Nat.div_mul_le_self n 128)
      rw [if_neg (by rintro (⟨h1, h2⟩ | ⟨h1, h2⟩); · have := h9 h1; omega
                     · omega), if_neg (by omega), ih (n / 128) (by omega) (i + 1) (.inr (by omega)) hnext]
      congr 1; omega

theorem scan_cut : ∀ (n i j : Nat), (i = 0 ∨ 0 < n) → n * 128 ^ i < 18446744073709551616 → j < (enc n).length → scan i ((enc n).take j) = (0, 20) := by
  intro n
  induction n using Nat.strongRecOn with
  | _ n ih =>
    intro i j hi hb hj
    have h9 : i = 9 → n < 2 := by
      rintro rfl
      have : (128 : Nat) ^ 9 = 9223372036854775808 := by decide
      rw [this] at hb
      omega
    by_cases h : n < 128
    · rw [enc_lt h] at hj ⊢
      obtain rfl : j = 0 := by simp at hj; omega
      rfl
    · rw [enc_ge (by omega)] at hj ⊢
      cases j with
      | zero => rfl
      | succ j =>
        have e : (BitVec.ofNat 8 (n % 128 + 128)).toNat = n % 128 + 128 := by rw [BitVec.toNat_ofNat]; omega
        simp only [List.take_succ_cons, scan, e]
        have hnext : n / 128 * 128 ^ (i + 1) < 18446744073709551616 := by
          refine Nat.lt_of_le_of_lt ?_ hb
          rw [Nat.pow_succ, Nat.mul_comm (128 ^ i) 128, ← Nat.mul_assoc]
          exact Nat.mul_le_mul_right _ (Nat.div_mul_le_self n 128)
        rw [if_neg (by rintro (⟨h1, h2⟩ | ⟨h1, h2⟩); · have := h9 h1; omega
                       · omega), if_neg (by omega)]
        exact ih (n / 128) (by omega) (i + 1) j (.inr (by omega)) hnext (by simpa using hj)

/-- What was read is the number's own bytes. -/
theorem scan_one : ∀ (l : List B8) (i k : Nat), i ≤ 9 → scan i l = (k, 0) → ∃ j, k = i + j + 1 ∧ j < l.length ∧ j + i ≤ 9 ∧ enc (dec (l.take (j + 1))) = l.take (j + 1) ∧ (0 < i → 0 < dec (l.take (j + 1))) ∧ dec (l.take (j + 1)) * 128 ^ i < 18446744073709551616 := by
  intro l
  induction l with
  | nil => intro i k hi h; simp [scan] at h
  | cons b r ih =>
    intro i k hi h
    have hbl := b.isLt
    have h128 : (128 : Nat) ^ 9 = 9223372036854775808 := by decide
    rw [scan] at h
    split at h
    · simp at h
    · rename_i hn
      split at h
      · rename_i hlt
        simp only [Prod.mk.injEq, and_true] at h
        refine ⟨0, by omega, by simp, by omega, ?_, ?_, ?_⟩
        · simp only [Nat.zero_add, List.take_succ_cons, List.take_zero, dec]
          rw [enc_lt (by omega)]
          congr 1
          apply BitVec.eq_of_toNat_eq
          rw [BitVec.toNat_ofNat]; omega
        · intro h0
          simp only [Nat.zero_add, List.take_succ_cons, List.take_zero, dec]
          have : ¬ b.toNat = 0 := fun e => hn (.inr ⟨h0, e⟩)
          omega
        · simp only [Nat.zero_add, List.take_succ_cons, List.take_zero, dec]
          have e : b.toNat % 128 + 128 * 0 = b.toNat := by omega
          rw [e]
          by_cases h9 : i = 9
          · subst h9
            have : ¬ 1 < b.toNat := fun e => hn (.inl ⟨rfl, e⟩)
            rw [h128]; omega
          · have hp : (128 : Nat) ^ i ≤ 128 ^ 8 := Nat.pow_le_pow_right (by omega) (by omega)
            have h8 : (128 : Nat) ^ 8 = 72057594037927936 := by decide
            rw [h8] at hp
            exact Nat.lt_of_le_of_lt (Nat.mul_le_mul (Nat.le_of_lt hlt) hp) (by decide)
      · rename_i hge
        have hi9 : i ≠ 9 := fun e => by
          have : ¬ 1 < b.toNat := fun e' => hn (.inl ⟨e, e'⟩)
          omega
        obtain ⟨j, hk, hj, h9, hen, hpos, hbd⟩ := ih (i + 1) k (by omega) h
        have hp := hpos (by omega)
        refine ⟨j + 1, by omega, by simpa using hj, by omega, ?_, ?_, ?_⟩
        · simp only [List.take_succ_cons, dec]
          rw [enc_ge (by omega)]
          have e1 : (b.toNat % 128 + 128 * dec (List.take (j + 1) r)) % 128 + 128 = b.toNat := by omega
          have e2 : (b.toNat % 128 + 128 * dec (List.take (j + 1) r)) / 128 = dec (List.take (j + 1) r) := by omega
          rw [e1, e2, hen]
          congr 1
          apply BitVec.eq_of_toNat_eq
          rw [BitVec.toNat_ofNat]; omega
        · intro _
          simp only [List.take_succ_cons, dec]
          omega
        · simp only [List.take_succ_cons, dec]
          have hle : (dec (List.take (j + 1) r) + 1) * 128 ^ (i + 1) ≤ 18446744073709551616 := by
            -- 2^64 is a multiple of 128^(i+1) here
            have hdvd : ∃ m, 18446744073709551616 = m * 128 ^ (i + 1) := by
              have : i + 1 = 1 ∨ i + 1 = 2 ∨ i + 1 = 3 ∨ i + 1 = 4 ∨ i + 1 = 5 ∨ i + 1 = 6 ∨ i + 1 = 7 ∨ i + 1 = 8 ∨ i + 1 = 9 := by omega
              rcases this with h | h | h | h | h | h | h | h | h <;> rw [h]
              · exact ⟨144115188075855872, by decide⟩
              · exact ⟨1125899906842624, by decide⟩
              · exact ⟨8796093022208, by decide⟩
              · exact ⟨68719476736, by decide⟩
              · exact ⟨536870912, by decide⟩
              · exact ⟨4194304, by decide⟩
              · exact ⟨32768, by decide⟩
              · exact ⟨256, by decide⟩
              · exact ⟨2, by decide⟩
            obtain ⟨m, hm⟩ := hdvd
            rw [hm] at hbd ⊢
            have hlt := Nat.lt_of_mul_lt_mul_right hbd
            exact Nat.mul_le_mul_right _ hlt
          rw [Nat.pow_succ] at hle
          have hpp : 0 < 128 ^ i := Nat.pow_pos (by omega)
          have : (b.toNat % 128 + 128 * dec (List.take (j + 1) r)) < (dec (List.take (j + 1) r) + 1) * 128 := by omega
          calc (b.toNat % 128 + 128 * dec (List.take (j + 1) r)) * 128 ^ i < ((dec (List.take (j + 1) r) + 1) * 128) * 128 ^ i := Nat.mul_lt_mul_of_pos_right this hpp
            _ = (dec (List.take (j + 1) r) + 1) * (128 ^ i * 128) := by rw [Nat.mul_assoc, Nat.mul_comm 128 (128 ^ i)]
            _ ≤ _ := hle

/-- A scan that fails tells no bytes. -/
theorem scan_bad : ∀ (l : List B8) (i k e : Nat), scan i l = (k, e) → e ≠ 0 → k = 0 ∧ (e = 20 ∨ e = 21) := by
  intro l
  induction l with
  | nil => intro i k e h he; simp [scan] at h; omega
  | cons b r ih =>
    intro i k e h he
    rw [scan] at h
    split at h
    · simp at h; omega
    · split at h
      · simp at h; omega
      · exact ih _ _ _ h he

theorem enc_len_mono : ∀ {b a : Nat}, a ≤ b → (enc a).length ≤ (enc b).length := by
  intro b
  induction b using Nat.strongRecOn with
  | _ b ih =>
    intro a h
    by_cases ha : a < 128
    · rw [enc_lt ha]; have := enc_pos b; simp; omega
    · rw [enc_ge (n := a) (by omega), enc_ge (n := b) (by omega)]
      have := ih (b / 128) (by omega) (a := a / 128) (by omega)
      simpa using this
theorem enc_len_le {n : Nat} (h : n < 18446744073709551616) : (enc n).length ≤ 10 := by
  have h1 := scan_enc [] n 0 (.inl rfl) (by simpa using h)
  obtain ⟨j, hk, hj, h9, -⟩ := scan_one _ 0 _ (by omega) h1
  simp at hj
  omega

/-! ### Take, as the program answers: the number, how many bytes, the error -/
def take1 (l : List B8) : Nat × Nat × Nat := let r := scan 0 l; if r.2 = 0 then (dec (l.take r.1), r.1, 0) else (0, 0, r.2)
/-- .. of a number that goes into 63 bits. -/
def int1 (l : List B8) : Nat × Nat × Nat := let r := take1 l; if r.2.2 = 0 then (if 9223372036854775807 < r.1 then (0, 0, 21) else r) else (0, 0, r.2.2)

theorem take1_enc (n : Nat) (rest : List B8) (h : n < 18446744073709551616) : take1 (enc n ++ rest) = (n, (enc n).length, 0) := by
  unfold take1
  rw [scan_enc rest n 0 (.inl rfl) (by simpa using h)]
  simp [dec_enc]
theorem int1_enc (n : Nat) (rest : List B8) (h : n < 9223372036854775808) : int1 (enc n ++ rest) = (n, (enc n).length, 0) := by
  unfold int1
  rw [take1_enc n rest (by omega)]
  simp only [if_pos]
  rw [if_neg (by omega)]
theorem take1_cut {n j : Nat} (h : n < 18446744073709551616) (hj : j < (enc n).length) : take1 ((enc n).take j) = (0, 0, 20) := by
  unfold take1
  rw [scan_cut n 0 j (.inl rfl) (by simpa using h) hj]
  simp
theorem int1_cut {n j : Nat} (h : n < 9223372036854775808) (hj : j < (enc n).length) : int1 ((enc n).take j) = (0, 0, 20) := by
  unfold int1
  rw [take1_cut (by omega) hj]
  simp
theorem take1_one {l : List B8} {n k : Nat} (h : take1 l = (n, k, 0)) : 1 ≤ k ∧ k ≤ l.length ∧ k ≤ 10 ∧ enc n = l.take k ∧ n < 18446744073709551616 ∧ n = dec (l.take k) := by
  unfold take1 at h
  rcases hs : scan 0 l with ⟨k', e⟩
  rw [hs] at h
  by_cases he : e = 0
  · subst he
    simp only [if_pos, Prod.mk.injEq, and_true] at h
    obtain ⟨rfl, rfl⟩ := h
    obtain ⟨j, hk, hj, h9, hen, -, hbd⟩ := scan_one l 0 k' (by omega) hs
    obtain rfl : k' = j + 1 := by omega
    exact ⟨by omega, by omega, by omega, hen, by simpa using hbd, rfl⟩
  · simp [he] at h
theorem take1_bad {l : List B8} {n k e : Nat} (h : take1 l = (n, k, e)) (he : e ≠ 0) : n = 0 ∧ k = 0 ∧ (e = 20 ∨ e = 21) ∧ scan 0 l = (0, e) := by
  unfold take1 at h
  rcases hs : scan 0 l with ⟨k', e'⟩
  rw [hs] at h
  by_cases h0 : e' = 0
  · simp [h0] at h; omega
  · simp only [if_neg h0, Prod.mk.injEq] at h
    obtain ⟨rfl, rfl, rfl⟩ := h
    have := scan_bad l 0 k' e' hs he
    exact ⟨rfl, rfl, this.2, by rw [this.1]⟩
theorem int1_one {l : List B8} {n k : Nat} (h : int1 l = (n, k, 0)) : take1 l = (n, k, 0) ∧ n < 9223372036854775808 := by
  unfold int1 at h
  rcases hs : take1 l with ⟨n', k', e'⟩
  rw [hs] at h
  by_cases h0 : e' = 0
  · subst h0
    simp only [if_pos] at h
    split at h
    · simp at h
    · simp only [Prod.mk.injEq, and_true] at h
      obtain ⟨rfl, rfl⟩ := h
      exact ⟨rfl, by omega⟩
  · simp [h0] at h
theorem int1_bad {l : List B8} {n k e : Nat} (h : int1 l = (n, k, e)) (he : e ≠ 0) : n = 0 ∧ k = 0 ∧ (e = 20 ∨ e = 21) := by
  unfold int1 at h
  rcases hs : take1 l with ⟨n', k', e'⟩
  rw [hs] at h
  by_cases h0 : e' = 0
  · subst h0
    simp only [if_pos] at h
    split at h
    · simp at h; omega
    · simp at h; omega
  · simp only [if_neg h0, Prod.mk.injEq] at h
    obtain ⟨rfl, rfl, rfl⟩ := h
    exact ⟨rfl, rfl, (take1_bad hs h0).2.2.1⟩
theorem take1_err (l : List B8) : (take1 l).2.2 = 0 ∨ (take1 l).2.2 = 20 ∨ (take1 l).2.2 = 21 := by
  rcases h : take1 l with ⟨n, k, e⟩
  by_cases he : e = 0
  · exact .inl he
  · exact .inr (take1_bad h he).2.2.1

/-! ### Numbers one behind the other -/
def encs (l : List Nat) : List B8 := l.flatMap enc
def ints : Nat → List B8 → List Nat × Nat × Nat
  | 0, _ => ([], 0, 0)
  | m + 1, b => let r := int1 b; if r.2.2 = 0 then (let s := ints m (b.drop r.2.1); if s.2.2 = 0 then (r.1 :: s.1, r.2.1 + s.2.1, 0) else ([], 0, s.2.2)) else ([], 0, r.2.2)

theorem encs_cons (n : Nat) (l : List Nat) : encs (n :: l) = enc n ++ encs l := by simp [encs]
theorem encs_nil : encs [] = [] := rfl
theorem encs_append (l r : List Nat) : encs (l ++ r) = encs l ++ encs r := by simp [encs]
theorem encs_len {l : List Nat} (h : ∀ n ∈ l, n < 18446744073709551616) : (encs l).length ≤ 10 * l.length := by
  induction l with
  | nil => simp [encs]
  | cons n l ih =>
    rw [encs_cons, List.length_append, List.length_cons]
    have := enc_len_le (h n (by simp))
    have := ih fun m hm => h m (by simp [hm])
    omega
theorem encs_len_ge (l : List Nat) : l.length ≤ (encs l).length := by
  induction l with
  | nil => simp
  | cons n l ih => rw [encs_cons, List.length_append, List.length_cons]; have := enc_pos n; omega

theorem ints_encs (rest : List B8) : ∀ (l : List Nat), (∀ n ∈ l, n < 9223372036854775808) → ints l.length (encs l ++ rest) = (l, (encs l).length, 0) := by
  intro l
  induction l with
  | nil => intro _; simp [ints, encs]
  | cons n l ih =>
    intro h
    rw [encs_cons, List.length_cons, ints, List.append_assoc, int1_enc n _ (h n (by simp))]
    simp only [if_pos, List.drop_left]
    rw [ih fun m hm => h m (by simp [hm])]
    simp
theorem ints_cut : ∀ (l : List Nat) (j : Nat), (∀ n ∈ l, n < 9223372036854775808) → j < (encs l).length → ints l.length ((encs l).take j) = ([], 0, 20) := by
  intro l
  induction l with
  | nil => intro j _ hj; simp [encs] at hj
  | cons n l ih =>
    intro j h hj
    rw [encs_cons] at hj ⊢
    rw [List.length_cons, ints]
    by_cases hc : j < (enc n).length
    · rw [List.take_append_of_le_length (by omega), int1_cut (h n (by simp)) hc]
      simp
    · have e : (enc n ++ encs l).take j = enc n ++ (encs l).take (j - (enc n).length) := by
        rw [List.take_append, List.take_of_length_le (by omega)]
      rw [e, int1_enc n _ (h n (by simp))]
      simp only [if_pos, List.drop_left]
      rw [ih (j - (enc n).length) (fun m hm => h m (by simp [hm])) (by rw [List.length_append] at hj; omega)]
      simp
theorem ints_one : ∀ (m : Nat) (b : List B8) (l : List Nat) (k : Nat), ints m b = (l, k, 0) → l.length = m ∧ k ≤ b.length ∧ encs l = b.take k ∧ ∀ n ∈ l, n < 9223372036854775808 := by
  intro m
  induction m with
  | zero => intro b l k h; simp [ints] at h; obtain ⟨rfl, rfl⟩ := h; simp [encs]
  | succ m ih =>
    intro b l k h
    rw [ints] at h
    rcases hr : int1 b with ⟨n, k1, e⟩
    rw [hr] at h
    by_cases he : e = 0
    · subst he
      simp only [if_pos] at h
      rcases hs : ints m (b.drop k1) with ⟨l', k2, e2⟩
      rw [hs] at h
      by_cases he2 : e2 = 0
      · subst he2
        simp only [if_pos, Prod.mk.injEq, and_true] at h
        obtain ⟨rfl, rfl⟩ := h
        obtain ⟨h1, hn⟩ := int1_one hr
        obtain ⟨t1, t2, t3, t4, t5, -⟩ := take1_one h1
        obtain ⟨a1, a2, a3, a4⟩ := ih _ _ _ hs
        rw [List.length_drop] at a2
        refine ⟨by simp [a1], by omega, ?_, ?_⟩
        · rw [encs_cons, t4, a3]
          rw [← List.take_append_drop k1 (b.take (k1 + k2))]
          congr 1
          · rw [List.take_take]; congr 1; omega
          · rw [List.drop_take]; congr 1; omega
        · intro x hx
          rcases List.mem_cons.1 hx with rfl | hx
          · exact hn
          · exact a4 x hx
      · simp [he2] at h
    · simp [he] at h
theorem ints_bad : ∀ (m : Nat) (b : List B8) (l : List Nat) (k e : Nat), ints m b = (l, k, e) → e ≠ 0 → l = [] ∧ k = 0 ∧ (e = 20 ∨ e = 21) := by
  intro m
  induction m with
  | zero => intro b l k e h he; simp [ints] at h; omega
  | succ m ih =>
    intro b l k e h he
    rw [ints] at h
    rcases hr : int1 b with ⟨n, k1, e1⟩
    rw [hr] at h
    by_cases he1 : e1 = 0
    · subst he1
      simp only [if_pos] at h
      rcases hs : ints m (b.drop k1) with ⟨l', k2, e2⟩
      rw [hs] at h
      by_cases he2 : e2 = 0
      · subst he2; simp at h; omega
      · simp only [if_neg he2, Prod.mk.injEq] at h
        obtain ⟨rfl, rfl, rfl⟩ := h
        exact ⟨rfl, rfl, (ih _ _ _ _ hs he2).2.2⟩
    · simp only [if_neg he1, Prod.mk.injEq] at h
      obtain ⟨rfl, rfl, rfl⟩ := h
      exact ⟨rfl, rfl, (int1_bad hr he1).2.2⟩

/-- Gone on with: what was read so far, and the rest. -/
def goOn (l : List Nat) (k : Nat) (r : List Nat × Nat × Nat) : List Nat × Nat × Nat := if r.2.2 = 0 then (l ++ r.1, k + r.2.1, 0) else ([], 0, r.2.2)
theorem goOn_start (r : List Nat × Nat × Nat) (h : r.2.2 ≠ 0 → r.1 = [] ∧ r.2.1 = 0) : goOn [] 0 r = r := by
  obtain ⟨a, b, c⟩ := r
  unfold goOn
  by_cases h0 : c = 0
  · simp [h0]
  · obtain ⟨h1, h2⟩ := h h0
    simp only at h1 h2
    subst h1 h2
    simp [h0]
theorem goOn_ints (m : Nat) (b : List B8) : goOn [] 0 (ints m b) = ints m b := by
  refine goOn_start _ fun h => ?_
  rcases hr : ints m b with ⟨l, k, e⟩
  rw [hr] at h
  obtain ⟨h1, h2, -⟩ := ints_bad m b l k e hr h
  exact ⟨h1, h2⟩
theorem goOn_step {l : List Nat} {k m : Nat} {b : List B8} {n j : Nat} (h : int1 (b.drop k) = (n, j, 0)) : goOn l k (ints (m + 1) (b.drop k)) = goOn (l ++ [n]) (k + j) (ints m (b.drop (k + j))) := by
  rw [ints, h]
  simp only [if_pos, List.drop_drop]
  unfold goOn
  rcases hs : ints m (b.drop (k + j)) with ⟨l', k2, e2⟩
  by_cases he : e2 = 0
  · subst he; simp [Nat.add_assoc]
  · simp [he]
theorem goOn_stop {l : List Nat} {k m : Nat} {b : List B8} {n j e : Nat} (h : int1 (b.drop k) = (n, j, e)) (he : e ≠ 0) : goOn l k (ints (m + 1) (b.drop k)) = ([], 0, e) := by
  rw [ints, h]
  simp [goOn, he]
theorem goOn_end (l : List Nat) (k : Nat) (b : List B8) : goOn l k (ints 0 b) = (l, k, 0) := by simp [ints, goOn]

/-! ### A vector -/
def encV (x : List B8) : List B8 := enc x.length ++ x
def vec1 (b : List B8) : List B8 × Nat × Nat :=
  let r := int1 b
  if r.2.2 = 0 then (if 65536 < r.1 then ([], 0, 2) else if b.length - r.2.1 < r.1 then ([], 0, 20) else ((b.drop r.2.1).take r.1, r.2.1 + r.1, 0)) else ([], 0, r.2.2)
theorem vec1_enc (x rest : List B8) (h : x.length ≤ 65536) : vec1 (encV x ++ rest) = (x, (encV x).length, 0) := by
  unfold vec1 encV
  rw [List.append_assoc, int1_enc _ _ (by omega)]
  simp only [if_pos, List.drop_left, List.take_left, List.length_append]
  rw [if_neg (by omega), if_neg (by omega)]
theorem vec1_cut (x : List B8) (j : Nat) (h : x.length ≤ 65536) (hj : j < (encV x).length) : vec1 ((encV x).take j) = ([], 0, 20) := by
  unfold vec1 encV at *
  by_cases hc : j < (enc x.length).length
  · rw [List.take_append_of_le_length (by omega), int1_cut (by omega) hc]
    simp
  · have e : (enc x.length ++ x).take j = enc x.length ++ x.take (j - (enc x.length).length) := by
      rw [List.take_append, List.take_of_length_le (by omega)]
    rw [e, int1_enc _ _ (by omega)]
    rw [List.length_append] at hj
    simp only [if_pos, List.length_append, List.length_take]
    rw [if_neg (by omega), if_pos (by omega)]
theorem vec1_one {b v : List B8} {k : Nat} (h : vec1 b = (v, k, 0)) : encV v = b.take k ∧ k ≤ b.length ∧ v.length ≤ 65536 ∧ 1 ≤ k := by
  unfold vec1 at h
  rcases hr : int1 b with ⟨n, k1, e⟩
  rw [hr] at h
  by_cases he : e = 0
  · subst he
    simp only [if_pos] at h
    split at h
    · simp at h
    · split at h
      · simp at h
      · rename_i h1 h2
        simp only [Prod.mk.injEq, and_true] at h
        obtain ⟨rfl, rfl⟩ := h
        obtain ⟨t1, t2, t3, t4, t5, -⟩ := take1_one (int1_one hr).1
        have hlen : ((b.drop k1).take n).length = n := by rw [List.length_take, List.length_drop]; omega
        refine ⟨?_, by omega, by omega, by omega⟩
        unfold encV
        rw [hlen, t4, ← List.take_append_drop k1 (b.take (k1 + n))]
        congr 1
        · rw [List.take_take]; congr 1; omega
        · rw [List.drop_take]; congr 1; omega
  · simp [he] at h
theorem vec1_bad {b v : List B8} {k e : Nat} (h : vec1 b = (v, k, e)) (he : e ≠ 0) : v = [] ∧ k = 0 ∧ (e = 2 ∨ e = 20 ∨ e = 21) := by
  unfold vec1 at h
  rcases hr : int1 b with ⟨n, k1, e1⟩
  rw [hr] at h
  by_cases he1 : e1 = 0
  · subst he1
    simp only [if_pos] at h
    split at h
    · simp at h; obtain ⟨rfl, rfl, rfl⟩ := h; simp
    · split at h
      · simp at h; obtain ⟨rfl, rfl, rfl⟩ := h; simp
      · simp at h; omega
  · simp only [if_neg he1, Prod.mk.injEq] at h
    obtain ⟨rfl, rfl, rfl⟩ := h
    have := (int1_bad hr he1).2.2
    exact ⟨rfl, rfl, by omega⟩
end Wire
end Go.Proofs.YtmflngclncidjaaGreat
/-
  PLAIN FACTS of the tape: what is written of events is read back, one behind the other; of a tape that was cut, the events that are whole. (No program is named here.)
-/
namespace Go.Proofs.YtmflngclncidjaaGreat
namespace Coo
open Lea (Lv Tv)
open Spa (Sp)
open Wire (B8 enc encs ints)
def nats (e : Ev) : List Nat := [e.d.toNat, e.host.toNat, e.zone.toNat, e.epoch.toNat, e.fr.toNat, e.to.toNat, e.now.toNat, e.key.toNat]
/-- What may be written: no number is below 0. -/
def wroteB (e : Ev) : Bool := [e.d, e.host, e.zone, e.epoch, e.fr, e.to, e.now, e.key].all (fun n => decide (0 ≤ n))
/-- The machine's ints. -/
def Ints (e : Ev) : Prop := ∀ n ∈ [e.d, e.host, e.zone, e.epoch, e.fr, e.to, e.now, e.key], n < 9223372036854775808
def evOf : List Nat → Ev
  | [a, b, c, d, f, g, h, i] => ⟨a, b, c, d, f, g, h, i⟩
  | _ => ⟨0, 0, 0, 0, 0, 0, 0, 0⟩
theorem evOf_nats {e : Ev} (h : wroteB e = true) : evOf (nats e) = e := by
  unfold wroteB at h
  simp only [List.all_cons, List.all_nil, Bool.and_true, Bool.and_eq_true, decide_eq_true_eq] at h
  obtain ⟨h1, h2, h3, h4, h5, h6, h7, h8⟩ := h
  obtain ⟨a, b, c, d, f, g, i, k⟩ := e
  dsimp only at h1 h2 h3 h4 h5 h6 h7 h8
  show (⟨(a.toNat : Int), (b.toNat : Int), (c.toNat : Int), (d.toNat : Int), (f.toNat : Int), (g.toNat : Int), (i.toNat : Int), (k.toNat : Int)⟩ : Ev) = _
  rw [Int.toNat_of_nonneg h1, Int.toNat_of_nonneg h2, Int.toNat_of_nonneg h3, Int.toNat_of_nonneg h4, Int.toNat_of_nonneg h5, Int.toNat_of_nonneg h6, Int.toNat_of_nonneg h7, Int.toNat_of_nonneg h8]
theorem nats_lt {e : Ev} (h : Ints e) : ∀ n ∈ nats e, n < 9223372036854775808 := by
  intro n hn
  unfold nats at hn
  unfold Ints at h
  simp only [List.mem_cons, List.not_mem_nil, or_false, forall_eq_or_imp, forall_eq] at hn h
  obtain ⟨h1, h2, h3, h4, h5, h6, h7, h8⟩ := h
  rcases hn with rfl | rfl | rfl | rfl | rfl | rfl | rfl | rfl <;> omega
def bytesE (e : Ev) : List B8 := encs (nats e)
def tapeE (l : List Ev) : List B8 := l.flatMap bytesE
theorem tape_cons (e : Ev) (l : List Ev) : tapeE (e :: l) = bytesE e ++ tapeE l := by simp [tapeE]
theorem tape_app (l r : List Ev) : tapeE (l ++ r) = tapeE l ++ tapeE r := by simp [tapeE]
theorem bytes_pos (e : Ev) : 8 ≤ (bytesE e).length := Wire.encs_len_ge (nats e)
theorem bytes_len {e : Ev} (h : Ints e) : (bytesE e).length ≤ 80 := Wire.encs_len (l := nats e) fun n hn => by have := nats_lt h n hn; omega
theorem tape_len {l : List Ev} (h : ∀ e ∈ l, Ints e) : (tapeE l).length ≤ 80 * l.length := by
  induction l with
  | nil => simp [tapeE]
  | cons e r ih =>
    rw [tape_cons, List.length_append, List.length_cons]
    have h1 := bytes_len (h e (by simp))
    have h2 := ih fun x hx => h x (by simp [hx])
    omega
theorem one_read {e : Ev} (h : Ints e) (rest : List B8) : ints 8 (bytesE e ++ rest) = (nats e, (bytesE e).length, 0) := Wire.ints_encs rest (nats e) (nats_lt h)
theorem cut_read {e : Ev} (h : Ints e) {j : Nat} (hj : j < (bytesE e).length) : ints 8 ((bytesE e).take j) = ([], 0, 20) := Wire.ints_cut (nats e) j (nats_lt h) hj
theorem none_read : ints 8 [] = ([], 0, 20) := by
  have h := cut_read (e := ⟨0, 0, 0, 0, 0, 0, 0, 0⟩) (by intro n hn; simp at hn; omega) (j := 0) (by have := bytes_pos ⟨0, 0, 0, 0, 0, 0, 0, 0⟩; omega)
  rwa [List.take_zero] at h
/-- What the calls that are written do: so many rounds at most. -/
def repF : Nat → Cv → List B8 → Cv × Nat
  | 0, c, _ => (c, 0)
  | f + 1, c, b => if (ints 8 b).2.2 = 0 then ((repF f (doC c (evOf (ints 8 b).1)).1 (b.drop (ints 8 b).2.1)).1, (repF f (doC c (evOf (ints 8 b).1)).1 (b.drop (ints 8 b).2.1)).2 + 1) else (c, 0)
theorem rep_tape (l : List Ev) {rest : List B8} (hr : (ints 8 rest).2.2 ≠ 0) : ∀ (f : Nat) (c : Cv), l.length < f → (∀ e ∈ l, wroteB e = true ∧ Ints e) → repF f c (tapeE l ++ rest) = ((allC c l).1, l.length) := by
  induction l with
  | nil =>
    intro f c hf _
    match f, hf with
    | f + 1, _ =>
      show repF (f + 1) c ([] ++ rest) = (c, 0)
      rw [List.nil_append, repF, if_neg hr]
  | cons e r ih =>
    intro f c hf h
    match f, hf with
    | f + 1, hf =>
      have he := h e (by simp)
      rw [tape_cons, List.append_assoc, repF, one_read he.2]
      simp only [if_pos, List.drop_left]
      rw [evOf_nats he.1, ih f _ (by rw [List.length_cons] at hf; omega) fun x hx => h x (by simp [hx])]
      rfl
/-- Where the k-th event ends. -/
def endE (l : List Ev) (k : Nat) : Nat := (tapeE (l.take k)).length
theorem end_next {l : List Ev} {k : Nat} {e : Ev} (h : l[k]? = some e) : endE l (k + 1) = endE l k + (bytesE e).length := by
  unfold endE
  rw [List.take_add_one, h, tape_app, List.length_append]
  simp [tapeE]
theorem tape_cut {l : List Ev} (hi : ∀ e ∈ l, Ints e) {cut k : Nat} (hk : k ≤ l.length) (h1 : endE l k ≤ cut) (h2 : k < l.length → cut < endE l (k + 1)) (hc : cut ≤ (tapeE l).length) :
    ∃ rest, (tapeE l).take cut = tapeE (l.take k) ++ rest ∧ (ints 8 rest).2.2 ≠ 0 := by
  have hs : tapeE l = tapeE (l.take k) ++ tapeE (l.drop k) := by rw [← tape_app, List.take_append_drop]
  have hl : endE l k = (tapeE (l.take k)).length := rfl
  by_cases hlt : k < l.length
  · obtain ⟨e, he⟩ : ∃ e, l[k]? = some e := ⟨_, List.getElem?_eq_getElem hlt⟩
    have h3 := end_next he
    have h4 := h2 hlt
    have hd : l.drop k = e :: l.drop (k + 1) := by
      obtain ⟨h5, rfl⟩ := List.getElem?_eq_some_iff.1 he
      rw [← List.drop_eq_getElem_cons]
    refine ⟨(bytesE e).take (cut - endE l k), ?_, ?_⟩
    · rw [hs, hd, tape_cons, List.take_append, List.take_of_length_le (by omega), ← hl, List.take_append, show (cut - endE l k) - (bytesE e).length = 0 by omega, List.take_zero, List.append_nil]
    · rw [cut_read (hi e (List.mem_of_getElem? he)) (by omega)]
      show (20 : Nat) ≠ 0
      omega
  · have hkl : l.take k = l := List.take_of_length_le (by omega)
    rw [hkl] at hl ⊢
    refine ⟨[], ?_, by rw [none_read]; show (20 : Nat) ≠ 0; omega⟩
    rw [List.append_nil, List.take_of_length_le (by omega)]
/-- Replayed whole; replayed as far as it was left. -/
theorem rep_whole {l : List Ev} (h : ∀ e ∈ l, wroteB e = true ∧ Ints e) {f : Nat} (hf : l.length < f) (c : Cv) : repF f c (tapeE l) = ((allC c l).1, l.length) := by
  have := rep_tape l (rest := []) (by rw [none_read]; show (20 : Nat) ≠ 0; omega) f c hf h
  rwa [List.append_nil] at this
theorem rep_cut {l : List Ev} (h : ∀ e ∈ l, wroteB e = true ∧ Ints e) {cut k f : Nat} (hk : k ≤ l.length) (h1 : endE l k ≤ cut) (h2 : k < l.length → cut < endE l (k + 1)) (hc : cut ≤ (tapeE l).length) (hf : k < f) (c : Cv) :
    repF f c ((tapeE l).take cut) = ((allC c (l.take k)).1, k) := by
  obtain ⟨rest, h3, h4⟩ := tape_cut (fun e he => (h e he).2) hk h1 h2 hc
  rw [h3, rep_tape (l.take k) h4 f c (by rw [List.length_take]; omega) fun e he => h e (List.mem_of_mem_take he), List.length_take, Nat.min_eq_left hk]
end Coo
end Go.Proofs.YtmflngclncidjaaGreat
/-
  wire: HOW NUMBERS ARE WRITTEN (put, Put, Nums, Vec) AND MEASURED (length).
-/
namespace Go.Proofs.YtmflngclncidjaaGreat
open Go.RowKit Mem
namespace Wire

/-- The byte at the beginning of a longer number. -/
theorem or128 (n : Nat) : bits .or .u8 ((n : Int) % 256) 128 = u (BitVec.ofNat 8 (n % 128 + 128)) := by
  have h := u8_or_nat (n % 256) 128 (by omega) (by omega)
  have e : (((n % 256 : Nat) : Int)) = (n : Int) % 256 := by omega
  rw [e] at h
  have h : bits .or .u8 ((n : Int) % 256) 128 = ((n % 256 ||| 128 : Nat) : Int) := h
  rw [h]
  have h2 : n % 256 ||| 128 = n % 128 + 128 := by
    by_cases h3 : n % 256 < 128
    · have := nat_join 7 128 (n % 256) (by decide) (by simpa using h3)
      rw [Nat.or_comm, this]; omega
    · have h4 : n % 256 = 128 + n % 128 := by omega
      have := nat_join 7 128 (n % 128) (by decide) (by have : n % 128 < 128 := Nat.mod_lt _ (by omega); simpa using this)
      rw [h4, ← this, Nat.or_comm, ← Nat.or_assoc, Nat.or_self, this]; omega
  rw [h2]
  unfold u
  rw [BitVec.toNat_ofNat]
  omega
theorem low256 (n : Nat) (h : n < 256) : (n : Int) = u (BitVec.ofNat 8 n) := by
  unfold u
  rw [BitVec.toNat_ofNat]
  omega

/-- What a call gave: a row of the call's own. -/
def Gave {α : Type} (f : α → Value) (e : TypeId) (base : Nat) (w : World) (l : List α) (en : Ending) (w' : World) : Prop :=
  ∃ A k c, en = .returned (.slice A k c) ∧ Owns f e base w' (.slice A k c) k l ∧ Below base w w'

/-- A one-cell row that was just built. -/
theorem row_one {α : Type} (f : α → Value) (w : World) (x : α) (t : TypeId) (v : Value) (hv : v = f x) : Row f (w.alloc (.cells #[v] t)) (some ⟨w.heap.size, 0, none⟩) 1 1 [x] := by
  subst hv
  refine ⟨rfl, by omega, by omega, fun _ => ⟨_, _, rfl, by simp, fun i y hi => ?_⟩⟩
  have : i = 0 := by
    rcases i with _ | i
    · rfl
    · simp at hi
  subst this
  obtain rfl : x = y := by simpa using hi
  have h := heap_alloc_new w (.cells #[f x] t)
  simp only [World.cell?, h]
  rfl

set_option maxRecDepth 100000 in
set_option maxHeartbeats 800000 in
theorem put_any (base n : Nat) (hn : n < 18446744073709551616) (A : Option Addr) (k c : Nat) (l : List B8) (w : World) (hs : Owns cb 5 base w (.slice A k c) k l) (hb : base ≤ w.heap.size) (hk : k ≤ 140737488351000) :
    Calls Tryz.prog 39 #[.slice A k c, .int .u64 n] w (Gave cb 5 base w (l ++ enc n)) := by
  have h10 := enc_len_le hn
  have HS := Lib.hid hs
  have hK : Hid (k + (enc n).length ≤ 140737488351100) := by show _ ≤ _; omega
  clear hs hk h10
  have HN := Lib.hid hn
  clear hn
  go_enter Tryz.func39, Tryz.ntmps39
  go_wp2
  go_loopw [0, 1] (fun s i wr => ∃ (B : Option Addr) (j d m : Nat) (r : List B8), s = .slice B j d ∧ i = .int .u64 m ∧ Hid (m < 18446744073709551616) ∧ Hid (Owns cb 5 base wr (.slice B j d) j r ∧ Below base w wr ∧ r ++ enc m = l ++ enc n ∧ j + (enc m).length = k + (enc n).length)) (fun _ i _ => (intOf i).toNat)
  case atStart => exact ⟨A, k, c, n, l, rfl, rfl, HN, HS.out, Below.refl _ _, rfl, rfl⟩
  case round =>
    obtain ⟨B, j, d, m, r, rfl, rfl, hm, hO⟩ := hrel
    have hO' := hO.out.1
    have hj : Hid (j + (enc m).length ≤ 140737488351100) := by have := hO.out.2.2.2; have := hK.out; show _ ≤ _; omega
    have e1 := enc_pos m
    have hj1 : j + 1 ≤ 140737488351232 := by have := hj.out; omega
    have HO := Lib.hid hO'
    have HB := Lib.hid (Nat.le_trans hb hO.out.2.1.size)
    clear hO' e1
    by_cases hlt : m < 128
    · have E := Lib.hid (low256 m (by omega))
      have X := Lib.hid (enc_lt hlt)
      go_wp2_with (at_builtin
                   refine wpList_append_row cb_one Tryz.underlying53 info_byte rfl rfl (.tmp 15) (.tmp 18) rfl rfl base (.slice B j d) j r rfl (HO.out.alloc _) _ 1 1 [BitVec.ofNat 8 m] rfl (row_one cb wr _ _ _ (congrArg (Value.int .u8) E.out)) (by omega) (by omega) (by have := HB.out; simp; omega) ?_
                   intro A' c' w' hown' hb')
      go_ret
      refine ⟨_, _, _, rfl, ?_, ?_⟩
      · rw [← hO.out.2.2.1, X.out]; exact hown'
      · exact hO.out.2.1.trans (((Below.refl base wr).alloc HB.out _).trans hb')
    · have E := Lib.hid (or128 m)
      have X := Lib.hid (enc_ge (n := m) (by omega))
      go_wp2_with (at_builtin
                   refine wpList_append_row cb_one Tryz.underlying53 info_byte rfl rfl (.tmp 9) (.tmp 13) rfl rfl base (.slice B j d) j r rfl (HO.out.alloc _) _ 1 1 [BitVec.ofNat 8 (m % 128 + 128)] rfl (row_one cb wr _ _ _ (congrArg (Value.int .u8) E.out)) (by omega) (by omega) (by have := HB.out; simp; omega) ?_
                   intro A' c' w' hown' hb'
                   have HW := Lib.hid hown'
                   have HB' := Lib.hid hb'
                   clear hown' hb')
      go_roundw
      case rel =>
        refine ⟨A', j + 1, c', m / 128, r ++ [BitVec.ofNat 8 (m % 128 + 128)], rfl, ?_, ?_, HW.out, ?_, ?_, ?_⟩
        · first | rfl | go_num
        · have := hm.out; show _ < _; omega
        · exact hO.out.2.1.trans (((Below.refl base wr).alloc HB.out _).trans HB'.out)
        · rw [List.append_assoc, ← hO.out.2.2.1, X.out]; rfl
        · rw [← hO.out.2.2.2, X.out]; simp; omega
      case measure => simp [intOf]; omega


theorem scan_at (l : List B8) (i : Nat) (x : B8) (h : l[i]? = some x) : scan i (l.drop i) = if (i = 9 ∧ 1 < x.toNat) ∨ (0 < i ∧ x.toNat = 0) then (0, 21) else if x.toNat < 128 then (i + 1, 0) else scan (i + 1) (l.drop (i + 1)) := by
  obtain ⟨hi, hx⟩ := List.getElem?_eq_some_iff.1 h
  rw [List.drop_eq_getElem_cons hi, hx, scan]

theorem leaf1 {l : List B8} {i : Nat} {x : B8} {r : Nat × Nat} (h : scan i (l.drop i) = if (i = 9 ∧ 1 < x.toNat) ∨ (0 < i ∧ x.toNat = 0) then (0, 21) else if x.toNat < 128 then (i + 1, 0) else scan (i + 1) (l.drop (i + 1))) (hr : scan i (l.drop i) = r)
    (hc : (i = 9 ∧ 1 < x.toNat) ∨ (0 < i ∧ x.toNat = 0)) : r = (0, 21) := by rw [← hr, h, if_pos hc]
theorem leaf2 {l : List B8} {i : Nat} {x : B8} {r : Nat × Nat} (h : scan i (l.drop i) = if (i = 9 ∧ 1 < x.toNat) ∨ (0 < i ∧ x.toNat = 0) then (0, 21) else if x.toNat < 128 then (i + 1, 0) else scan (i + 1) (l.drop (i + 1))) (hr : scan i (l.drop i) = r)
    (hc : ¬ ((i = 9 ∧ 1 < x.toNat) ∨ (0 < i ∧ x.toNat = 0))) (hx : x.toNat < 128) : r = (i + 1, 0) := by rw [← hr, h, if_neg hc, if_pos hx]
theorem leaf3 {l : List B8} {i : Nat} {x : B8} {r : Nat × Nat} (h : scan i (l.drop i) = if (i = 9 ∧ 1 < x.toNat) ∨ (0 < i ∧ x.toNat = 0) then (0, 21) else if x.toNat < 128 then (i + 1, 0) else scan (i + 1) (l.drop (i + 1))) (hr : scan i (l.drop i) = r)
    (hc : ¬ ((i = 9 ∧ 1 < x.toNat) ∨ (0 < i ∧ x.toNat = 0))) (hx : ¬ x.toNat < 128) : scan (i + 1) (l.drop (i + 1)) = r := by rw [← hr, h, if_neg hc, if_neg hx]
/-- What length tells. -/
def Told (l : List B8) (w : World) (e : Ending) (w' : World) : Prop := e = .returned (.tuple #[.int .i64 ((scan 0 l).1 : Int), .int .i64 ((scan 0 l).2 : Int)]) ∧ w = w'
theorem told_of {l : List B8} {w : World} {a b : Nat} {x y : Int} (h : scan 0 l = (a, b)) (hx : x = a) (hy : y = b) : Told l w (.returned (.tuple #[.int .i64 x, .int .i64 y])) w := by
  unfold Told; rw [h, hx, hy]; exact ⟨rfl, rfl⟩


set_option maxRecDepth 100000 in
set_option maxHeartbeats 800000 in
theorem length_any (A : Option Addr) (n c : Nat) (l : List B8) (w : World) (h : Row cb w A n c l) :
    Calls Tryz.prog 101 #[.slice A n c] w (Told l w) := by
  have HR := Lib.hid h
  have hn := h.big
  clear h
  go_enter Tryz.func101, Tryz.ntmps101
  go_wp2
  go_loop [8] (fun i => ∃ k : Nat, k ≤ n ∧ i = .int .i64 k ∧ Hid (scan k (l.drop k) = scan 0 l)) (fun i => n - (intOf i).toNat)
  case atStart => exact ⟨0, by omega, rfl, rfl⟩
  case round =>
    obtain ⟨k, hk, rfl, hS⟩ := hrel
    by_cases hlt : k < n
    · obtain ⟨x, hx⟩ := HR.out.get hlt
      obtain ⟨b, o, rfl, hcell⟩ := HR.out.cell hx
      have S := Lib.hid (scan_at l k x hx)
      clear hx
      have hx0 := u_nonneg x
      have hx1 := u_lt x
      have hcell' : w.cell? ⟨b, o + k, none⟩ = some (.int .u8 (u x)) := hcell
      have U : Hid (u x = (x.toNat : Int)) := rfl
      clear hcell
      go_wp2
      all_goals first
        | (go_ret2
           have hU := U.out
           (try have hz := eq_of_beq (by assumption : (u x == 0) = true))
           (try have hz := ne_of_beq_false (by assumption : (u x == 0) = false))
           first
             | exact told_of (leaf1 S.out hS.out (by omega)) (by omega) (by omega)
             | exact told_of (leaf2 S.out hS.out (by omega) (by omega)) (by omega) (by omega))
        | (go_round
           case rel =>
             have hU := U.out
             (try have hz := ne_of_beq_false (by assumption : (u x == 0) = false))
             exact ⟨k + 1, by omega, by go_num, leaf3 S.out hS.out (by omega) (by omega)⟩
           case measure => simp [intOf]; omega)
    · have hE : Hid (scan 0 l = (0, 20)) := by
        have e : l.drop k = [] := List.drop_of_length_le (by have := HR.out.len; omega)
        show _ = _
        rw [← hS.out, e]; rfl
      go_wp2
      go_ret2
      exact told_of hE.out rfl rfl
end Wire
end Go.Proofs.YtmflngclncidjaaGreat
/-
  slices.Backward OVER BYTES: what it hands out, to a loop that writes into one block of its own.
-/
namespace Go.Proofs.YtmflngclncidjaaGreat
open Go.RowKit Go.Shelf Mem
attribute [local go_sem] Oper.semAt_some
namespace Wire

/-- All blocks below N but g lie as they lay. -/
structure Kept (N g : Nat) (W W' : World) : Prop where
  size : W.heap.size ≤ W'.heap.size
  block : ∀ k, k < N → k ≠ g → W'.heap[k]? = W.heap[k]?
theorem Kept.refl (N g : Nat) (W : World) : Kept N g W W := ⟨Nat.le_refl _, fun _ _ _ => rfl⟩
theorem Kept.trans {N g : Nat} {A B C : World} (h : Kept N g A B) (k : Kept N g B C) : Kept N g A C := ⟨Nat.le_trans h.size k.size, fun i h1 h2 => (k.block i h1 h2).trans (h.block i h1 h2)⟩
theorem Kept.of_below {N g : Nat} {W W' : World} (h : Below N W W') : Kept N g W W' := ⟨h.size, fun k hk _ => h.block k hk⟩
theorem Kept.setCell {N g : Nat} (W : World) (o : Nat) (v : Value) : Kept N g W (W.setCell ⟨g, o, none⟩ v) := ⟨by simp [World.setCell], fun k _ hg => Below.heap_setCell _ _ _ _ hg⟩
theorem kept_b {N g : Nat} {w : World} (hN : N ≤ w.heap.size) (W : World) (l : Nat) (o o' : Obj) (hl : w.heap.size ≤ l) (h : W.heap[l]? = some o) (hc : o.isCells = false) (hw : o.isWalk = false) : Kept N g W (W.putObj l o') :=
  Kept.of_below (belowK_b hN W l o o' hl h hc hw)
theorem Kept.cell {N g : Nat} {W W' : World} (h : Kept N g W W') {p : Addr} (hp : p.block < N) (hg : p.block ≠ g) : W'.cell? p = W.cell? p := World.cell?_of_block (h.block _ hp hg)

set_option maxRecDepth 100000 in
set_option maxHeartbeats 2000000 in
theorem back1_in (F : Fence) (n : Nat) (hF : F.fn 111) (hro : F.round = none) (hn : 1 ≤ n) (l Bs N g : Nat) (hBs : Bs < N) (hBg : Bs ≠ g) (b off len cap : Nat) (hb : b < N) (hbg : b ≠ g)
    (xs : List (BitVec 8)) (hlen : xs.length = len) (hbig : len ≤ 140737488351232) (J Jx : List (Nat × BitVec 8) → World → Prop)
    (hY : ∀ pre x W, J pre W → pre.length < len → YieldAt F (n - 1) Tryz.prog l #[.int .i64 (x.1 : Int), .int .u8 (u x.2)] W fun e W' =>
      (e = .returned (.bool true) ∧ J (pre ++ [x]) W' ∧ Kept N g W W') ∨ (e = .returned (.bool false) ∧ Jx (pre ++ [x]) W'))
    (W : World) (hc0 : W.cell? ⟨Bs, 0, none⟩ = some (.slice (some ⟨b, off, none⟩) len cap)) (hc : ∀ j x, xs[j]? = some x → W.cell? ⟨b, off + j, none⟩ = some (.int .u8 (u x))) (h0 : J [] W) :
    CallsIn F n Tryz.prog 111 #[.func (.yield l) #[] #[], .pointer (some ⟨Bs, 0, none⟩)] W fun e W' => (∃ v, e = .returned v) ∧
      ((∃ ys, ys.map (·.2) = xs.reverse ∧ J ys W') ∨ (∃ pre, True ∧ Jx pre W')) := by
  refine callsIn_of_wp Tryz.func111 rfl hF ?_ hro
  simp only [Tryz.ntmps111, List.size_toArray, List.length_cons, List.length_nil, Nat.reduceAdd, Nat.reduceSub, Array.replicate_succ, Array.replicate_zero, List.push_toArray, List.append_toArray, List.nil_append, List.cons_append]
  have HL := Lib.hid hlen
  clear hlen
  gi_wp2
  gi_loopw [3] (fun i wr => ∃ (m : Nat) (z : Int), m ≤ len ∧ i = .int .i64 z ∧ Hid (z = (m : Int) - 1 ∧ (∃ pre : List (Nat × BitVec 8), pre.map (·.2) = (xs.drop m).reverse ∧ pre.length = len - m ∧ J pre wr) ∧ Kept N g W wr))
    (fun i _ => (intOf i + 1).toNat)
  case atStart => exact ⟨len, _, Nat.le_refl _, rfl, rfl, ⟨[], by rw [List.drop_of_length_le (by have := HL.out; omega)]; rfl, by simp, h0⟩, Kept.refl _ _ _⟩
  case round =>
    obtain ⟨m, z, hm, rfl, hH⟩ := hrel
    cases m with
    | zero =>
      obtain rfl : z = -1 := by have := hH.out.1; omega
      gi_wp2
      go_end0
      obtain ⟨-, ⟨pre, hp, -, hJ⟩, -⟩ := hH.out
      exact ⟨⟨_, rfl⟩, .inl ⟨pre, by simpa using hp, hJ⟩⟩
    | succ p =>
      obtain rfl : z = (p : Int) := by have := hH.out.1; omega
      obtain ⟨-, ⟨pre, hp, hpl, hJ⟩, hK⟩ := hH.out
      have HP := Lib.hid hp
      have HPL := Lib.hid hpl
      have hk : p < xs.length := by have := HL.out; omega
      obtain ⟨x, hx⟩ : ∃ x, xs[p]? = some x := ⟨_, List.getElem?_eq_getElem hk⟩
      have HX := Lib.hid hx
      have hcB := (hK.cell (p := ⟨Bs, 0, none⟩) hBs hBg).trans hc0
      have hcx := (hK.cell (p := ⟨b, off + p, none⟩) hb hbg).trans (hc p x hx)
      obtain ⟨fn, tmps, assign, body, hy, hR⟩ := hY pre (p, x) wr hJ (by omega)
      dsimp only at hy
      have HK := Lib.hid hK
      clear hp hpl hx hk hH hK
      gi_wp2
      refine hR.mono ?_
      rintro e W3 (⟨rfl, hJ3, hk3⟩ | ⟨rfl, hJx3⟩)
      · gi_wp2
        go_roundw
        case rel =>
          refine ⟨p, _, by omega, rfl, by omega, ⟨pre ++ [(p, x)], ?_, ?_, hJ3⟩, HK.out.trans hk3⟩
          · obtain ⟨h1, h2⟩ := List.getElem?_eq_some_iff.1 HX.out
            rw [List.map_append, HP.out, List.drop_eq_getElem_cons h1, List.reverse_cons, h2]; rfl
          · have := HPL.out; simp; omega
        case measure => simp [intOf]
      · gi_wp2
        refine bodyPost_ret (results_none rfl _ _ _) rfl ?_
        exact ⟨⟨_, rfl⟩, .inr ⟨_, trivial, hJx3⟩⟩

set_option maxHeartbeats 1000000 in
theorem back_in (F : Fence) (n : Nat) (hF : F.fn 102) (hro : F.round = none) (a : Option Addr) (len cap : Nat) (w : World) :
    CallsIn F n Tryz.prog 102 #[.slice a len cap] w fun e w' => e = .returned (.func (.func 111) #[] #[.pointer (some ⟨w.heap.size, 0, none⟩)]) ∧ w' = w.alloc (.cells #[.slice a len cap] 53) := by
  refine callsIn_of_wp Tryz.func102 rfl hF ?_ hro
  simp only [Tryz.ntmps102, List.size_toArray, List.length_cons, List.length_nil, Nat.reduceAdd, Nat.reduceSub, Array.replicate_succ, Array.replicate_zero, List.push_toArray, List.append_toArray, List.nil_append, List.cons_append]
  gi_wp2
  go_ret
  exact ⟨rfl, rfl⟩

/-- Backward's closure as the law of loops wants it. -/
theorem back_stops (F : Fence) (n : Nat) (hF : F.fn 111) (hro : F.round = none) (hn : 1 ≤ n) (Bs N g : Nat) (hBs : Bs < N) (hBg : Bs ≠ g) (b off len cap : Nat) (hb : b < N) (hbg : b ≠ g)
    (xs : List (BitVec 8)) (hlen : xs.length = len) (hbig : len ≤ 140737488351232) (w : World) (hN : N ≤ w.heap.size) (hc0 : w.cell? ⟨Bs, 0, none⟩ = some (.slice (some ⟨b, off, none⟩) len cap)) (hc : ∀ j x, xs[j]? = some x → w.cell? ⟨b, off + j, none⟩ = some (.int .u8 (u x))) :
    SeqStopsK F n Tryz.prog 111 #[.pointer (some ⟨Bs, 0, none⟩)] (fun x : Nat × BitVec 8 => #[Value.int .i64 (x.1 : Int), Value.int .u8 (u x.2)]) (Kept N g) (fun ys => ys.map (·.2) = xs.reverse)
      (fun _ => True) len w := fun l J Jx W hW _ _ hY h0 => by
  have h1 := (hW.cell (p := ⟨Bs, 0, none⟩) (by simp; omega)).trans hc0
  exact back1_in F n hF hro hn l Bs N g hBs hBg b off len cap hb hbg xs hlen hbig J Jx hY W h1 (fun j x hx => (hW.cell (p := ⟨b, off + j, none⟩) (by simp; omega)).trans (hc j x hx)) h0
end Wire
end Go.Proofs.YtmflngclncidjaaGreat
/-
  wire: Take, takeInt, AND TakeFixed: HOW NUMBERS ARE READ.
-/
namespace Go.Proofs.YtmflngclncidjaaGreat
open Go.RowKit Go.Shelf Mem
attribute [local go_sem] Oper.semAt_some
namespace Wire

/-- What has come so far, as the program reckons it. -/
def accW (pre : List B8) : Nat := (pre.foldl (fun a x => a * 128 + x.toNat % 128) 0) % 18446744073709551616
theorem accW_snoc (pre : List B8) (x : B8) : accW (pre ++ [x]) = (accW pre * 128 + x.toNat % 128) % 18446744073709551616 := by
  unfold accW
  rw [List.foldl_append]
  simp only [List.foldl_cons, List.foldl_nil]
  omega
theorem accW_lt (pre : List B8) : accW pre < 18446744073709551616 := Nat.mod_lt _ (by omega)
theorem fold_dec : ∀ (l : List B8), l.reverse.foldl (fun a x => a * 128 + x.toNat % 128) 0 = dec l := by
  intro l
  induction l with
  | nil => rfl
  | cons x l ih => rw [List.reverse_cons, List.foldl_append, ih]; simp only [List.foldl_cons, List.foldl_nil, dec]; omega
theorem accW_rev (l : List B8) (h : dec l < 18446744073709551616) : accW l.reverse = dec l := by
  unfold accW; rw [fold_dec]; omega
/-- One step of it. -/
theorem or_step (a : Nat) (x : B8) : bits .or .u64 (IntKind.u64.wrap ((a : Int) * 128)) (IntKind.u64.wrap (bits .andNot .u8 (u x) 128)) = (((a * 128 + x.toNat % 128) % 18446744073709551616 : Nat) : Int) := by
  have hx := x.isLt
  have h1 := u8_andNot_nat x.toNat 128 (by omega) (by omega)
  have e1 : bits .andNot .u8 (u x) 128 = ((x.toNat &&& 127 : Nat) : Int) := h1
  have hw : ∀ n : Int, IntKind.u64.wrap n = n % 18446744073709551616 := fun n => by simp [IntKind.wrap, IntKind.bits, IntKind.signed]
  rw [e1, nat_mask7, hw, hw]
  have e2 : (a : Int) * 128 % 18446744073709551616 = ((a * 128 % 18446744073709551616 : Nat) : Int) := by omega
  have e3 : ((x.toNat % 128 : Nat) : Int) % 18446744073709551616 = ((x.toNat % 128 : Nat) : Int) := by omega
  rw [e2, e3, u64_or_nat _ _ (by omega) (by omega)]
  have := nat_join 7 (a * 128 % 18446744073709551616) (x.toNat % 128) (by omega) (by omega)
  rw [this]
  omega

/-- What Take tells. -/
def Took (l : List B8) (w : World) (e : Ending) (w' : World) : Prop := e = .returned (.tuple #[.int .u64 ((take1 l).1 : Int), .int .i64 ((take1 l).2.1 : Int), .int .i64 ((take1 l).2.2 : Int)]) ∧ Below w.heap.size w w'

set_option maxRecDepth 100000 in
set_option maxHeartbeats 2000000 in
theorem take_in (F : Fence) (n : Nat) (hw : F = Fence.wide) (hn : 3 ≤ n) (A : Option Addr) (len cap : Nat) (l : List B8) (w : World) (h : Row cb w A len cap l) :
    CallsIn F n Tryz.prog 76 #[.slice A len cap] w (Took l w) := by
  subst hw
  have h1 : 1 ≤ n := by omega
  refine callsIn_of_wp_marks Tryz.func76 rfl trivial ?_ rfl
  simp only [Tryz.ntmps76, List.size_toArray, List.length_cons, List.length_nil, Nat.reduceAdd, Nat.reduceSub, Array.replicate_succ, Array.replicate_zero, List.push_toArray, List.append_toArray, List.nil_append, List.cons_append]
  have HR := Lib.hid h
  clear h
  rcases hs : scan 0 l with ⟨k, e⟩
  have HS := Lib.hid hs
  clear hs
  by_cases he : e = 0
  · subst he
    have hT := Lib.hid (scan_one l 0 k (by omega) HS.out)
    have HTK : Hid (take1 l = (dec (l.take k), k, 0)) := by show _ = _; unfold take1; rw [HS.out]; rfl
    have HD : Hid (dec (l.take k) < 18446744073709551616) := by have := (take1_one HTK.out).2.2.2.2.1; exact this
    have hk0 : 0 < k := by obtain ⟨j, hj, -⟩ := hT.out; omega
    have hkn : k ≤ len := by obtain ⟨j, hj, hl, -⟩ := hT.out; have := HR.out.len; omega
    have hbig := HR.out.big
    have hcap := HR.out.cap
    have hslice := run_head A len cap k (by omega)
    gi_wp2_with (first
      | (refine ⟨trivial, ?_⟩; gi_at_call 101; refine (callsIn_wide.2 (length_any _ _ _ l _ HR.out)).mono ?_; unfold Told; rw [HS.out]; rintro e w' ⟨rfl, rfl⟩)
      | (refine ⟨trivial, ?_⟩; gi_at_call 102; refine (back_in Fence.wide (n - 1) trivial rfl _ _ _ _).mono ?_; rintro e w' ⟨rfl, rfl⟩))
    obtain ⟨b, o, rfl, hblt, hcell⟩ := HR.out.at_ (by omega)
    have HC := Lib.hid hcell
    clear hcell hslice
    have bN := Boxed.new w 94 (.int .u64 0)
    have bS := Boxed.new (w.alloc (.cells #[.int .u64 0] 94)) 53 (.slice (some ⟨b, o, none⟩) k cap)
    rw [World.size_alloc] at bS
    have hB0 : Below w.heap.size w ((w.alloc (.cells #[.int .u64 0] 94)).alloc (.cells #[.slice (some ⟨b, o, none⟩) k cap] 53)) := ((Below.refl _ w).alloc (Nat.le_refl _) _).alloc (by simp) _
    have hlen : (l.take k).length = k := by have := HR.out.len; simp; omega
    refine wpIn_rangeFunc_ownF rfl h1 (gf := 111) (lb := #[.pointer (some ⟨w.heap.size + 1, 0, none⟩)]) rfl trivial (enters_of Tryz.func111 (by kernel_rfl) rfl)
      (back_stops Fence.wide (n - 1) trivial rfl (by omega) (w.heap.size + 1) (w.heap.size + 2) w.heap.size (by omega) (by omega) b o k cap (by omega) (by omega) (l.take k) hlen (by omega) _ (by simp) bS.cell
        (fun j x hx => by
          rw [List.getElem?_take] at hx
          split at hx
          · exact (hB0.cell (p := ⟨b, o + j, none⟩) hblt).trans (HC.out j x hx)
          · cases hx))
      (fun h k => h.trans k) (kept_b (by simp)) (Below.refl _ _) (fun _ => rfl)
      (fun pre W => (W.cell? ⟨w.heap.size, 0, none⟩ = some (.int .u64 (accW (pre.map (·.2)) : Int)) ∧ W.frozen? ⟨w.heap.size, 0, none⟩ = false) ∧ Below w.heap.size w W)
      (fun _ _ _ => False)
      (OwnFrom.and (Own.from (fun s A B row hs hg hr => ⟨cell_kept hs.1 hg hr, (frozen_kept hs.1 hg hr).trans hs.2⟩) _) (ownFrom_below (Nat.le_refl _) (by simp; omega)))
      (fun _ _ _ _ _ hs _ _ => hs)
      ⟨⟨(bN.alloc _).cell, (bN.alloc _).frozen⟩, hB0⟩
      (fun x => { tmps := #[.slice (some ⟨b, o, none⟩) len cap, undef, .int .u64 0, .int .i64 0, .int .i64 0, .int .i64 k, .int .i64 0, .pointer (some ⟨w.heap.size, 0, none⟩), undef, .int .u8 (u x.2), .tuple #[.int .i64 k, .int .i64 0], .slice (some ⟨b, o, none⟩) len cap,
          .tuple #[.int .i64 k, .int .i64 0], .int .i64 k, .int .i64 0, .int .i64 0, .bool false, undef, .slice (some ⟨b, o, none⟩) len cap, .int .i64 k, .slice (some ⟨b, o, none⟩) k cap, .func (.func 111) #[] #[.pointer (some ⟨w.heap.size + 1, 0, none⟩)],
          .int .i64 (x.1 : Int), .int .u8 (u x.2), undef, undef, undef, undef, undef, undef, undef, undef], defers := [] }) ?assign ?body ?done ?stop
    case assign =>
      intro l x W K hK
      gi_wp2
      exact hK
    case body =>
      rintro l pre x W ⟨⟨hc, hf⟩, hB⟩ _
      have E := Lib.hid (or_step (accW (pre.map (·.2))) x.2)
      have hlt := accW_lt (pre.map (·.2))
      have E2 : Hid (accW ((pre ++ [x]).map (·.2)) = (accW (pre.map (·.2)) * 128 + x.2.toNat % 128) % 18446744073709551616) := by show _ = _; rw [List.map_append]; exact accW_snoc _ _
      generalize accW (pre.map (·.2)) = a at *
      gi_wp2
      exact ⟨KeepsOthers.setCell _ _ _, Kept.setCell _ _ _, ⟨by rw [E2.out, ← E.out]; exact World.cell?_setCell_same' _ _ _ (by rw [hc]; rfl), by rw [World.frozen?_setCell]; exact hf⟩, hB.setCell (p := ⟨w.heap.size, 0, none⟩) (Nat.le_refl _) _⟩
    case done =>
      rintro D ys W hD hys ⟨⟨hc, _⟩, hB⟩ hK
      gi_wp2
      refine ⟨by simp, .inl ⟨_, _, rfl, run_takeDeferred hK, ?_⟩⟩
      refine ⟨.tuple #[.int .u64 ((dec (l.take k) : Nat) : Int), .int .i64 k, .int .i64 0], ?_, ?_, ?_⟩
      · have := accW_rev (l.take k) HD.out
        rw [this]
        simp [results, Tryz.f76, go_sem]
      · rw [HTK.out]; rfl
      · exact hB.trans (belowK_b (w := w) (Nat.le_refl _) W D _ _ (by simp at hD; omega) hK rfl rfl)
    case stop =>
      rintro D c pre W _ _ h _
      exact h.elim
  · have h2 := scan_bad l 0 k e HS.out he
    obtain ⟨rfl, h3⟩ := h2
    have HTK : Hid (take1 l = (0, 0, e)) := by show _ = _; unfold take1; rw [HS.out]; simp [he]
    clear he
    rcases h3 with rfl | rfl
    all_goals
      gi_wp2_with (refine ⟨trivial, ?_⟩; gi_at_call 101; refine (callsIn_wide.2 (length_any _ _ _ l _ HR.out)).mono ?_; unfold Told; rw [HS.out]; rintro e w' ⟨rfl, rfl⟩)
      first
        | exact ⟨.tuple #[.int .u64 0, .int .i64 0, .int .i64 20], by simp [results, Tryz.f76, go_sem], by rw [HTK.out]; rfl, Below.refl _ _⟩
        | exact ⟨.tuple #[.int .u64 0, .int .i64 0, .int .i64 21], by simp [results, Tryz.f76, go_sem], by rw [HTK.out]; rfl, Below.refl _ _⟩

theorem take_any (A : Option Addr) (len cap : Nat) (l : List B8) (w : World) (h : Row cb w A len cap l) :
    Calls Tryz.prog 76 #[.slice A len cap] w (Took l w) := (callsIn_wide (n := 3)).1 (take_in Fence.wide 3 rfl (Nat.le_refl _) A len cap l w h)

/-- .. at a known answer. -/
theorem take_at {A : Option Addr} {len cap : Nat} {l : List B8} {w : World} (h : Row cb w A len cap l) {n k e : Nat} (ht : take1 l = (n, k, e)) :
    Calls Tryz.prog 76 #[.slice A len cap] w fun en w' => en = .returned (.tuple #[.int .u64 (n : Int), .int .i64 (k : Int), .int .i64 (e : Int)]) ∧ Below w.heap.size w w' :=
  (take_any A len cap l w h).mono fun en w' h => by unfold Took at h; rw [ht] at h; exact h

theorem wrap_small (n : Nat) (h : n < 9223372036854775808) : IntKind.i64.wrap (n : Int) = n := by
  simp [IntKind.wrap, IntKind.bits, IntKind.signed]; omega

set_option maxRecDepth 100000 in
set_option maxHeartbeats 800000 in
theorem takeInt_at {A : Option Addr} {len cap : Nat} {l : List B8} {w : World} (h : Row cb w A len cap l) {n k e : Nat} (ht : int1 l = (n, k, e)) :
    Calls Tryz.prog 51 #[.slice A len cap] w fun en w' => en = .returned (.tuple #[.int .i64 (n : Int), .int .i64 (k : Int), .int .i64 (e : Int)]) ∧ Below w.heap.size w w' := by
  have HR := Lib.hid h
  rcases hs : take1 l with ⟨n1, k1, e1⟩
  have HS := Lib.hid hs
  clear h
  unfold int1 at ht
  rw [hs] at ht
  by_cases he : e1 = 0
  · subst he
    simp only [if_pos] at ht
    by_cases hb : 9223372036854775807 < n1
    · rw [if_pos hb] at ht
      simp only [Prod.mk.injEq] at ht
      obtain ⟨rfl, rfl, rfl⟩ := ht
      have hd : decide (9223372036854775807 < (n1 : Int)) = true := by simp; omega
      clear hs hb
      go_enter Tryz.func51, Tryz.ntmps51
      go_wp2_with (go_at_call 76; refine (take_at HR.out HS.out).mono ?_; rintro en w' ⟨rfl, hb⟩; have HB := Lib.hid hb; clear hb)
      go_ret3
      exact ⟨rfl, HB.out⟩
    · rw [if_neg hb] at ht
      simp only [Prod.mk.injEq] at ht
      obtain ⟨rfl, rfl, rfl⟩ := ht
      have hd : decide (9223372036854775807 < (n1 : Int)) = false := by simp; omega
      have hw := wrap_small n1 (by omega)
      clear hs hb
      go_enter Tryz.func51, Tryz.ntmps51
      go_wp2_with (go_at_call 76; refine (take_at HR.out HS.out).mono ?_; rintro en w' ⟨rfl, hb⟩; have HB := Lib.hid hb; clear hb)
      go_ret3
      exact ⟨rfl, HB.out⟩
  · rw [if_neg he] at ht
    simp only [Prod.mk.injEq] at ht
    obtain ⟨rfl, rfl, rfl⟩ := ht
    obtain ⟨rfl, rfl, h3, -⟩ := take1_bad hs he
    clear hs he
    rcases h3 with rfl | rfl
    all_goals
      go_enter Tryz.func51, Tryz.ntmps51
      go_wp2_with (go_at_call 76; refine (take_at HR.out HS.out).mono ?_; rintro en w' ⟨rfl, hb⟩; have HB := Lib.hid hb; clear hb)
      go_ret3
      exact ⟨rfl, HB.out⟩
end Wire
end Go.Proofs.YtmflngclncidjaaGreat
