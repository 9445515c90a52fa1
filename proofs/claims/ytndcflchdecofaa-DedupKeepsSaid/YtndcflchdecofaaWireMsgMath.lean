/-
  THE PLAIN MATHEMATICS OF wire's MESSAGES: what one is as bytes, and what is read.
-/
import Derived.Test.YtndcflchdecofaaWireMath
namespace Go.Proofs.Ytndcflchdecofaa
namespace Wire

/-- A message's bytes: the five numbers at its head, its numbers, its vector. -/
def encM (h : List Nat) (a : List Nat) (v : List B8) : List B8 := encs h ++ (encs a ++ encV v)
/-- What is read: the head, the numbers, the vector, how many bytes, the error. -/
def msg1 (b : List B8) : List Nat × List Nat × List B8 × Nat × Nat :=
  let h := ints 5 b
  if h.2.2 = 0 then
    if 64 < h.1.getD 4 0 then ([], [], [], 0, 2) else
    let a := ints (h.1.getD 4 0) (b.drop h.2.1)
    if a.2.2 = 0 then
      let v := vec1 (b.drop (h.2.1 + a.2.1))
      if v.2.2 = 0 then (h.1, a.1, v.1, h.2.1 + a.2.1 + v.2.1, 0) else ([], [], [], 0, v.2.2)
    else ([], [], [], 0, a.2.2)
  else ([], [], [], 0, h.2.2)

theorem msg1_enc {k f t i : Nat} {a : List Nat} {v rest : List B8} (hk : k < 9223372036854775808) (hf : f < 9223372036854775808) (ht : t < 9223372036854775808) (hi : i < 9223372036854775808) (ha : ∀ n ∈ a, n < 9223372036854775808) (h64 : a.length ≤ 64) (hv : v.length ≤ 65536) :
    msg1 (encM [k, f, t, i, a.length] a v ++ rest) = ([k, f, t, i, a.length], a, v, (encM [k, f, t, i, a.length] a v).length, 0) := by
  have hh : ∀ n ∈ [k, f, t, i, a.length], n < 9223372036854775808 := by
    intro n hn
    simp only [List.mem_cons, List.not_mem_nil, or_false] at hn
    rcases hn with rfl | rfl | rfl | rfl | rfl <;> omega
  unfold msg1 encM
  have e1 : ints 5 (encs [k, f, t, i, a.length] ++ (encs a ++ encV v) ++ rest) = ([k, f, t, i, a.length], (encs [k, f, t, i, a.length]).length, 0) := by
    rw [List.append_assoc]; exact ints_encs _ _ hh
  rw [e1]
  simp only [if_pos, List.getD_cons_succ, List.getD_cons_zero]
  rw [if_neg (by omega)]
  have e2 : (encs [k, f, t, i, a.length] ++ (encs a ++ encV v) ++ rest).drop (encs [k, f, t, i, a.length]).length = encs a ++ (encV v ++ rest) := by
    rw [List.append_assoc, List.drop_left, List.append_assoc]
  rw [e2, ints_encs _ _ ha]
  simp only [if_pos]
  have e3 : (encs [k, f, t, i, a.length] ++ (encs a ++ encV v) ++ rest).drop ((encs [k, f, t, i, a.length]).length + (encs a).length) = encV v ++ rest := by
    rw [← List.drop_drop, e2, List.drop_left]
  rw [e3, vec1_enc v rest hv]
  simp [Nat.add_assoc]

theorem msg1_cut {k f t i : Nat} {a : List Nat} {v : List B8} (hk : k < 9223372036854775808) (hf : f < 9223372036854775808) (ht : t < 9223372036854775808) (hi : i < 9223372036854775808) (ha : ∀ n ∈ a, n < 9223372036854775808) (h64 : a.length ≤ 64) (hv : v.length ≤ 65536)
    {j : Nat} (hj : j < (encM [k, f, t, i, a.length] a v).length) : msg1 ((encM [k, f, t, i, a.length] a v).take j) = ([], [], [], 0, 20) := by
  have hh : ∀ n ∈ [k, f, t, i, a.length], n < 9223372036854775808 := by
    intro n hn
    simp only [List.mem_cons, List.not_mem_nil, or_false] at hn
    rcases hn with rfl | rfl | rfl | rfl | rfl <;> omega
  unfold encM at hj ⊢
  generalize hH : encs [k, f, t, i, a.length] = H at *
  have cut5 : ∀ j, j < H.length → ints 5 (H.take j) = ([], 0, 20) := fun j hj => by rw [← hH] at hj ⊢; exact ints_cut _ j hh hj
  have all5 : ∀ r, ints 5 (H ++ r) = ([k, f, t, i, a.length], H.length, 0) := fun r => by rw [← hH]; exact ints_encs _ _ hh
  unfold msg1
  by_cases c1 : j < H.length
  · rw [List.take_append_of_le_length (by omega), cut5 j c1]
    simp
  · have e1 : (H ++ (encs a ++ encV v)).take j = H ++ (encs a ++ encV v).take (j - H.length) := by
      rw [List.take_append, List.take_of_length_le (by omega)]
    rw [e1, all5]
    simp only [if_pos, List.getD_cons_succ, List.getD_cons_zero, List.drop_left]
    rw [if_neg (by omega)]
    rw [List.length_append] at hj
    by_cases c2 : j - H.length < (encs a).length
    · rw [List.take_append_of_le_length (by omega), ints_cut a _ ha c2]
      simp
    · have e2 : (encs a ++ encV v).take (j - H.length) = encs a ++ (encV v).take (j - H.length - (encs a).length) := by
        rw [List.take_append, List.take_of_length_le (by omega)]
      rw [e2, ints_encs _ a ha]
      simp only [if_pos]
      have e3 : (H ++ (encs a ++ (encV v).take (j - H.length - (encs a).length))).drop (H.length + (encs a).length) = (encV v).take (j - H.length - (encs a).length) := by
        rw [← List.drop_drop, List.drop_left, List.drop_left]
      rw [e3, vec1_cut v _ hv (by rw [List.length_append] at hj; omega)]
      simp

theorem five_of {l : List Nat} (h : l.length = 5) : ∃ a b c d e, l = [a, b, c, d, e] := by
  match l, h with
  | [a, b, c, d, e], _ => exact ⟨a, b, c, d, e, rfl⟩

theorem msg1_one {b : List B8} {h a : List Nat} {v : List B8} {k : Nat} (hm : msg1 b = (h, a, v, k, 0)) :
    ∃ x y z i, h = [x, y, z, i, a.length] ∧ (∀ n ∈ h, n < 9223372036854775808) ∧ (∀ n ∈ a, n < 9223372036854775808) ∧ a.length ≤ 64 ∧ v.length ≤ 65536 ∧ 1 ≤ k ∧ k ≤ b.length ∧ encM h a v = b.take k := by
  unfold msg1 at hm
  rcases h5 : ints 5 b with ⟨l5, k5, e5⟩
  rw [h5] at hm
  by_cases c5 : e5 = 0
  · subst c5
    simp only [if_pos] at hm
    obtain ⟨p1, p2, p3, p4⟩ := ints_one 5 b l5 k5 h5
    obtain ⟨x, y, z, i, m, rfl⟩ := five_of p1
    simp only [List.getD_cons_succ, List.getD_cons_zero] at hm
    by_cases c6 : 64 < m
    · simp [c6] at hm
    · rw [if_neg c6] at hm
      rcases hA : ints m (b.drop k5) with ⟨la, ka, ea⟩
      rw [hA] at hm
      by_cases ca : ea = 0
      · subst ca
        simp only [if_pos] at hm
        obtain ⟨q1, q2, q3, q4⟩ := ints_one m _ la ka hA
        rcases hV : vec1 (b.drop (k5 + ka)) with ⟨lv, kv, ev⟩
        rw [hV] at hm
        by_cases cv : ev = 0
        · subst cv
          simp only [if_pos, Prod.mk.injEq, and_true] at hm
          obtain ⟨rfl, rfl, rfl, rfl⟩ := hm
          obtain ⟨r1, r2, r3, r4⟩ := vec1_one hV
          rw [List.length_drop] at q2 r2
          refine ⟨x, y, z, i, by rw [q1], p4, q4, by omega, r3, by omega, by omega, ?_⟩
          unfold encM
          rw [p3, q3, r1, ← List.take_append_drop k5 (b.take (k5 + ka + kv))]
          congr 1
          · rw [List.take_take]; congr 1; omega
          · rw [List.drop_take, ← List.take_append_drop ka ((b.drop k5).take (k5 + ka + kv - k5))]
            congr 1
            · rw [List.take_take]; congr 1; omega
            · rw [List.drop_take, List.drop_drop]; congr 1; omega
        · simp [cv] at hm
      · simp [ca] at hm
  · simp [c5] at hm
theorem msg1_bad {b : List B8} {h a : List Nat} {v : List B8} {k e : Nat} (hm : msg1 b = (h, a, v, k, e)) (he : e ≠ 0) : k = 0 ∧ (e = 2 ∨ e = 20 ∨ e = 21) := by
  unfold msg1 at hm
  rcases h5 : ints 5 b with ⟨l5, k5, e5⟩
  rw [h5] at hm
  by_cases c5 : e5 = 0
  · subst c5
    simp only [if_pos] at hm
    split at hm
    · simp at hm; omega
    · rcases hA : ints (l5.getD 4 0) (b.drop k5) with ⟨la, ka, ea⟩
      rw [hA] at hm
      by_cases ca : ea = 0
      · subst ca
        simp only [if_pos] at hm
        rcases hV : vec1 (b.drop (k5 + ka)) with ⟨lv, kv, ev⟩
        rw [hV] at hm
        by_cases cv : ev = 0
        · subst cv
          simp at hm; omega
        · have := (vec1_bad hV cv).2.2
          simp only [if_neg cv, Prod.mk.injEq] at hm; omega
      · have := (ints_bad _ _ _ _ _ hA ca).2.2
        simp only [if_neg ca, Prod.mk.injEq] at hm; omega
  · have := (ints_bad _ _ _ _ _ h5 c5).2.2
    simp only [if_neg c5, Prod.mk.injEq] at hm; omega
end Wire
end Go.Proofs.Ytndcflchdecofaa
