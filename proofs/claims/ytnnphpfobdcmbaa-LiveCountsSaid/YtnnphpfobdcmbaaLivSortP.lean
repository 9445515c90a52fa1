/-
  PLAIN: rows sorted in place so that equals keep their order: what an insertion sort and a merge by rotation leave. (No program is named here.)
-/
import Derived.Shelf.SlSortCmp.Insertion1
namespace Go.Proofs.Ytnnphpfobdcmbaa
open Go.Sort
namespace Stab
variable {α : Type} {key : α → Int} {r : α → α → Prop}

/-- x may stand ahead of y. -/
def T (key : α → Int) (r : α → α → Prop) (x y : α) : Prop := key x < key y ∨ key x = key y ∧ r x y
/-- Equals stand as they stood. -/
def U (key : α → Int) (r : α → α → Prop) (x y : α) : Prop := key x = key y → r x y
theorem T.u {x y : α} (h : T key r x y) : U key r x y := fun e => by
  rcases h with h | h
  · omega
  · exact h.2
theorem T.le {x y : α} (h : T key r x y) : key x ≤ key y := by rcases h with h | h <;> omega
theorem t_of {x y : α} (h : U key r x y) (hl : key x ≤ key y) : T key r x y := by
  by_cases e : key x = key y
  · exact .inr ⟨e, h e⟩
  · exact .inl (by omega)
variable [Inhabited α]
def Srt (key : α → Int) (r : α → α → Prop) (d : Array α) (a b : Nat) : Prop := ∀ i j, a ≤ i → i < j → j < b → T key r d[i]! d[j]!
def Stb (key : α → Int) (r : α → α → Prop) (d : Array α) (a b : Nat) : Prop := ∀ i j, a ≤ i → i < j → j < b → U key r d[i]! d[j]!
/-- What was moved about between a and b, and nothing else. -/
structure Mv (d d' : Array α) (a b : Nat) : Prop where
  size : d'.size = d.size
  out : ∀ i, ¬ (a ≤ i ∧ i < b) → d'[i]! = d[i]!
  into : ∀ i, a ≤ i → i < b → ∃ j, a ≤ j ∧ j < b ∧ d'[i]! = d[j]!
  perm : d'.toList.Perm d.toList
theorem Mv.refl (d : Array α) (a b : Nat) : Mv d d a b := ⟨rfl, fun _ _ => rfl, fun i h1 h2 => ⟨i, h1, h2, rfl⟩, List.Perm.refl _⟩
theorem Mv.trans {d d' d'' : Array α} {a b : Nat} (h : Mv d d' a b) (k : Mv d' d'' a b) : Mv d d'' a b :=
  ⟨k.size.trans h.size, fun i hi => (k.out i hi).trans (h.out i hi), fun i h1 h2 => by
    obtain ⟨j, j1, j2, e⟩ := k.into i h1 h2
    obtain ⟨q, q1, q2, e'⟩ := h.into j j1 j2
    exact ⟨q, q1, q2, e.trans e'⟩, k.perm.trans h.perm⟩
theorem Mv.mono {d d' : Array α} {a b a' b' : Nat} (h : Mv d d' a b) (ha : a' ≤ a) (hb : b ≤ b') : Mv d d' a' b' :=
  ⟨h.size, fun i hi => h.out i (by omega), fun i h1 h2 => by
    by_cases hi : a ≤ i ∧ i < b
    · obtain ⟨j, j1, j2, e⟩ := h.into i hi.1 hi.2
      exact ⟨j, by omega, by omega, e⟩
    · exact ⟨i, h1, h2, h.out i hi⟩, h.perm⟩
theorem Srt.stb {d : Array α} {a b : Nat} (h : Srt key r d a b) : Stb key r d a b := fun i j h1 h2 h3 => (h i j h1 h2 h3).u
theorem Srt.mono {d : Array α} {a b a' b' : Nat} (h : Srt key r d a b) (ha : a ≤ a') (hb : b' ≤ b) : Srt key r d a' b' := fun i j h1 h2 h3 => h i j (by omega) h2 (by omega)
theorem Stb.mono {d : Array α} {a b a' b' : Nat} (h : Stb key r d a b) (ha : a ≤ a') (hb : b' ≤ b) : Stb key r d a' b' := fun i j h1 h2 h3 => h i j (by omega) h2 (by omega)
theorem Srt.le {d : Array α} {a b : Nat} (h : Srt key r d a b) {i j : Nat} (h1 : a ≤ i) (h2 : i ≤ j) (h3 : j < b) : key d[i]! ≤ key d[j]! := by
  by_cases e : i = j
  · subst e; omega
  · exact (h i j h1 (by omega) h3).le
theorem srt_one (d : Array α) {a b : Nat} (h : b ≤ a + 1) : Srt key r d a b := fun i j h1 h2 h3 => by omega
theorem srt_same {d d' : Array α} {a b : Nat} (h : Srt key r d a b) (e : ∀ i, a ≤ i → i < b → d'[i]! = d[i]!) : Srt key r d' a b := fun i j h1 h2 h3 => by
  rw [e i h1 (by omega), e j (by omega) h3]; exact h i j h1 h2 h3
/-- What stands behind one another stays so, whatever is moved about among either. -/
theorem srt_join {d d' : Array α} {a c b : Nat} (hac : a ≤ c) (hcb : c ≤ b) (hl : Srt key r d' a c) (hr : Srt key r d' c b) (hx : ∀ i j, a ≤ i → i < c → c ≤ j → j < b → T key r d'[i]! d'[j]!) : Srt key r d' a b := fun i j h1 h2 h3 => by
  by_cases hi : i < c
  · by_cases hj : j < c
    · exact hl i j h1 h2 hj
    · exact hx i j h1 hi (by omega) h3
  · exact hr i j (by omega) h2 h3
theorem stb_moved {d d' : Array α} {a b c e : Nat} (h : Stb key r d a b) (hm : Mv d d' c e) (h1 : a ≤ c) (h2 : e ≤ b) (hs : Stb key r d' c e) : Stb key r d' a b := fun i j i1 i2 i3 => by
  by_cases hi : c ≤ i ∧ i < e
  · by_cases hj : c ≤ j ∧ j < e
    · exact hs i j hi.1 i2 hj.2
    · obtain ⟨q, q1, q2, eq⟩ := hm.into i hi.1 hi.2
      rw [eq, hm.out j hj]
      exact h q j (by omega) (by omega) i3
  · by_cases hj : c ≤ j ∧ j < e
    · obtain ⟨q, q1, q2, eq⟩ := hm.into j hj.1 hj.2
      rw [eq, hm.out i hi]
      exact h i q i1 (by omega) (by omega)
    · rw [hm.out i hi, hm.out j hj]; exact h i j i1 i2 i3

/-! ### Exchanges -/
theorem set_get (d : Array α) (i k : Nat) (x : α) (hi : i < d.size) : (d.setIfInBounds i x)[k]! = if k = i then x else d[k]! := by
  by_cases hk : k < d.size
  · rw [getElem!_pos (d.setIfInBounds i x) k (by simpa using hk), Array.getElem_setIfInBounds hk, getElem!_pos d k hk]
    by_cases h : k = i
    · rw [if_pos h, if_pos h.symm]
    · rw [if_neg h, if_neg (fun e => h e.symm)]
  · rw [getElem!_neg (d.setIfInBounds i x) k (by simpa using hk), getElem!_neg d k hk, if_neg (by omega)]
theorem swp_get (d : Array α) (i j k : Nat) (hi : i < d.size) (hj : j < d.size) : (swp d i j)[k]! = if k = j then d[i]! else if k = i then d[j]! else d[k]! := by
  unfold swp
  rw [set_get _ _ _ _ (by simpa using hj), set_get _ _ _ _ hi]
theorem swp_perm (d : Array α) (i j : Nat) (hi : i < d.size) (hj : j < d.size) : (swp d i j).toList.Perm d.toList := by
  have : swp d i j = d.swap i j hi hj := by
    unfold swp
    have e1 : ∀ (c : Array α) (k : Nat) (x : α) (h : k < c.size), c.setIfInBounds k x = c.set k x h := fun c k x h => by unfold Array.setIfInBounds; rw [dif_pos h]
    rw [Array.swap_def, getElem!_pos d i hi, getElem!_pos d j hj, e1 d i _ hi, e1 _ j _ (by simpa using hj)]
  rw [this]
  exact (Array.swap_perm hi hj).toList
theorem swp_size (d : Array α) (i j : Nat) : (swp d i j).size = d.size := by simp [swp]

/-! ### Ranges exchanged, and rotated -/
/-- d' is d with n from a on and n from b on exchanged. -/
structure Swr (d d' : Array α) (a b n : Nat) : Prop where
  size : d'.size = d.size
  get : ∀ k, d'[k]! = if a ≤ k ∧ k < a + n then d[k - a + b]! else if b ≤ k ∧ k < b + n then d[k - b + a]! else d[k]!
  perm : d'.toList.Perm d.toList
theorem Swr.zero (d : Array α) (a b : Nat) : Swr d d a b 0 := ⟨rfl, fun k => by rw [if_neg (by omega), if_neg (by omega)], List.Perm.refl _⟩
theorem Swr.step {d d' : Array α} {a b n : Nat} (h : Swr d d' a b n) (hab : a + n < b) (hb : b + n < d.size) : Swr d (swp d' (a + n) (b + n)) a b (n + 1) := by
  refine ⟨(swp_size _ _ _).trans h.size, fun k => ?_, (swp_perm _ _ _ (by rw [h.size]; omega) (by rw [h.size]; omega)).trans h.perm⟩
  rw [swp_get _ _ _ _ (by rw [h.size]; omega) (by rw [h.size]; omega), h.get k, h.get (a + n), h.get (b + n)]
  rw [if_neg (show ¬ (a ≤ a + n ∧ a + n < a + n) by omega), if_neg (show ¬ (b ≤ a + n ∧ a + n < b + n) by omega), if_neg (show ¬ (a ≤ b + n ∧ b + n < a + n) by omega), if_neg (show ¬ (b ≤ b + n ∧ b + n < b + n) by omega)]
  by_cases h1 : k = b + n
  · subst h1
    rw [if_pos rfl, if_neg (by omega), if_pos (by omega)]
    congr 1; omega
  · rw [if_neg h1]
    by_cases h2 : k = a + n
    · subst h2
      rw [if_pos rfl, if_pos (by omega)]
      congr 1; omega
    · rw [if_neg h2]
      by_cases h3 : a ≤ k ∧ k < a + n
      · rw [if_pos h3, if_pos (by omega)]
      · rw [if_neg h3, if_neg (show ¬ (a ≤ k ∧ k < a + (n + 1)) by omega)]
        by_cases h4 : b ≤ k ∧ k < b + n
        · rw [if_pos h4, if_pos (by omega)]
        · rw [if_neg h4, if_neg (by omega)]
/-- d' is d with what stands from a on up to m behind what stands from m on up to b. -/
structure Rot (d d' : Array α) (a m b : Nat) : Prop where
  size : d'.size = d.size
  get : ∀ k, d'[k]! = if a ≤ k ∧ k < a + (b - m) then d[k + (m - a)]! else if a + (b - m) ≤ k ∧ k < b then d[k - (b - m)]! else d[k]!
  perm : d'.toList.Perm d.toList
theorem Rot.none_l (d : Array α) (m b : Nat) : Rot d d m m b := ⟨rfl, fun k => by
  by_cases h : m ≤ k ∧ k < m + (b - m)
  · rw [if_pos h]; congr 1; omega
  · rw [if_neg h, if_neg (by omega)], List.Perm.refl _⟩
theorem Rot.none_r (d : Array α) (a m : Nat) : Rot d d a m m := ⟨rfl, fun k => by
  rw [if_neg (by omega)]
  by_cases h : a + (m - m) ≤ k ∧ k < m
  · rw [if_pos h]; congr 1; omega
  · rw [if_neg h], List.Perm.refl _⟩
theorem Rot.mv {d d' : Array α} {a m b : Nat} (h : Rot d d' a m b) (h1 : a ≤ m) (h2 : m ≤ b) : Mv d d' a b := by
  refine ⟨h.size, fun i hi => ?_, fun i i1 i2 => ?_, h.perm⟩
  · rw [h.get, if_neg (by omega), if_neg (by omega)]
  · rw [h.get]
    by_cases hi : i < a + (b - m)
    · rw [if_pos ⟨i1, hi⟩]; exact ⟨_, by omega, by omega, rfl⟩
    · rw [if_neg (by omega), if_pos (by omega)]; exact ⟨_, by omega, by omega, rfl⟩
/-- One round of rotating, the left part the longer. -/
theorem Rot.left {d d1 d2 : Array α} {i j m : Nat} (hij : j < i) (him : i ≤ m) (h : Swr d d1 (m - i) m j) (k : Rot d1 d2 (m - (i - j)) m (m + j)) : Rot d d2 (m - i) m (m + j) := by
  refine ⟨k.size.trans h.size, fun q => ?_, k.perm.trans h.perm⟩
  rw [k.get]
  have e1 : m + j - m = j := by omega
  have e2 : m - (m - (i - j)) = i - j := by omega
  have e3 : m - (m - i) = i := by omega
  rw [e1, e2, e3]
  by_cases h1 : m - i ≤ q ∧ q < m - i + j
  · rw [if_pos h1, if_neg (by omega), if_neg (by omega), h.get, if_pos h1]
    congr 1; omega
  · rw [if_neg h1]
    by_cases h2 : m - i + j ≤ q ∧ q < m + j
    · rw [if_pos h2]
      by_cases h3 : q < m - (i - j) + j
      · rw [if_pos (by omega), h.get]
        by_cases h4 : q + (i - j) < m
        · rw [if_neg (by omega), if_neg (by omega)]
          exfalso; omega
        · rw [if_neg (by omega), if_pos (by omega)]
          congr 1; omega
      · rw [if_neg (by omega), if_pos (by omega), h.get, if_neg (by omega), if_neg (by omega)]
    · rw [if_neg h2, if_neg (by omega), if_neg (by omega), h.get, if_neg (by omega), if_neg (by omega)]
/-- .. the right part the longer. -/
theorem Rot.right {d d1 d2 : Array α} {i j m : Nat} (hij : i < j) (him : i ≤ m) (h : Swr d d1 (m - i) (m + j - i) i) (k : Rot d1 d2 (m - i) m (m + (j - i))) : Rot d d2 (m - i) m (m + j) := by
  refine ⟨k.size.trans h.size, fun q => ?_, k.perm.trans h.perm⟩
  rw [k.get]
  have e1 : m + (j - i) - m = j - i := by omega
  have e2 : m - (m - i) = i := by omega
  have e3 : m + j - m = j := by omega
  rw [e1, e2, e3]
  by_cases h1 : m - i ≤ q ∧ q < m - i + (j - i)
  · rw [if_pos h1, if_pos (by omega), h.get, if_neg (by omega), if_neg (by omega)]
  · rw [if_neg h1]
    by_cases h2 : m - i + (j - i) ≤ q ∧ q < m + (j - i)
    · rw [if_pos h2, if_pos (by omega), h.get, if_pos (by omega)]
      congr 1; omega
    · rw [if_neg h2, h.get]
      by_cases h3 : m - i + j ≤ q ∧ q < m + j
      · rw [if_neg (by omega), if_pos (by omega), if_neg (by omega), if_pos h3]
        congr 1; omega
      · rw [if_neg (by omega), if_neg (by omega), if_neg (by omega), if_neg h3]
/-- .. both alike: the last exchange. -/
theorem Rot.equal {d d1 : Array α} {i m : Nat} (him : i ≤ m) (h : Swr d d1 (m - i) m i) : Rot d d1 (m - i) m (m + i) := by
  refine ⟨h.size, fun q => ?_, h.perm⟩
  rw [h.get]
  have e1 : m + i - m = i := by omega
  have e2 : m - (m - i) = i := by omega
  rw [e1, e2]
  by_cases h1 : m - i ≤ q ∧ q < m - i + i
  · rw [if_pos h1, if_pos h1]; congr 1; omega
  · rw [if_neg h1, if_neg h1]
    by_cases h2 : m ≤ q ∧ q < m + i
    · rw [if_pos h2, if_pos (by omega)]; congr 1; omega
    · rw [if_neg h2, if_neg (by omega)]
/-- One is moved to the right, place by place. -/
theorem Rot.up {d dk : Array α} {a k : Nat} (h : Rot d dk a (a + 1) (k + 1)) (hak : a ≤ k) (hk : k + 1 < d.size) : Rot d (swp dk k (k + 1)) a (a + 1) (k + 2) := by
  refine ⟨(swp_size _ _ _).trans h.size, fun q => ?_, (swp_perm _ _ _ (by rw [h.size]; omega) (by rw [h.size]; omega)).trans h.perm⟩
  rw [swp_get _ _ _ _ (by rw [h.size]; omega) (by rw [h.size]; omega), h.get k, h.get (k + 1), h.get q]
  have e1 : k + 1 - (a + 1) = k - a := by omega
  have e2 : k + 2 - (a + 1) = k + 1 - a := by omega
  have e3 : a + 1 - a = 1 := by omega
  rw [e1, e2, e3]
  by_cases h1 : q = k + 1
  · subst h1
    rw [if_pos rfl, if_neg (by omega), if_pos (by omega), if_neg (by omega), if_pos (by omega)]
    congr 1; omega
  · rw [if_neg h1]
    by_cases h2 : q = k
    · subst h2
      rw [if_pos rfl, if_neg (by omega), if_neg (by omega), if_pos (by omega)]
    · rw [if_neg h2]
      by_cases h3 : a ≤ q ∧ q < a + (k - a)
      · rw [if_pos h3, if_pos (by omega)]
      · rw [if_neg h3, if_neg (by omega), if_neg (by omega), if_neg (by omega)]
/-- .. to the left. -/
theorem Rot.down {d dk : Array α} {k m : Nat} (h : Rot d dk (k + 1) m (m + 1)) (hkm : k + 1 ≤ m) (hm : m < d.size) : Rot d (swp dk (k + 1) k) k m (m + 1) := by
  refine ⟨(swp_size _ _ _).trans h.size, fun q => ?_, (swp_perm _ _ _ (by rw [h.size]; omega) (by rw [h.size]; omega)).trans h.perm⟩
  rw [swp_get _ _ _ _ (by rw [h.size]; omega) (by rw [h.size]; omega), h.get k, h.get (k + 1), h.get q]
  have e1 : m + 1 - m = 1 := by omega
  rw [e1]
  by_cases h1 : q = k
  · subst h1
    rw [if_pos rfl, if_pos (by omega), if_pos (by omega)]
    congr 1; omega
  · rw [if_neg h1]
    by_cases h2 : q = k + 1
    · subst h2
      rw [if_pos rfl, if_neg (by omega), if_neg (by omega), if_neg (by omega), if_pos (by omega)]
      congr 1
    · rw [if_neg h2, if_neg (by omega), if_neg (show ¬ (k ≤ q ∧ q < k + 1) by omega)]
      by_cases h3 : k + 1 + 1 ≤ q ∧ q < m + 1
      · rw [if_pos h3, if_pos (by omega)]
      · rw [if_neg h3, if_neg (by omega)]

/-! ### What a rotation leaves of two sorted runs -/
section
variable {d d' : Array α} {a s m e b : Nat}
theorem Rot.at_l (R : Rot d d' s m e) {k : Nat} (h : k < s) : d'[k]! = d[k]! := by rw [R.get, if_neg (by omega), if_neg (by omega)]
theorem Rot.at_y (R : Rot d d' s m e) {k : Nat} (h1 : s ≤ k) (h2 : k < s + (e - m)) : d'[k]! = d[k + (m - s)]! := by rw [R.get, if_pos ⟨h1, h2⟩]
theorem Rot.at_x (R : Rot d d' s m e) {k : Nat} (h1 : s + (e - m) ≤ k) (h2 : k < e) : d'[k]! = d[k - (e - m)]! := by rw [R.get, if_neg (by omega), if_pos ⟨h1, h2⟩]
theorem Rot.at_r (R : Rot d d' s m e) (h1 : s ≤ m) (h2 : m ≤ e) {k : Nat} (h : e ≤ k) : d'[k]! = d[k]! := by rw [R.get, if_neg (by omega), if_neg (by omega)]
/-- Two sorted runs, a part of the one and a part of the other exchanged, as a merge does. -/
structure Cutting (key : α → Int) (r : α → α → Prop) (d d' : Array α) (a s m e b : Nat) : Prop where
  R : Rot d d' s m e
  hs : a ≤ s
  hsm : s ≤ m
  hme : m ≤ e
  heb : e ≤ b
  HL : Srt key r d a m
  HR : Srt key r d m b
  HU : Stb key r d a b
  H1 : ∀ x y, s ≤ x → x < m → m ≤ y → y < e → key d[y]! < key d[x]!
theorem rot_parts (C : Cutting key r d d' a s m e b) : Srt key r d' a s ∧ Srt key r d' s (s + (e - m)) ∧ Srt key r d' (s + (e - m)) e ∧ Srt key r d' e b := by
  obtain ⟨R, hs, hsm, hme, heb, HL, HR, HU, H1⟩ := C
  refine ⟨fun i j h1 h2 h3 => ?_, fun i j h1 h2 h3 => ?_, fun i j h1 h2 h3 => ?_, fun i j h1 h2 h3 => ?_⟩
  · rw [R.at_l (by omega), R.at_l h3]; exact HL i j h1 h2 (by omega)
  · rw [R.at_y h1 (by omega), R.at_y (by omega) h3]; exact HR _ _ (by omega) (by omega) (by omega)
  · rw [R.at_x h1 (by omega), R.at_x (by omega) h3]; exact HL _ _ (by omega) (by omega) (by omega)
  · rw [R.at_r hsm hme h1, R.at_r hsm hme (by omega)]; exact HR i j (by omega) h2 h3
theorem rot_stb_l (C : Cutting key r d d' a s m e b) : Stb key r d' a (s + (e - m)) := fun i j h1 h2 h3 => by
  obtain ⟨R, hs, hsm, hme, heb, HL, HR, HU, H1⟩ := C
  by_cases hi : i < s
  · rw [R.at_l hi]
    by_cases hj : j < s
    · rw [R.at_l hj]; exact HU i j h1 h2 (by omega)
    · rw [R.at_y (by omega) h3]; exact HU i _ h1 (by omega) (by omega)
  · rw [R.at_y (by omega) (by omega), R.at_y (by omega) h3]; exact HU _ _ (by omega) (by omega) (by omega)
theorem rot_stb_r (C : Cutting key r d d' a s m e b) : Stb key r d' (s + (e - m)) b := fun i j h1 h2 h3 => by
  obtain ⟨R, hs, hsm, hme, heb, HL, HR, HU, H1⟩ := C
  by_cases hi : i < e
  · rw [R.at_x h1 hi]
    by_cases hj : j < e
    · rw [R.at_x (by omega) hj]; exact HU _ _ (by omega) (by omega) (by omega)
    · rw [R.at_r hsm hme (by omega)]; exact HU _ j (by omega) (by omega) h3
  · rw [R.at_r hsm hme (by omega), R.at_r hsm hme (by omega)]; exact HU i j (by omega) h2 h3
theorem rot_cross (C : Cutting key r d d' a s m e b) (H2 : ∀ x y, a ≤ x → x < s → e ≤ y → y < b → key d[x]! ≤ key d[y]!) : ∀ i j, a ≤ i → i < s + (e - m) → s + (e - m) ≤ j → j < b → T key r d'[i]! d'[j]! := fun i j h1 h2 h3 h4 => by
  obtain ⟨R, hs, hsm, hme, heb, HL, HR, HU, H1⟩ := C
  by_cases hi : i < s
  · rw [R.at_l hi]
    by_cases hj : j < e
    · rw [R.at_x h3 hj]; exact HL i _ h1 (by omega) (by omega)
    · rw [R.at_r hsm hme (by omega)]; exact t_of (HU i j h1 (by omega) h4) (H2 i j h1 hi (by omega) h4)
  · rw [R.at_y (by omega) h2]
    by_cases hj : j < e
    · rw [R.at_x h3 hj]; exact .inl (H1 _ _ (by omega) (by omega) (by omega) (by omega))
    · rw [R.at_r hsm hme (by omega)]; exact HR _ j (by omega) (by omega) h4
/-- Where the parts that meet are in order, too, all of it is. -/
theorem rot_sorted (C : Cutting key r d d' a s m e b) (H2 : ∀ x y, a ≤ x → x < s → e ≤ y → y < b → key d[x]! ≤ key d[y]!) (H3 : ∀ x y, a ≤ x → x < s → m ≤ y → y < e → key d[x]! ≤ key d[y]!) (H4 : ∀ x y, s ≤ x → x < m → e ≤ y → y < b → key d[x]! ≤ key d[y]!) : Srt key r d' a b := by
  obtain ⟨p1, p2, p3, p4⟩ := rot_parts C
  have hx := rot_cross C H2
  obtain ⟨R, hs, hsm, hme, heb, HL, HR, HU, H1⟩ := C
  refine srt_join (c := s + (e - m)) (d := d) (by omega) (by omega) ?_ ?_ hx
  · refine srt_join (c := s) (d := d) hs (by omega) p1 p2 fun i j h1 h2 h3 h4 => ?_
    rw [R.at_l h2, R.at_y h3 h4]
    exact t_of (HU _ _ h1 (by omega) (by omega)) (H3 _ _ h1 h2 (by omega) (by omega))
  · refine srt_join (c := e) (d := d) (by omega) heb p3 p4 fun i j h1 h2 h3 h4 => ?_
    rw [R.at_x h1 h2, R.at_r hsm hme h3]
    exact t_of (HU _ _ (by omega) (by omega) h4) (H4 _ _ (by omega) (by omega) h3 h4)
/-- The halves sorted, one behind the other, all is. -/
theorem rot_done (C : Cutting key r d d' a s m e b) (H2 : ∀ x y, a ≤ x → x < s → e ≤ y → y < b → key d[x]! ≤ key d[y]!) {c : Nat} (hc : c = s + (e - m)) {d2 d3 : Array α} (M2 : Mv d' d2 a c) (S2 : Srt key r d2 a c) (M3 : Mv d2 d3 c b) (S3 : Srt key r d3 c b) : Srt key r d3 a b ∧ Mv d d3 a b := by
  subst hc
  have hx := rot_cross C H2
  obtain ⟨R, hs, hsm, hme, heb, HL, HR, HU, H1⟩ := C
  refine ⟨srt_join (c := s + (e - m)) (d := d) (by omega) (by omega) (srt_same S2 fun i h1 h2 => M3.out i (by omega)) S3 fun i j h1 h2 h3 h4 => ?_, ((R.mv hsm hme).mono hs heb).trans ((M2.mono (Nat.le_refl _) (by omega)).trans (M3.mono (by omega) (Nat.le_refl _)))⟩
  rw [M3.out i (by omega)]
  obtain ⟨i', i1, i2, ei⟩ := M2.into i h1 h2
  obtain ⟨j', j1, j2, ej⟩ := M3.into j h3 h4
  rw [ei, ej, M2.out j' (by omega)]
  exact hx i' j' i1 i2 j1 j2
theorem left_pre (C : Cutting key r d d' a s m e b) : Srt key r d' a s ∧ Srt key r d' s (s + (e - m)) ∧ Stb key r d' a (s + (e - m)) := ⟨(rot_parts C).1, (rot_parts C).2.1, rot_stb_l C⟩
theorem left_none (C : Cutting key r d d' a s m e b) (h : ¬ (a < s ∧ s < s + (e - m))) : Srt key r d' a (s + (e - m)) := by
  have hs := C.hs
  have hp := rot_parts C
  by_cases h1 : a < s
  · have : s + (e - m) = s := by omega
    rw [this]; exact hp.1
  · have : a = s := by omega
    subst this; exact hp.2.1
theorem right_pre (C : Cutting key r d d' a s m e b) {d2 : Array α} (M : Mv d' d2 a (s + (e - m))) : Srt key r d2 (s + (e - m)) e ∧ Srt key r d2 e b ∧ Stb key r d2 (s + (e - m)) b := by
  have hsm := C.hsm
  have hme := C.hme
  have hp := rot_parts C
  have hu := rot_stb_r C
  refine ⟨srt_same hp.2.2.1 fun i h1 h2 => M.out i (by omega), srt_same hp.2.2.2 fun i h1 h2 => M.out i (by omega), fun i j h1 h2 h3 => ?_⟩
  rw [M.out i (by omega), M.out j (by omega)]; exact hu i j h1 h2 h3
theorem right_none (C : Cutting key r d d' a s m e b) {d2 : Array α} (M : Mv d' d2 a (s + (e - m))) (h : ¬ (s + (e - m) < e ∧ e < b)) : Srt key r d2 (s + (e - m)) b := by
  have hsm := C.hsm
  have hme := C.hme
  have heb := C.heb
  obtain ⟨p1, p2, -⟩ := right_pre C M
  by_cases h1 : s + (e - m) < e
  · have : e = b := by omega
    subst this; exact p1
  · have : s + (e - m) = e := by omega
    rw [this]; exact p2
end

/-! ### The insertion sort -/
theorem insInner_spec {lt : α → α → Bool} (hlt : ∀ x y, lt x y = decide (key x < key y)) {a i : Nat} (hai : a ≤ i) : ∀ (j : Nat) (d : Array α), i < d.size → j ≤ i → a ≤ j →
    (∀ p q, a ≤ p → p < q → q ≤ i → p ≠ j → q ≠ j → T key r d[p]! d[q]!) → (∀ q, j < q → q ≤ i → key d[j]! < key d[q]!) → Stb key r d a (i + 1) →
    Srt key r (insInner lt a j d) a (i + 1) ∧ Mv d (insInner lt a j d) a (i + 1) := by
  intro j
  induction j with
  | zero =>
    intro d hi hj ha hT hK hU
    refine ⟨fun p q h1 h2 h3 => ?_, Mv.refl _ _ _⟩
    show T key r d[p]! d[q]!
    by_cases hp : p = 0
    · subst hp; exact .inl (hK q (by omega) (by omega))
    · exact hT p q h1 h2 (by omega) hp (by omega)
  | succ j ih =>
    intro d hi hj ha hT hK hU
    unfold insInner
    by_cases hc : (decide (j + 1 > a) && lt d[j + 1]! d[j]!) = true
    · rw [if_pos hc]
      rw [Bool.and_eq_true, decide_eq_true_eq, hlt, decide_eq_true_eq] at hc
      have g := fun k => swp_get d (j + 1) j k (by omega) (by omega)
      have hU2 : Stb key r (swp d (j + 1) j) a (i + 1) := fun p q h1 h2 h3 => by
        rw [g p, g q]
        by_cases p1 : p = j
        · subst p1
          by_cases q1 : q = p + 1
          · subst q1
            rw [if_pos rfl, if_neg (by omega), if_pos rfl]
            intro e; omega
          · rw [if_pos rfl, if_neg (by omega), if_neg q1]; exact hU _ q (by omega) (by omega) h3
        · by_cases p2 : p = j + 1
          · rw [if_neg p1, if_pos p2, if_neg (by omega), if_neg (by omega)]; exact hU j q (by omega) (by omega) h3
          · rw [if_neg p1, if_neg p2]
            by_cases q1 : q = j
            · rw [if_pos q1]; exact hU p _ h1 (by omega) (by omega)
            · rw [if_neg q1]
              by_cases q2 : q = j + 1
              · rw [if_pos q2]; exact hU p j h1 (by omega) (by omega)
              · rw [if_neg q2]; exact hU p q h1 h2 h3
      obtain ⟨r1, r2⟩ := ih (swp d (j + 1) j) (by rw [swp_size]; omega) (by omega) (by omega)
        (fun p q h1 h2 h3 p1 q1 => by
          rw [g p, g q, if_neg p1, if_neg q1]
          by_cases p2 : p = j + 1
          · rw [if_pos p2, if_neg (by omega)]; exact hT j q (by omega) (by omega) h3 (by omega) (by omega)
          · rw [if_neg p2]
            by_cases q2 : q = j + 1
            · rw [if_pos q2]; exact hT p j h1 (by omega) (by omega) p2 (by omega)
            · rw [if_neg q2]; exact hT p q h1 h2 h3 p2 q2)
        (fun q h1 h2 => by
          rw [g j, g q, if_pos rfl, if_neg (by omega)]
          by_cases q2 : q = j + 1
          · rw [if_pos q2]; exact hc.2
          · rw [if_neg q2]; exact hK q (by omega) h2) hU2
      refine ⟨r1, Mv.trans ⟨swp_size _ _ _, fun k hk => ?_, fun k k1 k2 => ?_, swp_perm _ _ _ (by omega) (by omega)⟩ r2⟩
      · rw [g k, if_neg (by omega), if_neg (by omega)]
      · rw [g k]
        by_cases q1 : k = j
        · rw [if_pos q1]; exact ⟨j + 1, by omega, by omega, rfl⟩
        · rw [if_neg q1]
          by_cases q2 : k = j + 1
          · rw [if_pos q2]; exact ⟨j, by omega, by omega, rfl⟩
          · rw [if_neg q2]; exact ⟨k, k1, k2, rfl⟩
    · rw [if_neg hc]
      have hc' : j + 1 = a ∨ key d[j]! ≤ key d[j + 1]! := by
        rw [Bool.and_eq_true, decide_eq_true_eq, hlt, decide_eq_true_eq] at hc
        omega
      refine ⟨fun p q h1 h2 h3 => ?_, Mv.refl _ _ _⟩
      by_cases p1 : p = j + 1
      · rw [p1]; exact .inl (hK q (by omega) (by omega))
      · by_cases q1 : q = j + 1
        · have hle : key d[p]! ≤ key d[j]! := by
            by_cases e : p = j
            · rw [e]; exact Int.le_refl _
            · exact (hT p j h1 (by omega) (by omega) p1 (by omega)).le
          rw [q1]
          exact t_of (hU p (j + 1) h1 (by omega) (by omega)) (by omega)
        · exact hT p q h1 h2 (by omega) p1 q1
theorem insOuter_spec {lt : α → α → Bool} (hlt : ∀ x y, lt x y = decide (key x < key y)) {a b : Nat} : ∀ (k i : Nat) (d : Array α), b - i ≤ k → a ≤ i → i ≤ b → b ≤ d.size → Srt key r d a i → Stb key r d a b →
    Srt key r (insOuter lt a b i d) a b ∧ Mv d (insOuter lt a b i d) a b := by
  intro k
  induction k with
  | zero =>
    intro i d hk ha hi hb hS hU
    have : i = b := by omega
    subst this
    rw [insOuter, if_neg (by omega)]
    exact ⟨hS, Mv.refl _ _ _⟩
  | succ k ih =>
    intro i d hk ha hi hb hS hU
    rw [insOuter]
    by_cases h : i < b
    · rw [if_pos h]
      obtain ⟨s1, m1⟩ := insInner_spec (r := r) hlt ha i d (by omega) (Nat.le_refl _) ha (fun p q h1 h2 h3 p1 q1 => hS p q h1 h2 (by omega)) (fun q h1 h2 => by omega) (hU.mono (Nat.le_refl _) h)
      obtain ⟨s2, m2⟩ := ih (i + 1) (insInner lt a i d) (by omega) (by omega) h (by rw [m1.size]; exact hb) s1 (stb_moved hU m1 (Nat.le_refl _) h s1.stb)
      exact ⟨s2, (m1.mono (Nat.le_refl _) h).trans m2⟩
    · rw [if_neg h]
      have : i = b := by omega
      subst this
      exact ⟨hS, Mv.refl _ _ _⟩
theorem ins_spec {lt : α → α → Bool} (hlt : ∀ x y, lt x y = decide (key x < key y)) {a b : Nat} {d : Array α} (hab : a ≤ b) (hb : b ≤ d.size) (hU : Stb key r d a b) : Srt key r (insertionSort lt d a b) a b ∧ Mv d (insertionSort lt d a b) a b := by
  unfold insertionSort
  by_cases h : a < b
  · exact insOuter_spec hlt (b - (a + 1)) (a + 1) d (by omega) (by omega) h hb (srt_one _ (by omega)) hU
  · have : a = b := by omega
    subst this
    rw [insOuter, if_neg (by omega)]
    exact ⟨srt_one _ (by omega), Mv.refl _ _ _⟩
end Stab
end Go.Proofs.Ytnnphpfobdcmbaa
