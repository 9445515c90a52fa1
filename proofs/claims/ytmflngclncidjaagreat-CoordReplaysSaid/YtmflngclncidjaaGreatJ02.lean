/-
  SEVERAL TEXTS IN ONE FILE: SpaPlain.
-/
import Derived.Test.YtmflngclncidjaaGreatJ01
/-
  span IN PLAIN, further: parts, cuts, what is given and taken, how many blocks one has.
-/
namespace Go.Proofs.YtmflngclncidjaaGreat
open Go.RowKit Mem
namespace Spa

/-! ### Lists whose spans are changed but not moved -/
theorem Ch.map_ {l : List Sp} {e e' : Int} (h : Ch e l e') (f : Sp → Sp) (hf : ∀ s, (f s).fr = s.fr ∧ (f s).to = s.to) : Ch e (l.map f) e' := by
  induction l generalizing e with
  | nil => exact h
  | cons s r ih =>
    have := hf s
    refine ⟨this.1.trans h.1, by rw [this.1, this.2]; exact h.2.1, ?_⟩
    show Ch (f s).to _ _
    rw [this.2]; exact ih h.2.2
theorem who_map {l : List Sp} {f : Sp → Sp} (hf : ∀ s, (f s).fr = s.fr ∧ (f s).to = s.to) (k : Int) : who (l.map f) k = (findS l k).map (fun s => ((f s).own, (f s).ep)) := by
  induction l with
  | nil => rfl
  | cons s r ih =>
    have := hf s
    rw [List.map_cons, who_cons, findS_cons, this.1, this.2, ih]
    split <;> rfl

/-! ### Parts -/
def clip (a b : Int) (s : Sp) : Sp := ⟨max s.fr a, min s.to b, s.own, s.ep⟩
def full (s : Sp) : Bool := decide (s.fr < s.to)
def partsS (l : List Sp) (a b : Int) : List Sp := (l.map (clip a b)).filter full
def rangeB (l : List Sp) (a b : Int) : Bool := okS l && (!decide (a < 0) && (!decide (b ≤ a) && !decide (endF 0 l < b)))
def partsP (l : List Sp) (a b : Int) : List Sp × Int := bif rangeB l a b then (partsS l a b, 0) else ([], 1)
theorem rangeB_iff {l : List Sp} {a b : Int} : rangeB l a b = true ↔ okS l = true ∧ 0 ≤ a ∧ a < b ∧ b ≤ endF 0 l := by
  unfold rangeB
  simp only [Bool.and_eq_true, Bool.not_eq_true', decide_eq_false_iff_not, Int.not_lt, Int.not_le]
theorem partsS_cons (s : Sp) (r : List Sp) (a b : Int) : partsS (s :: r) a b = if max s.fr a < min s.to b then clip a b s :: partsS r a b else partsS r a b := by
  unfold partsS
  rw [List.map_cons, List.filter_cons]
  by_cases h : max s.fr a < min s.to b
  · rw [if_pos h, if_pos (by unfold full; exact decide_eq_true h)]
  · rw [if_neg h, if_neg (by unfold full; rw [decide_eq_true_eq]; exact h)]
theorem partsS_none {l : List Sp} {a b : Int} (h : ∀ s ∈ l, min s.to b ≤ max s.fr a) : partsS l a b = [] := by
  induction l with
  | nil => rfl
  | cons s r ih =>
    rw [partsS_cons, if_neg (by have := h s (by simp); omega)]
    exact ih (fun x hx => h x (by simp [hx]))
theorem partsS_all {l : List Sp} {a b : Int} (h : ∀ s ∈ l, max s.fr a < min s.to b) : partsS l a b = l.map (clip a b) := by
  induction l with
  | nil => rfl
  | cons s r ih =>
    rw [partsS_cons, if_pos (h s (by simp)), ih (fun x hx => h x (by simp [hx]))]; rfl
theorem partsS_self (l : List Sp) (a : Int) : partsS l a a = [] := partsS_none (fun s _ => by omega)
theorem partsS_app (l r : List Sp) (a b : Int) : partsS (l ++ r) a b = partsS l a b ++ partsS r a b := by
  unfold partsS; rw [List.map_append, List.filter_append]
theorem partsS_who (l : List Sp) (a b k : Int) : who (partsS l a b) k = if a ≤ k ∧ k < b then who l k else none := by
  induction l with
  | nil => simp [partsS, who_nil]
  | cons s r ih =>
    rw [partsS_cons]
    by_cases hk : a ≤ k ∧ k < b
    · rw [if_pos hk] at ih ⊢
      rw [who_cons]
      by_cases h : max s.fr a < min s.to b
      · rw [if_pos h, who_cons, ih]
        by_cases h2 : s.fr ≤ k ∧ k < s.to
        · rw [if_pos h2, if_pos (by simp only [clip]; omega)]; rfl
        · rw [if_neg h2, if_neg (by simp only [clip]; omega)]
      · rw [if_neg h, ih, if_neg (by omega)]
    · rw [if_neg hk] at ih ⊢
      split
      · rw [who_cons, if_neg (by simp only [clip]; omega), ih]
      · exact ih
theorem partsS_may {l : List Sp} (h : May l) (a b : Int) : May (partsS l a b) := by
  intro s hs
  obtain ⟨x, hx, rfl⟩ := List.mem_map.1 (List.mem_filter.1 hs).1
  exact h x hx
theorem partsS_len (l : List Sp) (a b : Int) : (partsS l a b).length ≤ l.length := by
  unfold partsS
  exact Nat.le_trans (List.length_filter_le _ _) (by simp)
theorem partsS_ch0 {l : List Sp} {e e' a b : Int} (h : Ch e l e') (hab : a < b) (h1 : e < b) (h2 : a < e') : Ch (max e a) (partsS l a b) (min e' b) := by
  induction l generalizing e with
  | nil => have : e = e' := h; subst this; show max e a = min e b; omega
  | cons s r ih =>
    have e1 := h.1
    have e2 := h.2.1
    have e3 := h.2.2.le
    rw [partsS_cons]
    by_cases hf : max s.fr a < min s.to b
    · rw [if_pos hf]
      refine ⟨by simp only [clip]; omega, by simp only [clip]; omega, ?_⟩
      show Ch (min s.to b) _ _
      by_cases hb : b ≤ s.to
      · rw [partsS_none (fun x hx => by have := h.2.2.mem hx; omega)]
        show min s.to b = min e' b; omega
      · by_cases hn : s.to < e'
        · have := ih h.2.2 (by omega)
          rwa [show max s.to a = min s.to b by omega] at this
        · rcases r with _ | ⟨y, r⟩
          · have : s.to = e' := h.2.2
            show min s.to b = min e' b; omega
          · have := h.2.2.lt (by simp); omega
    · rw [if_neg hf]
      have := ih h.2.2 (by omega)
      rwa [show max s.to a = max e a by omega] at this
theorem partsS_ch {l : List Sp} {e e' a b : Int} (h : Ch e l e') (hab : a ≤ b) (h1 : e ≤ a) (h2 : b ≤ e') : Ch a (partsS l a b) b := by
  by_cases hE : a = b
  · subst hE; rw [partsS_self]; rfl
  · have := partsS_ch0 h (by omega : a < b) (by omega) (by omega)
    rwa [show max e a = a by omega, show min e' b = b by omega] at this
/-- Where a span stands that has a block. -/
structure Place (l : List Sp) (k : Int) (i : Nat) : Prop where
  le : i ≤ l.length
  lo : ∀ t x, t < i → l[t]? = some x → x.to ≤ k
  hi : ∀ t x, i ≤ t → l[t]? = some x → k < x.to
theorem ch_next {l : List Sp} {e e' : Int} (h : Ch e l e') {i : Nat} {x y : Sp} (hx : l[i]? = some x) (hy : l[i + 1]? = some y) : y.fr = x.to := by
  induction l generalizing e i with
  | nil => simp at hx
  | cons s r ih =>
    rcases i with _ | i
    · simp only [List.getElem?_cons_zero, Option.some.injEq] at hx
      subst hx
      rcases r with _ | ⟨z, r⟩
      · simp at hy
      · simp only [Nat.zero_add, List.getElem?_cons_succ, List.getElem?_cons_zero, Option.some.injEq] at hy
        subst hy
        exact h.2.2.1
    · exact ih h.2.2 (by simpa using hx) (by simpa using hy)
theorem ch_first {l : List Sp} {e e' : Int} (h : Ch e l e') {x : Sp} (hx : l[0]? = some x) : x.fr = e := by
  rcases l with _ | ⟨s, r⟩
  · simp at hx
  · simp at hx; subst hx; exact h.1
theorem ch_order {l : List Sp} {e e' : Int} (h : Ch e l e') {i j : Nat} (hij : i < j) {x y : Sp} (hx : l[i]? = some x) (hy : l[j]? = some y) : x.to ≤ y.fr := by
  induction l generalizing e i j with
  | nil => simp at hx
  | cons s r ih =>
    rcases j with _ | j
    · omega
    · rcases i with _ | i
      · simp only [List.getElem?_cons_zero, Option.some.injEq] at hx
        subst hx
        exact (h.2.2.mem (List.mem_of_getElem? (by simpa using hy))).1
      · exact ih h.2.2 (i := i) (j := j) (by omega) (by simpa using hx) (by simpa using hy)
theorem ch_at {l : List Sp} {e e' : Int} (h : Ch e l e') {i : Nat} {x : Sp} (hx : l[i]? = some x) : e ≤ x.fr ∧ x.fr < x.to ∧ x.to ≤ e' := h.mem (List.mem_of_getElem? hx)
theorem place_in {l : List Sp} {e e' k : Int} {i : Nat} (h : Ch e l e') (hp : Place l k i) (h1 : e ≤ k) (h2 : k < e') : ∃ x, l[i]? = some x ∧ x.fr ≤ k ∧ k < x.to := by
  obtain ⟨s, hs⟩ := findS_in h h1 h2
  obtain ⟨hm, hf, ht⟩ := findS_some hs
  obtain ⟨j, hj⟩ := List.mem_iff_getElem?.1 hm
  have hij : i ≤ j := by
    rcases Nat.lt_or_ge j i with h3 | h3
    · have := hp.lo j s h3 hj; omega
    · exact h3
  have hjl := (List.getElem?_eq_some_iff.1 hj).1
  have hx : l[i]? = some l[i] := List.getElem?_eq_getElem (by omega)
  refine ⟨_, hx, ?_, hp.hi i _ (Nat.le_refl _) hx⟩
  rcases Nat.eq_or_lt_of_le hij with h3 | h3
  · subst h3; rw [hj] at hx; injection hx with hx; rw [← hx]; exact hf
  · have := ch_order h h3 hx hj
    have := ch_at h hx
    omega
theorem place_find {l : List Sp} {e e' k : Int} {i : Nat} (h : Ch e l e') (hp : Place l k i) (h1 : e ≤ k) (h2 : k < e') : findS l k = l[i]? := by
  obtain ⟨x, hx, hf, ht⟩ := place_in h hp h1 h2
  obtain ⟨s, hs⟩ := findS_in h h1 h2
  obtain ⟨hm, hf2, ht2⟩ := findS_some hs
  obtain ⟨j, hj⟩ := List.mem_iff_getElem?.1 hm
  rw [hs, hx]
  rcases Nat.lt_trichotomy i j with h3 | h3 | h3
  · have := ch_order h h3 hx hj; omega
  · subst h3; rw [hj] at hx; exact hx
  · have := ch_order h h3 hj hx; omega
/-- The spans between two places, the first one's beginning and the last one's end cut. -/
def between (l : List Sp) (i j : Nat) : List Sp := (l.drop i).take (j + 1 - i)
theorem between_get (l : List Sp) (i j t : Nat) (hij : i ≤ j) : (between l i j)[t]? = if t ≤ j - i then l[i + t]? else none := by
  unfold between
  rw [List.getElem?_take, List.getElem?_drop]
  by_cases h : t ≤ j - i
  · rw [if_pos h, if_pos (by omega)]
  · rw [if_neg h, if_neg (by omega)]
theorem parts_between {l : List Sp} {e e' a b : Int} {i j : Nat} (h : Ch e l e') (hab : a < b) (h1 : e ≤ a) (h2 : b ≤ e') (hi : Place l a i) (hj : Place l (b - 1) j) : i ≤ j ∧ j < l.length ∧ partsS l a b = (between l i j).map (clip a b) := by
  obtain ⟨x, hx, hx1, hx2⟩ := place_in h hi h1 (by omega)
  obtain ⟨y, hy, hy1, hy2⟩ := place_in h hj (by omega) (by omega)
  have hij : i ≤ j := by
    rcases Nat.lt_or_ge j i with h3 | h3
    · have := ch_order h h3 hy hx; omega
    · exact h3
  have hjl := (List.getElem?_eq_some_iff.1 hy).1
  refine ⟨hij, hjl, ?_⟩
  have e1 : l = l.take i ++ (between l i j ++ l.drop (j + 1)) := by
    unfold between
    rw [show l.drop (j + 1) = (l.drop i).drop (j + 1 - i) by rw [List.drop_drop, show i + (j + 1 - i) = j + 1 by omega], List.take_append_drop, List.take_append_drop]
  conv => lhs; rw [e1]
  rw [partsS_app, partsS_app, partsS_none, partsS_all, partsS_none, List.nil_append, List.append_nil]
  · intro s hs
    obtain ⟨t, ht⟩ := List.mem_iff_getElem?.1 hs
    rw [List.getElem?_drop] at ht
    have := ch_order h (by omega : j < j + 1 + t) hy ht
    omega
  · intro s hs
    obtain ⟨t, ht⟩ := List.mem_iff_getElem?.1 hs
    rw [between_get _ _ _ _ hij] at ht
    split at ht
    · have h3 := ch_at h ht
      have h4 := hi.hi _ _ (by omega : i ≤ i + t) ht
      rcases Nat.lt_or_ge (i + t) j with h5 | h5
      · have := ch_order h h5 ht hy
        omega
      · rw [show i + t = j by omega, hy] at ht
        injection ht with ht; subst ht
        omega
    · cases ht
  · intro s hs
    obtain ⟨t, ht⟩ := List.mem_iff_getElem?.1 hs
    rw [List.getElem?_take] at ht
    split at ht
    · have := hi.lo t s (by assumption) ht; omega
    · cases ht
def putFr (x : Sp) (a : Int) : Sp := ⟨a, x.to, x.own, x.ep⟩
def putFirst (l : List Sp) (a : Int) : List Sp := match l with | [] => [] | x :: r => putFr x a :: r
def putLast (l : List Sp) (b : Int) : List Sp := match l.getLast? with | none => [] | some x => l.dropLast ++ [longer x b]
theorem parts_code {l : List Sp} {e e' a b : Int} {i j : Nat} (h : Ch e l e') (hab : a < b) (h1 : e ≤ a) (h2 : b ≤ e') (hi : Place l a i) (hj : Place l (b - 1) j)
    {x y : Sp} (hx : (between l i j)[0]? = some x) (hy : ((between l i j).set 0 (putFr x a))[j - i]? = some y) :
    partsS l a b = ((between l i j).set 0 (putFr x a)).set (j - i) (longer y b) := by
  obtain ⟨hij, hjl, e1⟩ := parts_between h hab h1 h2 hi hj
  obtain ⟨u, hu, hu1, hu2⟩ := place_in h hi h1 (by omega)
  obtain ⟨v, hv, hv1, hv2⟩ := place_in h hj (by omega) (by omega)
  have hlen : (between l i j).length = j + 1 - i := by unfold between; rw [List.length_take, List.length_drop]; omega
  rw [e1]
  apply List.ext_getElem?
  intro t
  rw [List.getElem?_map, List.getElem?_set, List.getElem?_set, List.length_set, hlen]
  have hx' := hx
  rw [between_get _ _ _ _ hij, if_pos (by omega), Nat.add_zero, hu] at hx'
  injection hx' with hx'
  subst hx'
  rw [List.getElem?_set, hlen] at hy
  by_cases ht : j - i = t
  · subst ht
    rw [if_pos rfl, if_pos (by omega), between_get _ _ _ _ hij, if_pos (Nat.le_refl _), show i + (j - i) = j by omega, hv]
    by_cases h0 : 0 = j - i
    · rw [if_pos h0, if_pos (by omega)] at hy
      have hji : j = i := by omega
      subst hji
      rw [hu] at hv
      injection hv with hv
      injection hy with hy
      subst hv hy
      simp only [Option.map_some, clip, longer, putFr]
      rw [show max u.fr a = a by omega, show min u.to b = b by omega]
    · rw [if_neg h0, between_get _ _ _ _ hij, if_pos (Nat.le_refl _), show i + (j - i) = j by omega, hv] at hy
      injection hy with hy
      subst hy
      have := ch_order h (by omega : i < j) hu hv
      simp only [Option.map_some, clip, longer]
      rw [show max v.fr a = v.fr by omega, show min v.to b = b by omega]
  · rw [if_neg ht]
    by_cases h0 : 0 = t
    · subst h0
      rw [if_pos rfl, if_pos (by omega), hx]
      have := ch_order h (by omega : i < j) hu hv
      simp only [Option.map_some, clip, putFr]
      rw [show max u.fr a = a by omega, show min u.to b = u.to by omega]
    · rw [if_neg h0, between_get _ _ _ _ hij]
      split
      · rcases hs : l[i + t]? with _ | s
        · rfl
        · have h3 := ch_order h (by omega : i < i + t) hu hs
          have h4 := ch_order h (by omega : i + t < j) hs hv
          simp only [Option.map_some, clip]
          rw [show max s.fr a = s.fr by omega, show min s.to b = s.to by omega]
      · rfl
theorem between_may {l : List Sp} {i j : Nat} (h : May l) : May (between l i j) := fun s hs => h s (List.mem_of_mem_drop (List.mem_of_mem_take hs))

/-! ### Cut -/
def splitS (p : Int) (s : Sp) : List Sp := bif decide (s.fr < p) && decide (p < s.to) then [longer s p, putFr s p] else [s]
def cutS (l : List Sp) (p : Int) : List Sp := l.flatMap (splitS p)
def cutsS (l : List Sp) (ps : List Int) : List Sp := ps.foldl cutS l
def atB (l : List Sp) (ps : List Int) : Bool := ps.any (fun p => decide (p ≤ 0) || decide (endF 0 l ≤ p))
def cutP (l : List Sp) (ps : List Int) : List Sp × Int := bif okS l && !atB l ps then (cutsS l ps, 0) else ([], 1)
theorem splitS_pos {p : Int} {s : Sp} (h : s.fr < p ∧ p < s.to) : splitS p s = [longer s p, putFr s p] := by
  unfold splitS; rw [decide_eq_true h.1, decide_eq_true h.2]; rfl
theorem splitS_neg {p : Int} {s : Sp} (h : ¬ (s.fr < p ∧ p < s.to)) : splitS p s = [s] := by
  unfold splitS
  rcases e : (decide (s.fr < p) && decide (p < s.to))
  · rfl
  · simp only [Bool.and_eq_true, decide_eq_true_eq] at e; exact absurd e h
theorem cutS_cons (s : Sp) (r : List Sp) (p : Int) : cutS (s :: r) p = splitS p s ++ cutS r p := List.flatMap_cons
theorem cutS_app (a b : List Sp) (p : Int) : cutS (a ++ b) p = cutS a p ++ cutS b p := List.flatMap_append
theorem cutS_id {l : List Sp} {p : Int} (h : ∀ s ∈ l, ¬ (s.fr < p ∧ p < s.to)) : cutS l p = l := by
  induction l with
  | nil => rfl
  | cons s r ih => rw [cutS_cons, splitS_neg (h s (by simp)), ih (fun x hx => h x (by simp [hx]))]; rfl
theorem cutS_ch {l : List Sp} {e e' : Int} (h : Ch e l e') (p : Int) : Ch e (cutS l p) e' := by
  induction l generalizing e with
  | nil => exact h
  | cons s r ih =>
    rw [cutS_cons]
    by_cases hp : s.fr < p ∧ p < s.to
    · rw [splitS_pos hp]
      exact ⟨h.1, hp.1, rfl, hp.2, ih h.2.2⟩
    · rw [splitS_neg hp]
      exact ⟨h.1, h.2.1, ih h.2.2⟩
theorem cutS_who (l : List Sp) (p k : Int) : who (cutS l p) k = who l k := by
  induction l with
  | nil => rfl
  | cons s r ih =>
    rw [cutS_cons]
    by_cases hp : s.fr < p ∧ p < s.to
    · rw [splitS_pos hp]
      show who (longer s p :: putFr s p :: cutS r p) k = _
      rw [who_cons, who_cons, who_cons, ih]
      by_cases h1 : s.fr ≤ k ∧ k < p
      · rw [if_pos (show (longer s p).fr ≤ k ∧ k < (longer s p).to from h1), if_pos (by omega)]; rfl
      · rw [if_neg (show ¬ ((longer s p).fr ≤ k ∧ k < (longer s p).to) from h1)]
        by_cases h2 : p ≤ k ∧ k < s.to
        · rw [if_pos (show (putFr s p).fr ≤ k ∧ k < (putFr s p).to from h2), if_pos (by omega)]; rfl
        · rw [if_neg (show ¬ ((putFr s p).fr ≤ k ∧ k < (putFr s p).to) from h2), if_neg (by omega)]
    · rw [splitS_neg hp]
      show who (s :: cutS r p) k = _
      rw [who_cons, who_cons, ih]
theorem cutS_may {l : List Sp} (h : May l) (p : Int) : May (cutS l p) := by
  intro x hx
  obtain ⟨s, hs, hx⟩ := List.mem_flatMap.1 hx
  by_cases hp : s.fr < p ∧ p < s.to
  · rw [splitS_pos hp] at hx
    simp only [List.mem_cons, List.not_mem_nil, or_false] at hx
    rcases hx with rfl | rfl <;> exact h s hs
  · rw [splitS_neg hp, List.mem_singleton] at hx
    subst hx; exact h x hs
theorem cutS_len (l : List Sp) (p : Int) : (cutS l p).length ≤ 2 * l.length := by
  induction l with
  | nil => exact Nat.le_refl _
  | cons s r ih =>
    rw [cutS_cons, List.length_append, List.length_cons]
    by_cases hp : s.fr < p ∧ p < s.to
    · rw [splitS_pos hp]; simp only [List.length_cons, List.length_nil]; omega
    · rw [splitS_neg hp]; simp only [List.length_cons, List.length_nil]; omega
/-- Spans that may be are cut at one place at most once. -/
theorem cutS_len1 {l : List Sp} {e e' : Int} (h : Ch e l e') (p : Int) : (cutS l p).length ≤ l.length + 1 := by
  induction l generalizing e with
  | nil => exact Nat.zero_le _
  | cons s r ih =>
    rw [cutS_cons, List.length_append, List.length_cons]
    by_cases hp : s.fr < p ∧ p < s.to
    · rw [splitS_pos hp, cutS_id (fun x hx => by have := h.2.2.mem hx; omega)]; simp only [List.length_cons, List.length_nil]; omega
    · have := ih h.2.2
      rw [splitS_neg hp]; simp only [List.length_cons, List.length_nil]; omega
theorem cutsS_snoc (l : List Sp) (ps : List Int) (p : Int) : cutsS l (ps ++ [p]) = cutS (cutsS l ps) p := by unfold cutsS; rw [List.foldl_append]; rfl
theorem cutsS_ch {l : List Sp} {e e' : Int} (h : Ch e l e') (ps : List Int) : Ch e (cutsS l ps) e' := by
  induction ps generalizing l with
  | nil => exact h
  | cons p ps ih => exact ih (cutS_ch h p)
theorem cutsS_who (l : List Sp) (ps : List Int) (k : Int) : who (cutsS l ps) k = who l k := by
  induction ps generalizing l with
  | nil => rfl
  | cons p ps ih => exact (ih (cutS l p)).trans (cutS_who l p k)
theorem cutsS_may {l : List Sp} (h : May l) (ps : List Int) : May (cutsS l ps) := by
  induction ps generalizing l with
  | nil => exact h
  | cons p ps ih => exact ih (cutS_may h p)
theorem cutsS_len {l : List Sp} {e e' : Int} (h : Ch e l e') (ps : List Int) : (cutsS l ps).length ≤ l.length + ps.length := by
  induction ps generalizing l with
  | nil => exact Nat.le_refl _
  | cons p ps ih =>
    have := ih (cutS_ch h p)
    have := cutS_len1 h p
    show (cutsS (cutS l p) ps).length ≤ _
    simp only [List.length_cons]; omega
theorem cutS_clean {l : List Sp} {p q : Int} (h : ∀ s ∈ l, ¬ (s.fr < q ∧ q < s.to)) : ∀ s ∈ cutS l p, ¬ (s.fr < q ∧ q < s.to) := by
  intro x hx
  obtain ⟨s, hs, hx⟩ := List.mem_flatMap.1 hx
  have := h s hs
  by_cases hp : s.fr < p ∧ p < s.to
  · rw [splitS_pos hp] at hx
    simp only [List.mem_cons, List.not_mem_nil, or_false] at hx
    rcases hx with rfl | rfl <;> simp only [longer, putFr] <;> omega
  · rw [splitS_neg hp, List.mem_singleton] at hx
    subst hx; exact this
theorem cutS_cut (l : List Sp) (p : Int) : ∀ s ∈ cutS l p, ¬ (s.fr < p ∧ p < s.to) := by
  intro x hx
  obtain ⟨s, hs, hx⟩ := List.mem_flatMap.1 hx
  by_cases hp : s.fr < p ∧ p < s.to
  · rw [splitS_pos hp] at hx
    simp only [List.mem_cons, List.not_mem_nil, or_false] at hx
    rcases hx with rfl | rfl <;> simp only [longer, putFr] <;> omega
  · rw [splitS_neg hp, List.mem_singleton] at hx
    subst hx; exact hp
theorem cutsS_clean {l : List Sp} {q : Int} (ps : List Int) (h : ∀ s ∈ l, ¬ (s.fr < q ∧ q < s.to)) : ∀ s ∈ cutsS l ps, ¬ (s.fr < q ∧ q < s.to) := by
  induction ps generalizing l with
  | nil => exact h
  | cons p ps ih => exact ih (cutS_clean h)
theorem cutsS_cut (l : List Sp) (ps : List Int) {p : Int} (hp : p ∈ ps) : ∀ s ∈ cutsS l ps, ¬ (s.fr < p ∧ p < s.to) := by
  induction ps generalizing l with
  | nil => cases hp
  | cons q ps ih =>
    rcases List.mem_cons.1 hp with rfl | hp
    · exact cutsS_clean ps (cutS_cut l p)
    · exact ih _ hp
theorem cut_join {l : List Sp} {e e' : Int} (h : Ch e l e') (ps : List Int) : joinS (cutsS l ps) = joinS l := join_eq (cutsS_ch h ps) h (cutsS_who l ps)
/-- In whatever order. -/
theorem split_swap (p q : Int) (s : Sp) : (splitS p s).flatMap (splitS q) = (splitS q s).flatMap (splitS p) := by
  by_cases hp : s.fr < p ∧ p < s.to
  · by_cases hq : s.fr < q ∧ q < s.to
    · rw [splitS_pos hp, splitS_pos hq]
      simp only [List.flatMap_cons, List.flatMap_nil, List.append_nil]
      rcases Int.lt_trichotomy p q with h | h | h
      · rw [splitS_neg (p := q) (s := longer s p) (by simp only [longer]; omega), splitS_pos (p := q) (s := putFr s p) (by simp only [putFr]; omega), splitS_pos (p := p) (s := longer s q) (by simp only [longer]; omega), splitS_neg (p := p) (s := putFr s q) (by simp only [putFr]; omega)]
        rfl
      · subst h; rfl
      · rw [splitS_pos (p := q) (s := longer s p) (by simp only [longer]; omega), splitS_neg (p := q) (s := putFr s p) (by simp only [putFr]; omega), splitS_neg (p := p) (s := longer s q) (by simp only [longer]; omega), splitS_pos (p := p) (s := putFr s q) (by simp only [putFr]; omega)]
        rfl
    · rw [splitS_pos hp, splitS_neg hq]
      simp only [List.flatMap_cons, List.flatMap_nil, List.append_nil]
      rw [splitS_neg (p := q) (s := longer s p) (by simp only [longer]; omega), splitS_neg (p := q) (s := putFr s p) (by simp only [putFr]; omega), splitS_pos hp]
      rfl
  · by_cases hq : s.fr < q ∧ q < s.to
    · rw [splitS_neg hp, splitS_pos hq]
      simp only [List.flatMap_cons, List.flatMap_nil, List.append_nil]
      rw [splitS_neg (p := p) (s := longer s q) (by simp only [longer]; omega), splitS_neg (p := p) (s := putFr s q) (by simp only [putFr]; omega), splitS_pos hq]
      rfl
    · rw [splitS_neg hp, splitS_neg hq]
      simp only [List.flatMap_cons, List.flatMap_nil, List.append_nil]
      rw [splitS_neg hp, splitS_neg hq]
theorem cut_swap (l : List Sp) (p q : Int) : cutS (cutS l p) q = cutS (cutS l q) p := by
  unfold cutS
  rw [List.flatMap_assoc, List.flatMap_assoc]
  congr 1
  funext s
  exact split_swap p q s
theorem cuts_perm {ps qs : List Int} (h : ps.Perm qs) (l : List Sp) : cutsS l ps = cutsS l qs := by
  induction h generalizing l with
  | nil => rfl
  | cons p _ ih => exact ih (cutS l p)
  | swap p q r => show cutsS (cutS (cutS l q) p) r = cutsS (cutS (cutS l p) q) r; rw [cut_swap]
  | trans _ _ ih1 ih2 => exact (ih1 l).trans (ih2 l)
/-- As span cuts: once through, with the places in order. -/
def inC (rest : List Int → List Sp) : Sp → List Int → List Sp
  | s, [] => s :: rest []
  | s, p :: ps => bif decide (p < s.to) then (bif decide (s.fr < p) then longer s p :: inC rest (putFr s p) ps else inC rest s ps) else s :: rest (p :: ps)
def runC : List Sp → List Int → List Sp
  | [] => fun _ => []
  | s :: r => inC (runC r) s
theorem cutsS_keep {s : Sp} {r : List Sp} {ps : List Int} (h : ∀ q ∈ ps, ¬ (s.fr < q ∧ q < s.to)) : cutsS (s :: r) ps = s :: cutsS r ps := by
  induction ps generalizing r with
  | nil => rfl
  | cons p ps ih =>
    show cutsS (cutS (s :: r) p) ps = s :: cutsS (cutS r p) ps
    rw [cutS_cons, splitS_neg (h p (by simp))]
    exact ih (fun q hq => h q (by simp [hq]))
theorem runC_eq {l : List Sp} {e e' : Int} (h : Ch e l e') {ps : List Int} (hs : ps.Pairwise (· ≤ ·)) : runC l ps = cutsS l ps := by
  induction l generalizing e ps with
  | nil =>
    have : ∀ ps, cutsS [] ps = [] := by
      intro ps
      induction ps with
      | nil => rfl
      | cons p ps ih => exact ih
    rw [this]; rfl
  | cons s r ih =>
    show inC (runC r) s ps = _
    have h1 := h.2.1
    have h2 := h.2.2
    clear h
    induction ps generalizing s with
    | nil => show s :: runC r [] = _; rw [ih h2 hs]; rfl
    | cons p ps ihp =>
      unfold inC
      have hp := (List.pairwise_cons.1 hs).1
      have hs' := (List.pairwise_cons.1 hs).2
      by_cases c1 : p < s.to
      · rw [decide_eq_true c1, cond_true]
        by_cases c2 : s.fr < p
        · rw [decide_eq_true c2, cond_true, ihp (putFr s p) hs' c1 h2]
          show _ = cutsS (cutS (s :: r) p) ps
          rw [cutS_cons, splitS_pos ⟨c2, c1⟩, cutS_id (fun x hx => by have := h2.mem hx; omega)]
          symm
          exact cutsS_keep (fun q hq => by have := hp q hq; simp only [longer]; omega)
        · rw [decide_eq_false c2, cond_false, ihp s hs' h1 h2]
          show _ = cutsS (cutS (s :: r) p) ps
          rw [cutS_id (fun x hx => ?_)]
          rcases List.mem_cons.1 hx with rfl | hx
          · omega
          · have := h2.mem hx; omega
      · rw [decide_eq_false c1, cond_false, ih h2 hs]
        symm
        exact cutsS_keep (fun q hq => by
          rcases List.mem_cons.1 hq with rfl | hq
          · omega
          · have := hp q hq; omega)

/-! ### Given -/
def staleB (ps : List Sp) (o e : Int) : Bool := (o != -1) && ps.any (fun s => (s.own != -1) && decide (e ≤ s.ep))
def giveS (l : List Sp) (a b o e : Int) : List Sp := joinS (partsS l 0 a ++ [⟨a, b, o, e⟩] ++ partsS l b (endF 0 l))
def giveP (l : List Sp) (a b o e : Int) : List Sp × Int := bif rangeB l a b && mayOwn o e then (bif staleB (partsS l a b) o e then ([], 61) else (giveS l a b o e, 0)) else ([], 1)
def setS (a b o e : Int) (s : Sp) : Sp := bif decide (a ≤ s.fr) && decide (s.to ≤ b) then ⟨s.fr, s.to, o, e⟩ else s
def given (l : List Sp) (a b o e : Int) : List Sp := (cutS (cutS l a) b).map (setS a b o e)
theorem setS_at (a b o e : Int) (s : Sp) : (setS a b o e s).fr = s.fr ∧ (setS a b o e s).to = s.to := by
  unfold setS
  cases (decide (a ≤ s.fr) && decide (s.to ≤ b)) <;> exact ⟨rfl, rfl⟩
theorem lay_ch {l : List Sp} {N a b o e : Int} (h : Ch 0 l N) (h0 : 0 ≤ a) (hab : a < b) (hb : b ≤ N) : Ch 0 (partsS l 0 a ++ [⟨a, b, o, e⟩] ++ partsS l b N) N :=
  (Ch.app (Ch.app (m := a) (e' := b) (partsS_ch h h0 (Int.le_refl _) (by omega)) ⟨rfl, hab, rfl⟩) (partsS_ch h hb (by omega) (Int.le_refl _)))
theorem lay_who {l : List Sp} {N a b o e : Int} (h : Ch 0 l N) (h0 : 0 ≤ a) (hab : a < b) (hb : b ≤ N) (k : Int) :
    who (partsS l 0 a ++ [⟨a, b, o, e⟩] ++ partsS l b N) k = if a ≤ k ∧ k < b then some (o, e) else who l k := by
  have c1 := partsS_ch h h0 (Int.le_refl _) (by omega)
  have c2 : Ch a [⟨a, b, o, e⟩] b := ⟨rfl, hab, rfl⟩
  have c3 := partsS_ch h hb (by omega) (Int.le_refl _)
  rw [who_app (c1.app c2) c3, who_app c1 c2, partsS_who, partsS_who, who_cons, who_nil]
  simp only
  by_cases k1 : k < b
  · rw [if_pos k1]
    by_cases k2 : k < a
    · rw [if_pos k2, if_neg (by omega : ¬ (a ≤ k ∧ k < b))]
      by_cases k3 : 0 ≤ k
      · rw [if_pos ⟨k3, k2⟩]
      · rw [if_neg (by omega), who_out h (.inl (by omega))]
    · rw [if_neg k2, if_pos (by omega), if_pos (by omega)]
  · rw [if_neg k1, if_neg (by omega : ¬ (a ≤ k ∧ k < b))]
    by_cases k3 : k < N
    · rw [if_pos (by omega)]
    · rw [if_neg (by omega), who_out h (.inr (by omega))]
theorem giveS_ch {l : List Sp} {N a b o e : Int} (h : Ch 0 l N) (h0 : 0 ≤ a) (hab : a < b) (hb : b ≤ N) : Ch 0 (giveS l a b o e) N := by
  unfold giveS; rw [h.end_]; exact joinS_ch (lay_ch h h0 hab hb)
theorem giveS_who {l : List Sp} {N a b o e : Int} (h : Ch 0 l N) (h0 : 0 ≤ a) (hab : a < b) (hb : b ≤ N) (k : Int) : who (giveS l a b o e) k = if a ≤ k ∧ k < b then some (o, e) else who l k := by
  unfold giveS; rw [h.end_, joinS_who (lay_ch h h0 hab hb), lay_who h h0 hab hb]
theorem giveS_may {l : List Sp} {a b o e : Int} (h : May l) (ho : mayOwn o e = true) : May (giveS l a b o e) := by
  unfold giveS
  apply joinS_may
  intro s hs
  simp only [List.mem_append, List.mem_singleton] at hs
  rcases hs with (hs | rfl) | hs
  · exact partsS_may h _ _ s hs
  · exact ho
  · exact partsS_may h _ _ s hs
theorem given_ch {l : List Sp} {N a b o e : Int} (h : Ch 0 l N) : Ch 0 (given l a b o e) N := (cutS_ch (cutS_ch h a) b).map_ _ (setS_at a b o e)
theorem given_may {l : List Sp} {a b o e : Int} (h : May l) (ho : mayOwn o e = true) : May (given l a b o e) := by
  intro s hs
  obtain ⟨x, hx, rfl⟩ := List.mem_map.1 hs
  unfold setS
  rcases (decide (a ≤ x.fr) && decide (x.to ≤ b))
  · exact cutS_may (cutS_may h a) b x hx
  · exact ho
theorem given_who {l : List Sp} {N a b o e : Int} (h : Ch 0 l N) (k : Int) (h0 : 0 ≤ a) (hb : b ≤ N) : who (given l a b o e) k = if a ≤ k ∧ k < b then some (o, e) else who l k := by
  have c := cutS_ch (cutS_ch h a) b
  unfold given
  rw [who_map (setS_at a b o e), ← cutS_who l a k, ← cutS_who (cutS l a) b k]
  by_cases hk : 0 ≤ k ∧ k < N
  · obtain ⟨s, hs⟩ := findS_in c hk.1 hk.2
    obtain ⟨hm, h1, h2⟩ := findS_some hs
    have ca := cutS_clean (p := b) (cutS_cut l a) s hm
    have cb := cutS_cut (cutS l a) b s hm
    unfold who
    rw [hs]
    simp only [Option.map_some]
    by_cases hr : a ≤ k ∧ k < b
    · rw [if_pos hr]
      unfold setS
      rw [decide_eq_true (by omega : a ≤ s.fr), decide_eq_true (by omega : s.to ≤ b)]
      rfl
    · rw [if_neg hr]
      unfold setS
      have : (decide (a ≤ s.fr) && decide (s.to ≤ b)) = false := by
        rcases e : (decide (a ≤ s.fr) && decide (s.to ≤ b))
        · rfl
        · simp only [Bool.and_eq_true, decide_eq_true_eq] at e; omega
      rw [this]; rfl
  · rw [findS_out c (by omega), who_out c (by omega), if_neg (by omega)]; rfl
theorem given_join {l : List Sp} {N a b o e : Int} (h : Ch 0 l N) (h0 : 0 ≤ a) (hab : a < b) (hb : b ≤ N) : joinS (given l a b o e) = giveS l a b o e := by
  unfold giveS; rw [h.end_]
  exact join_eq (given_ch h) (lay_ch h h0 hab hb) (fun k => by rw [given_who h k h0 hb, lay_who h h0 hab hb])
theorem ok_ch {l : List Sp} (h : okS l = true) : Ch 0 l (endF 0 l) := (okS_iff.1 h).1
theorem ok_may {l : List Sp} (h : okS l = true) : May l := (okS_iff.1 h).2.1
theorem ok_pos {l : List Sp} (h : okS l = true) : 0 < endF 0 l := (ok_ch h).lt (okS_iff.1 h).2.2.1
theorem ok_le {l : List Sp} (h : okS l = true) : endF 0 l ≤ 1099511627776 := (okS_iff.1 h).2.2.2
theorem given_ok {l : List Sp} {a b o e : Int} (h : okS l = true) (ho : mayOwn o e = true) : okS (given l a b o e) = true :=
  okS_of (given_ch (ok_ch h)) (given_may (ok_may h) ho) (ok_pos h) (ok_le h)
theorem giveS_ok {l : List Sp} {a b o e : Int} (h : rangeB l a b = true) (ho : mayOwn o e = true) : okS (giveS l a b o e) = true ∧ endF 0 (giveS l a b o e) = endF 0 l := by
  obtain ⟨h1, h2, h3, h4⟩ := rangeB_iff.1 h
  have c := giveS_ch (o := o) (e := e) (ok_ch h1) h2 h3 h4
  exact ⟨okS_of c (giveS_may (ok_may h1) ho) (ok_pos h1) (ok_le h1), c.end_⟩

/-! ### Taken -/
def freeS (o : Int) (s : Sp) : Sp := bif s.own == o then ⟨s.fr, s.to, -1, 0⟩ else s
def takeS (l : List Sp) (o : Int) : List Sp := joinS (l.map (freeS o))
def wereS (l : List Sp) (o : Int) : List Sp := l.filter (fun s => s.own == o)
def takeP (l : List Sp) (o : Int) : List Sp × List Sp × Int := bif okS l && hostB o then (takeS l o, wereS l o, 0) else ([], [], 1)
theorem freeS_at (o : Int) (s : Sp) : (freeS o s).fr = s.fr ∧ (freeS o s).to = s.to := by
  unfold freeS; cases (s.own == o) <;> exact ⟨rfl, rfl⟩
theorem free_may {l : List Sp} (h : May l) (o : Int) : May (l.map (freeS o)) := by
  intro s hs
  obtain ⟨x, hx, rfl⟩ := List.mem_map.1 hs
  unfold freeS
  rcases (x.own == o)
  · exact h x hx
  · rfl
theorem takeS_ch {l : List Sp} {e e' : Int} (h : Ch e l e') (o : Int) : Ch e (takeS l o) e' := joinS_ch (h.map_ _ (freeS_at o))
theorem takeS_may {l : List Sp} (h : May l) (o : Int) : May (takeS l o) := joinS_may (free_may h o)
theorem free_ok {l : List Sp} (h : okS l = true) (o : Int) : okS (l.map (freeS o)) = true := okS_of ((ok_ch h).map_ _ (freeS_at o)) (free_may (ok_may h) o) (ok_pos h) (ok_le h)
theorem takeS_ok {l : List Sp} (h : okS l = true) (o : Int) : okS (takeS l o) = true := okS_of (takeS_ch (ok_ch h) o) (takeS_may (ok_may h) o) (ok_pos h) (ok_le h)
theorem takeS_who {l : List Sp} {e e' : Int} (h : Ch e l e') (o k : Int) : who (takeS l o) k = (who l k).map (fun x => bif x.1 == o then (-1, 0) else x) := by
  unfold takeS
  rw [joinS_who (h.map_ _ (freeS_at o)), who_map (freeS_at o)]
  unfold who
  rcases findS l k with _ | s
  · rfl
  · simp only [Option.map_some]
    unfold freeS
    rcases (s.own == o) <;> rfl
theorem joinS_ok {l : List Sp} (h : okS l = true) : okS (joinS l) = true := okS_of (joinS_ch (ok_ch h)) (joinS_may (ok_may h)) (ok_pos h) (ok_le h)
theorem joinS_end {l : List Sp} (h : okS l = true) : endF 0 (joinS l) = endF 0 l := (joinS_ch (ok_ch h)).end_
theorem cutsS_ok {l : List Sp} (h : okS l = true) (ps : List Int) : okS (cutsS l ps) = true := okS_of (cutsS_ch (ok_ch h) ps) (cutsS_may (ok_may h) ps) (ok_pos h) (ok_le h)

/-! ### How many blocks one has -/
def partO (o : Int) (s : Sp) : Int := bif s.own == o then s.to - s.fr else 0
def ownedS (l : List Sp) (o : Int) : Int := (l.map (partO o)).sum
def ownedP (l : List Sp) (o : Int) : Int := bif okS l then ownedS l o else 0
theorem ownedS_nil (o : Int) : ownedS [] o = 0 := rfl
theorem ownedS_cons (s : Sp) (r : List Sp) (o : Int) : ownedS (s :: r) o = partO o s + ownedS r o := by unfold ownedS; rw [List.map_cons, List.sum_cons]
theorem ownedS_app (a b : List Sp) (o : Int) : ownedS (a ++ b) o = ownedS a o + ownedS b o := by
  induction a with
  | nil => rw [List.nil_append, ownedS_nil]; omega
  | cons s r ih => rw [List.cons_append, ownedS_cons, ownedS_cons, ih]; omega
theorem partO_le {s : Sp} (h : s.fr < s.to) (o : Int) : 0 ≤ partO o s ∧ partO o s ≤ s.to - s.fr := by
  unfold partO
  rcases (s.own == o)
  · rw [cond_false]; omega
  · rw [cond_true]; omega
theorem ownedS_le {l : List Sp} {e e' : Int} (h : Ch e l e') (o : Int) : 0 ≤ ownedS l o ∧ ownedS l o ≤ e' - e := by
  induction l generalizing e with
  | nil => have : e = e' := h; rw [ownedS_nil]; omega
  | cons s r ih =>
    have h1 := ih h.2.2
    have h2 := partO_le h.2.1 o
    have h3 := h.1
    rw [ownedS_cons]; omega
theorem pushJ_owned {out : List Sp} {e m : Int} {s : Sp} (h : Ch e out m) (hs : s.fr = m) (o : Int) : ownedS (pushJ out s) o = ownedS (out ++ [s]) o := by
  rcases snoc_cases out with rfl | ⟨a, z, rfl⟩
  · rfl
  · obtain ⟨k, h1, h2, h3, h4⟩ := h.split
    have h4 : z.to = m := h4
    rw [pushJ_snoc]
    rcases e1 : sameO z s
    · rfl
    · have e2 := sameO_iff.1 e1
      rw [cond_true, List.append_assoc, ownedS_app, ownedS_app]
      simp only [List.singleton_append, ownedS_cons, ownedS_nil]
      have : partO o (longer z s.to) = partO o z + partO o s := by
        unfold partO longer
        simp only
        rw [e2.1]
        rcases (s.own == o)
        · rfl
        · simp only [cond_true]; omega
      rw [this]; omega
theorem joinF_owned {out l : List Sp} {e m e' : Int} (h : Ch e out m) (h2 : Ch m l e') (o : Int) : ownedS (joinF out l) o = ownedS (out ++ l) o := by
  induction l generalizing out m with
  | nil => rw [List.append_nil]; rfl
  | cons s r ih =>
    rw [joinF_cons, ih (pushJ_ch h h2.1 h2.2.1) h2.2.2, ownedS_app, pushJ_owned h h2.1, ← ownedS_app, List.append_assoc]; rfl
theorem joinS_owned {l : List Sp} {e e' : Int} (h : Ch e l e') (o : Int) : ownedS (joinS l) o = ownedS l o := joinF_owned (out := []) (m := e) rfl h o
end Spa
end Go.Proofs.YtmflngclncidjaaGreat
