/-
  lease IN PLAIN: leases, tables, which may be, and what each call comes to.
-/
import Derived.Test.YtehknenlifdchaaMem
namespace Go.Proofs.Ytehknenlifdchaa
open Go.RowKit Mem
namespace Lea
structure Lv where
  key : Int
  host : Int
  epoch : Int
  til : Int
structure Tv where
  last : Int
  now : Int
  l : List Lv
def zL : Lv := ⟨0, 0, 0, 0⟩
def zT : Tv := ⟨0, 0, []⟩
def errOf (b : Bool) : Int := bif b then 0 else 1
def hostB (h : Int) : Bool := decide (0 ≤ h) && decide (h < 8)
def ttlB (n : Int) : Bool := decide (1 ≤ n) && decide (n ≤ 1099511627776)
def mayB (last now : Int) (x : Lv) : Bool := decide (0 ≤ x.key) && (hostB x.host && (decide (1 ≤ x.epoch) && (decide (x.epoch ≤ last) && decide (now < x.til))))
def Rises (l : List Lv) : Prop := l.Pairwise (fun a b => a.key < b.key)
def Differ (l : List Lv) : Prop := (l.map Lv.epoch).Nodup
instance (l : List Lv) : Decidable (Rises l) := inferInstanceAs (Decidable (List.Pairwise _ _))
instance (l : List Lv) : Decidable (Differ l) := inferInstanceAs (Decidable (List.Nodup _))
def risesB (l : List Lv) : Bool := decide (Rises l)
def differB (l : List Lv) : Bool := decide (Differ l)
def okT (t : Tv) : Bool := !decide (t.last < 0) && (!decide (t.now < 0) && (risesB t.l && (differB t.l && t.l.all (mayB t.last t.now))))
theorem okT_iff {t : Tv} : okT t = true ↔ 0 ≤ t.last ∧ 0 ≤ t.now ∧ Rises t.l ∧ Differ t.l ∧ ∀ x ∈ t.l, mayB t.last t.now x = true := by
  unfold okT risesB differB
  simp only [Bool.and_eq_true, Bool.not_eq_true', decide_eq_false_iff_not, Int.not_lt, decide_eq_true_eq, List.all_eq_true]
theorem mayB_iff {last now : Int} {x : Lv} : mayB last now x = true ↔ 0 ≤ x.key ∧ (0 ≤ x.host ∧ x.host < 8) ∧ 1 ≤ x.epoch ∧ x.epoch ≤ last ∧ now < x.til := by
  unfold mayB hostB
  simp only [Bool.and_eq_true, decide_eq_true_eq]
theorem okT_rises {t : Tv} (h : okT t = true) : Rises t.l := (okT_iff.1 h).2.2.1
theorem okT_may {t : Tv} (h : okT t = true) {x : Lv} (hx : x ∈ t.l) : mayB t.last t.now x = true := (okT_iff.1 h).2.2.2.2 x hx

/-! ### Where a key stands -/
def heldB (l : List Lv) (key : Int) : Bool := l.any (fun x => x.key == key)
def findL (l : List Lv) (key : Int) : Option Lv := l.find? (fun x => x.key == key)
structure Place (l : List Lv) (key : Int) (k : Nat) : Prop where
  le : k ≤ l.length
  lo : ∀ t x, t < k → l[t]? = some x → x.key < key
  hi : ∀ t x, k ≤ t → l[t]? = some x → key ≤ x.key
theorem rises_lt {l : List Lv} (h : Rises l) {i j : Nat} {x y : Lv} (hij : i < j) (hx : l[i]? = some x) (hy : l[j]? = some y) : x.key < y.key := by
  obtain ⟨hi, rfl⟩ := List.getElem?_eq_some_iff.1 hx
  obtain ⟨hj, rfl⟩ := List.getElem?_eq_some_iff.1 hy
  exact List.pairwise_iff_getElem.1 h i j hi hj hij
theorem rises_inj {l : List Lv} (h : Rises l) {x y : Lv} (hx : x ∈ l) (hy : y ∈ l) (e : x.key = y.key) : x = y := by
  obtain ⟨i, hi⟩ := List.mem_iff_getElem?.1 hx
  obtain ⟨j, hj⟩ := List.mem_iff_getElem?.1 hy
  rcases Nat.lt_trichotomy i j with hij | hij | hij
  · have := rises_lt h hij hi hj; omega
  · subst hij; rw [hi] at hj; injection hj
  · have := rises_lt h hij hj hi; omega
theorem held_iff {l : List Lv} {key : Int} : heldB l key = true ↔ ∃ x ∈ l, x.key = key := by
  unfold heldB; simp only [List.any_eq_true, beq_iff_eq]
theorem held_false {l : List Lv} {key : Int} : heldB l key = false ↔ ∀ x ∈ l, x.key ≠ key := by
  unfold heldB; simp only [List.any_eq_false, beq_iff_eq, ne_eq]
theorem find_held {l : List Lv} {key : Int} : heldB l key = (findL l key).isSome := by
  unfold heldB findL
  rw [Bool.eq_iff_iff, List.any_eq_true, List.find?_isSome]
theorem find_some {l : List Lv} {key : Int} {x : Lv} (h : findL l key = some x) : x ∈ l ∧ x.key = key :=
  ⟨List.mem_of_find?_eq_some h, by simpa using List.find?_some h⟩
theorem find_none {l : List Lv} {key : Int} (h : heldB l key = false) : findL l key = none := by
  rw [find_held] at h; exact Option.not_isSome_iff_eq_none.1 (by simp [h])
theorem find_of {l : List Lv} (h : Rises l) {x : Lv} (hx : x ∈ l) : findL l x.key = some x := by
  rcases e : findL l x.key with _ | y
  · unfold findL at e
    rw [List.find?_eq_none] at e
    exact absurd (e x hx) (by simp)
  · have := find_some e
    rw [rises_inj h this.1 hx this.2]
theorem place_held {l : List Lv} {key : Int} {k : Nat} (hr : Rises l) (h : Place l key k) (hh : heldB l key = true) : ∃ x, l[k]? = some x ∧ x.key = key ∧ findL l key = some x := by
  obtain ⟨x, hx, rfl⟩ := held_iff.1 hh
  obtain ⟨i, hi⟩ := List.mem_iff_getElem?.1 hx
  have hki : k ≤ i := by
    rcases Nat.lt_or_ge i k with h1 | h1
    · have := h.lo i x h1 hi; omega
    · exact h1
  have hil := (List.getElem?_eq_some_iff.1 hi).1
  have hk : l[k]? = some l[k] := List.getElem?_eq_getElem (by omega)
  rcases Nat.eq_or_lt_of_le hki with h1 | h1
  · subst h1; exact ⟨x, hi, rfl, find_of hr hx⟩
  · have h2 := h.hi k _ (Nat.le_refl _) hk
    have h3 := rises_lt hr h1 hk hi
    omega
theorem place_at {l : List Lv} {key : Int} {k : Nat} {x : Lv} (hr : Rises l) (h : Place l key k) (hk : l[k]? = some x) : heldB l key = (x.key == key) := by
  rcases e : (x.key == key)
  · rcases e2 : heldB l key
    · rfl
    · obtain ⟨y, hy, h1, -⟩ := place_held hr h e2
      rw [hk] at hy; injection hy with hy; subst hy
      rw [h1] at e; simp at e
  · exact held_iff.2 ⟨x, List.mem_of_getElem? hk, by simpa using e⟩
theorem place_end {l : List Lv} {key : Int} {k : Nat} (hr : Rises l) (h : Place l key k) (hk : ¬ k < l.length) : heldB l key = false := by
  rcases e2 : heldB l key
  · rfl
  · obtain ⟨y, hy, -⟩ := place_held hr h e2
    exact absurd (List.getElem?_eq_some_iff.1 hy).1 hk
theorem place_take {l : List Lv} {key : Int} {k : Nat} (h : Place l key k) (p : Lv → Bool) (h1 : ∀ x, x.key < key → p x = true) (h2 : ∀ x, key ≤ x.key → p x = false) : l.take k = l.filter p := by
  conv => rhs; rw [← List.take_append_drop k l, List.filter_append]
  rw [List.filter_eq_self.2, List.filter_eq_nil_iff.2, List.append_nil]
  · intro x hx
    obtain ⟨i, hi⟩ := List.mem_iff_getElem?.1 hx
    rw [List.getElem?_drop] at hi
    rw [h2 x (h.hi _ x (by omega) hi)]; simp
  · intro x hx
    obtain ⟨i, hi⟩ := List.mem_iff_getElem?.1 hx
    rw [List.getElem?_take] at hi
    split at hi
    · exact h1 x (h.lo i x (by assumption) hi)
    · cases hi
theorem place_drop {l : List Lv} {key : Int} {k : Nat} (h : Place l key k) (p : Lv → Bool) (h1 : ∀ x ∈ l, key ≤ x.key → p x = true) (h2 : ∀ x, x.key < key → p x = false) : l.drop k = l.filter p := by
  conv => rhs; rw [← List.take_append_drop k l, List.filter_append]
  rw [List.filter_eq_nil_iff.2, List.filter_eq_self.2, List.nil_append]
  · intro x hx
    obtain ⟨i, hi⟩ := List.mem_iff_getElem?.1 hx
    rw [List.getElem?_drop] at hi
    exact h1 x (List.mem_of_getElem? hi) (h.hi _ x (by omega) hi)
  · intro x hx
    obtain ⟨i, hi⟩ := List.mem_iff_getElem?.1 hx
    rw [List.getElem?_take] at hi
    split at hi
    · rw [h2 x (h.lo i x (by assumption) hi)]; simp
    · cases hi
def below_ (l : List Lv) (key : Int) : List Lv := l.filter (fun x => decide (x.key < key))
def above_ (l : List Lv) (key : Int) : List Lv := l.filter (fun x => decide (key < x.key))
def butK (l : List Lv) (key : Int) : List Lv := l.filter (fun x => !(x.key == key))
def setK (l : List Lv) (key : Int) (f : Lv → Lv) : List Lv := l.map (fun x => bif x.key == key then f x else x)
theorem place_below {l : List Lv} {key : Int} {k : Nat} (h : Place l key k) : l.take k = below_ l key :=
  place_take h _ (fun x hx => by simpa using hx) (fun x hx => by simpa using hx)
theorem place_above {l : List Lv} {key : Int} {k : Nat} (h : Place l key k) (hh : heldB l key = false) : l.drop k = above_ l key :=
  place_drop h _ (fun x hx h1 => by have := held_false.1 hh x hx; simp; omega) (fun x hx => by simp; omega)
theorem drop_cons {l : List Lv} {k : Nat} {x : Lv} (hx : l[k]? = some x) : l.drop k = x :: l.drop (k + 1) := by
  obtain ⟨h, rfl⟩ := List.getElem?_eq_some_iff.1 hx
  exact List.drop_eq_getElem_cons h
theorem place_but {l : List Lv} {key : Int} {k : Nat} {x : Lv} (hr : Rises l) (h : Place l key k) (hx : l[k]? = some x) (hk : x.key = key) : l.take k ++ l.drop (k + 1) = butK l key := by
  unfold butK
  conv => rhs; rw [← List.take_append_drop k l, List.filter_append, drop_cons hx]
  rw [List.filter_cons, hk]
  simp only [beq_self_eq_true, Bool.not_true, Bool.false_eq_true, if_false]
  congr 1
  · symm; rw [List.filter_eq_self]
    intro y hy
    obtain ⟨i, hi⟩ := List.mem_iff_getElem?.1 hy
    rw [List.getElem?_take] at hi
    split at hi
    · have := h.lo i y (by assumption) hi; simp; omega
    · cases hi
  · symm; rw [List.filter_eq_self]
    intro y hy
    obtain ⟨i, hi⟩ := List.mem_iff_getElem?.1 hy
    rw [List.getElem?_drop] at hi
    have := rises_lt hr (by omega : k < k + 1 + i) hx hi; simp; omega
theorem place_set {l : List Lv} {key : Int} {k : Nat} {x : Lv} (hr : Rises l) (hx : l[k]? = some x) (hk : x.key = key) (f : Lv → Lv) : l.set k (f x) = setK l key f := by
  apply List.ext_getElem?
  intro i
  unfold setK
  rw [List.getElem?_set, List.getElem?_map]
  by_cases hi : k = i
  · subst hi
    rw [if_pos rfl, if_pos (List.getElem?_eq_some_iff.1 hx).1, hx]
    simp [hk]
  · rw [if_neg hi]
    rcases e : l[i]? with _ | y
    · rfl
    · have hne : ¬ y.key = key := by
        intro e2
        rcases Nat.lt_or_gt_of_ne hi with h1 | h1
        · have := rises_lt hr h1 hx e; omega
        · have := rises_lt hr h1 e hx; omega
      have : (y.key == key) = false := by simpa using hne
      simp [this]

/-! ### The least end -/
def leastU : List Lv → Int
  | [] => 0
  | x :: r => r.foldl (fun a y => min a y.til) x.til
theorem foldl_min_le (r : List Lv) (a : Int) : r.foldl (fun a y => min a y.til) a ≤ a ∧ ∀ y ∈ r, r.foldl (fun a y => min a y.til) a ≤ y.til := by
  induction r generalizing a with
  | nil => exact ⟨Int.le_refl _, fun y hy => by cases hy⟩
  | cons x r ih =>
    have h := ih (min a x.til)
    refine ⟨by have := h.1; simp only [List.foldl_cons]; omega, fun y hy => ?_⟩
    rcases List.mem_cons.1 hy with rfl | hy
    · have := h.1; simp only [List.foldl_cons]; omega
    · exact h.2 y hy
theorem foldl_min_mem (r : List Lv) (a : Int) : r.foldl (fun a y => min a y.til) a = a ∨ ∃ y ∈ r, r.foldl (fun a y => min a y.til) a = y.til := by
  induction r generalizing a with
  | nil => exact .inl rfl
  | cons x r ih =>
    rcases ih (min a x.til) with h | ⟨y, hy, h⟩
    · simp only [List.foldl_cons]
      rw [h]
      by_cases h1 : a ≤ x.til
      · exact .inl (by omega)
      · exact .inr ⟨x, by simp, by omega⟩
    · exact .inr ⟨y, by simp [hy], h⟩
theorem leastU_le {l : List Lv} {x : Lv} (h : x ∈ l) : leastU l ≤ x.til := by
  rcases l with _ | ⟨y, r⟩
  · cases h
  · rcases List.mem_cons.1 h with rfl | h
    · exact (foldl_min_le r _).1
    · exact (foldl_min_le r _).2 x h
theorem leastU_mem {l : List Lv} (h : l ≠ []) : ∃ x ∈ l, leastU l = x.til := by
  rcases l with _ | ⟨y, r⟩
  · exact absurd rfl h
  · rcases foldl_min_mem r y.til with h | ⟨z, hz, h⟩
    · exact ⟨y, by simp, h⟩
    · exact ⟨z, by simp [hz], h⟩
theorem leastU_congr {a b : List Lv} (h : ∀ x, x ∈ a ↔ x ∈ b) : leastU a = leastU b := by
  by_cases ha : a = []
  · subst ha
    have : b = [] := List.eq_nil_iff_forall_not_mem.2 (fun x hx => by have := (h x).2 hx; cases this)
    rw [this]
  · have hb : b ≠ [] := by
      intro e; subst e
      exact ha (List.eq_nil_iff_forall_not_mem.2 (fun x hx => by have := (h x).1 hx; cases this))
    obtain ⟨x, hx, e1⟩ := leastU_mem ha
    obtain ⟨y, hy, e2⟩ := leastU_mem hb
    have h1 := leastU_le ((h x).1 hx)
    have h2 := leastU_le ((h y).2 hy)
    omega
theorem leastU_snoc (l : List Lv) (x : Lv) : leastU (l ++ [x]) = if l = [] then x.til else min (leastU l) x.til := by
  rcases l with _ | ⟨y, r⟩
  · rfl
  · simp [leastU]
theorem leastU_start (x : Lv) (r : List Lv) : (x :: r).foldl (fun a y => min a y.til) x.til = leastU (x :: r) := by
  simp [leastU]

/-! ### What the calls come to -/
def tickP (t : Tv) (now : Int) : Tv × List Lv × Int :=
  bif okT t && !decide (now < t.now) then (⟨t.last, now, t.l.filter (fun x => !decide (x.til ≤ now))⟩, t.l.filter (fun x => decide (x.til ≤ now)), 0) else (zT, [], 1)
def grantOk (t : Tv) (key host ttl : Int) : Bool := okT t && (!decide (key < 0) && (hostB host && ttlB ttl))
def newL (t : Tv) (key host ttl : Int) : Lv := ⟨key, host, t.last + 1, t.now + ttl⟩
def putL (l : List Lv) (key : Int) (x : Lv) : List Lv := below_ l key ++ [x] ++ above_ l key
def grantP (t : Tv) (key host ttl : Int) : Tv × Lv × Int :=
  bif grantOk t key host ttl then (bif heldB t.l key then (zT, zL, 60) else (⟨t.last + 1, t.now, putL t.l key (newL t key host ttl)⟩, newL t key host ttl, 0)) else (zT, zL, 1)
def getL (l : List Lv) (key : Int) : Lv := (findL l key).getD zL
def longer (t : Tv) (ttl : Int) (x : Lv) : Lv := ⟨x.key, x.host, x.epoch, max x.til (t.now + ttl)⟩
def renewP (t : Tv) (key host epoch ttl : Int) : Tv × Int :=
  bif okT t && ttlB ttl then (bif heldB t.l key then (bif (getL t.l key).host != host || (getL t.l key).epoch != epoch then (zT, 61) else (⟨t.last, t.now, setK t.l key (longer t ttl)⟩, 0)) else (zT, 4)) else (zT, 1)
def revokeP (t : Tv) (key : Int) : Tv × Int :=
  bif okT t then (bif heldB t.l key then (⟨t.last, t.now, butK t.l key⟩, 0) else (zT, 4)) else (zT, 1)
def holdP (t : Tv) (key : Int) : Lv × Bool := bif okT t && heldB t.l key then (getL t.l key, true) else (zL, false)
def ofP (t : Tv) (host : Int) : List Int := bif okT t then (t.l.filter (fun x => x.host == host)).map Lv.key else []
def named (l : List Lv) (keys : List Int) : List Lv := bif keys.isEmpty then l else l.filter (fun x => keys.contains x.key)
def nextP (t : Tv) (keys : List Int) : Int := bif okT t then leastU (named t.l keys) else 0
structure Ov where
  d : Int
  a : Int
  b : Int
  c : Int
  e : Int
def bodyP (t : Tv) (o : Ov) : Tv × List Lv × Int :=
  bif o.d == 0 then tickP t o.a
  else bif o.d == 1 then ((grantP t o.a o.b o.c).1, [(grantP t o.a o.b o.c).2.1], (grantP t o.a o.b o.c).2.2)
  else bif o.d == 2 then ((renewP t o.a o.b o.e o.c).1, [], (renewP t o.a o.b o.e o.c).2)
  else bif o.d == 3 then ((revokeP t o.a).1, [], (revokeP t o.a).2)
  else (t, bif (holdP t o.a).2 then [(holdP t o.a).1] else [], 0)
end Lea
end Go.Proofs.Ytehknenlifdchaa
