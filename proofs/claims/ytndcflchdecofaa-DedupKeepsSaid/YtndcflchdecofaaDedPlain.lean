/-
  WHAT WAS ANSWERED, IN PLAIN: a list of those who asked, what may be, what a request is, an answer kept, some forgotten.
-/
import Derived.Test.YtndcflchdecofaaNetMem
namespace Go.Proofs.Ytndcflchdecofaa
namespace Ded
open Net (Mp)

/-- An answer; what was answered to one. -/
structure Dp where
  id : Int
  m : Mp
deriving DecidableEq
structure Sp where
  f : Int
  b : Int
  l : List Dp
deriving DecidableEq

/-! ### Numbers that rise -/
def risesB (least : Int) : List Int → Bool
  | [] => true
  | v :: vs => decide (least ≤ v) && risesB (v + 1) vs
theorem rises_iff (least : Int) (vs : List Int) : risesB least vs = true ↔ (∀ v ∈ vs, least ≤ v) ∧ vs.Pairwise (· < ·) := by
  induction vs generalizing least with
  | nil => simp [risesB]
  | cons v vs ih =>
    simp only [risesB, Bool.and_eq_true, decide_eq_true_eq, ih, List.pairwise_cons, List.mem_cons]
    constructor
    · rintro ⟨h1, h2, h3⟩
      refine ⟨?_, fun u hu => ?_, h3⟩
      · rintro u (rfl | hu)
        · exact h1
        · have := h2 u hu; omega
      · have := h2 u hu; omega
    · rintro ⟨h1, h2, h3⟩
      exact ⟨h1 v (.inl rfl), fun u hu => by have := h2 u hu; omega, h3⟩
theorem rises_take {least : Int} {vs : List Int} (h : risesB least vs = true) (k : Nat) : risesB least (vs.take k) = true := by
  obtain ⟨h1, h2⟩ := (rises_iff _ _).1 h
  exact (rises_iff _ _).2 ⟨fun v hv => h1 v (List.mem_of_mem_take hv), h2.sublist (List.take_sublist _ _)⟩
theorem rises_snoc {least : Int} {vs : List Int} (h : risesB least vs = true) {v : Int} (h1 : least ≤ v) (h2 : ∀ u ∈ vs, u < v) : risesB least (vs ++ [v]) = true := by
  obtain ⟨a, b⟩ := (rises_iff _ _).1 h
  refine (rises_iff _ _).2 ⟨fun u hu => ?_, ?_⟩
  · rcases List.mem_append.1 hu with hu | hu
    · exact a u hu
    · rw [List.mem_singleton.1 hu]; exact h1
  · rw [List.pairwise_append]
    exact ⟨b, by simp, fun x hx y hy => by rw [List.mem_singleton.1 hy]; exact h2 x hx⟩
theorem rises_lt {least : Int} {vs : List Int} (h : risesB least vs = true) {a b : Nat} {x y : Int} (hab : a < b) (hx : vs[a]? = some x) (hy : vs[b]? = some y) : x < y := by
  obtain ⟨-, h2⟩ := (rises_iff _ _).1 h
  obtain ⟨ha, ea⟩ := List.getElem?_eq_some_iff.1 hx
  obtain ⟨hb, eb⟩ := List.getElem?_eq_some_iff.1 hy
  have := List.pairwise_iff_getElem.1 h2 a b ha hb hab
  rwa [ea, eb] at this
/-- One number more, as the walk asks it. -/
theorem rises_next {least : Int} {vs : List Int} {k : Nat} (h : risesB least (vs.take k) = true) {v : Int} (hv : vs[k]? = some v) (h1 : least ≤ v) (h2 : k = 0 ∨ ∃ u, vs[k - 1]? = some u ∧ u < v) : risesB least (vs.take (k + 1)) = true := by
  have e : vs.take (k + 1) = vs.take k ++ [v] := by
    obtain ⟨hk, rfl⟩ := List.getElem?_eq_some_iff.1 hv
    rw [List.take_succ_eq_append_getElem hk]
  rw [e]
  refine rises_snoc h h1 fun u hu => ?_
  obtain ⟨i, hi⟩ := List.mem_iff_getElem?.1 hu
  have hik : i < k := by have := (List.getElem?_eq_some_iff.1 hi).1; rw [List.length_take] at this; omega
  rcases h2 with h2 | ⟨z, hz, hzv⟩
  · omega
  · rcases Nat.lt_or_ge i (k - 1) with h3 | h3
    · have : u < z := rises_lt h h3 hi (by rw [List.getElem?_take, if_pos (by omega)]; exact hz)
      omega
    · have : i = k - 1 := by omega
      subst this
      rw [List.getElem?_take, if_pos (by omega), hz] at hi
      injection hi with hi
      omega
theorem rises_not {least : Int} {vs : List Int} {k : Nat} {v : Int} (hv : vs[k]? = some v) (h : v < least ∨ 0 < k ∧ ∃ u, vs[k - 1]? = some u ∧ v ≤ u) : risesB least vs = false := by
  cases e : risesB least vs with
  | false => rfl
  | true =>
    exfalso
    rcases h with h | ⟨h0, u, hu, hvu⟩
    · have := ((rises_iff _ _).1 e).1 v (List.mem_of_getElem? hv); omega
    · have := rises_lt e (show k - 1 < k by omega) hu hv; omega

/-! ### Where a number stands -/
def atV (vs : List Int) (v : Int) : Nat := (vs.takeWhile (fun u => decide (u < v))).length
def hasV (vs : List Int) (v : Int) : Bool := vs[atV vs v]? == some v
theorem tw_len {α : Type} (p : α → Bool) (l : List α) (k : Nat) (hk : k ≤ l.length) (h1 : ∀ t x, t < k → l[t]? = some x → p x = true) (h2 : ∀ x, l[k]? = some x → p x = false) : (l.takeWhile p).length = k := by
  induction l generalizing k with
  | nil => simp at hk; simp [hk]
  | cons x l ih =>
    rcases k with _ | k
    · have := h2 x rfl
      simp [List.takeWhile, this]
    · have := h1 0 x (by omega) rfl
      simp only [List.takeWhile, this, List.length_cons, Nat.add_right_cancel_iff]
      exact ih k (by simpa using hk) (fun t y ht hy => h1 (t + 1) y (by omega) (by simpa using hy)) (fun y hy => h2 y (by simpa using hy))
theorem atV_eq {vs : List Int} {v : Int} {k : Nat} (hk : k ≤ vs.length) (h1 : ∀ t x, t < k → vs[t]? = some x → x < v) (h2 : ∀ t x, k ≤ t → vs[t]? = some x → v ≤ x) : atV vs v = k :=
  tw_len _ vs k hk (fun t x ht hx => decide_eq_true (h1 t x ht hx)) (fun x hx => decide_eq_false (by have := h2 k x (Nat.le_refl _) hx; omega))
theorem atV_le (vs : List Int) (v : Int) : atV vs v ≤ vs.length := by
  have := (List.takeWhile_prefix (p := fun u => decide (u < v)) (l := vs)).length_le
  exact this

/-! ### Lists -/
def okS (s : Sp) : Bool := decide (0 ≤ s.b) && (decide (s.l.length ≤ 8) && risesB s.b (s.l.map Dp.id))
def okL (l : List Sp) : Bool := risesB 0 (l.map Sp.f) && l.all okS
def m0 : Mp := ⟨0, 0, 0, 0, [], []⟩
def ofP (l : List Sp) (f : Int) : Sp :=
  match l[atV (l.map Sp.f) f]? with
  | some s => bif hasV (l.map Sp.f) f then s else ⟨f, 0, []⟩
  | none => ⟨f, 0, []⟩
/-- What is kept of one's own tells of a request. -/
def tellS (s : Sp) (i : Int) : Mp × Int :=
  bif decide (i < s.b) then (m0, 2) else
  match s.l[atV (s.l.map Dp.id) i]? with
  | some d => bif hasV (s.l.map Dp.id) i then (d.m, 1) else (m0, 0)
  | none => (m0, 0)
def askP (l : List Sp) (f i : Int) : Mp × Int := bif okL l then tellS (ofP l f) i else (m0, 2)
def insP {α : Type} (l : List α) (k : Nat) (x : α) : List α := l.take k ++ [x] ++ l.drop k
def withP (s : Sp) (a : Dp) : Sp :=
  match insP s.l (atV (s.l.map Dp.id) a.id) a with
  | [] => s
  | d :: L => bif decide (8 < (d :: L).length) then ⟨s.f, d.id + 1, L⟩ else ⟨s.f, s.b, d :: L⟩
def outP (l : List Sp) (f : Int) : List Sp := bif hasV (l.map Sp.f) f then l else insP l (atV (l.map Sp.f) f) ⟨f, 0, []⟩
def putP (l : List Sp) (f : Int) (a : Dp) : List Sp :=
  match (outP l f)[atV (l.map Sp.f) f]? with
  | some s => (outP l f).set (atV (l.map Sp.f) f) (withP s a)
  | none => outP l f
def doneP (l : List Sp) (f i : Int) (m : Mp) : List Sp × Int :=
  bif !okL l || (decide (f < 0) || decide (i < 0)) then ([], 1) else
  bif (askP l f i).2 == 2 then ([], 61) else
  bif (askP l f i).2 == 1 then ([], 60) else (putP l f ⟨i, m⟩, 0)
def forgetP (l : List Sp) (fs : List Int) : List Sp := bif okL l then l.filter (fun s => !fs.contains s.f) else []

/-! ### A list of things whose keys rise, parted by a key -/
section
variable {α : Type} (key : α → Int)
theorem tw_map (l : List α) (v : Int) : (l.map key).takeWhile (fun u => decide (u < v)) = (l.takeWhile (fun x => decide (key x < v))).map key := by
  induction l with
  | nil => rfl
  | cons x l ih => simp only [List.map_cons, List.takeWhile]; cases decide (key x < v) <;> simp [ih]
theorem at_len (l : List α) (v : Int) : atV (l.map key) v = (l.takeWhile (fun x => decide (key x < v))).length := by
  unfold atV; rw [tw_map, List.length_map]
theorem take_at (l : List α) (v : Int) : l.take (atV (l.map key) v) = l.takeWhile (fun x => decide (key x < v)) := by
  rw [at_len]
  conv => lhs; arg 2; rw [← List.takeWhile_append_dropWhile (p := fun x => decide (key x < v)) (l := l)]
  exact List.take_left
theorem drop_at (l : List α) (v : Int) : l.drop (atV (l.map key) v) = l.dropWhile (fun x => decide (key x < v)) := by
  have h := List.takeWhile_append_dropWhile (p := fun x => decide (key x < v)) (l := l)
  rw [at_len]
  conv => lhs; arg 2; rw [← h]
  rw [List.drop_left]
variable {key} {l : List α}
theorem lt_filter (h : (l.map key).Pairwise (· < ·)) (v : Int) : l.takeWhile (fun x => decide (key x < v)) = l.filter (fun x => decide (key x < v)) := by
  induction l with
  | nil => rfl
  | cons x l ih =>
    simp only [List.map_cons, List.pairwise_cons, List.mem_map, forall_exists_index, and_imp, forall_apply_eq_imp_iff₂] at h
    simp only [List.takeWhile, List.filter]
    by_cases hx : key x < v
    · simp only [decide_eq_true hx, ih h.2]
    · simp only [decide_eq_false hx]
      refine (List.filter_eq_nil_iff.2 fun y hy => ?_).symm
      have := h.1 y hy
      simp only [decide_eq_true_eq]
      omega
theorem ge_filter (h : (l.map key).Pairwise (· < ·)) (v : Int) : l.dropWhile (fun x => decide (key x < v)) = l.filter (fun x => decide (v ≤ key x)) := by
  induction l with
  | nil => rfl
  | cons x l ih =>
    simp only [List.map_cons, List.pairwise_cons, List.mem_map, forall_exists_index, and_imp, forall_apply_eq_imp_iff₂] at h
    simp only [List.dropWhile, List.filter]
    by_cases hx : key x < v
    · simp only [decide_eq_true hx, decide_eq_false (show ¬ v ≤ key x by omega), ih h.2]
    · simp only [decide_eq_false hx, decide_eq_true (show v ≤ key x by omega)]
      refine congrArg (x :: ·) (List.filter_eq_self.2 fun y hy => ?_).symm
      have := h.1 y hy
      simp only [decide_eq_true_eq]
      omega
/-- What stands there. -/
theorem at_get (h : (l.map key).Pairwise (· < ·)) (v : Int) : l[atV (l.map key) v]? = (l.filter (fun x => decide (v ≤ key x))).head? := by
  rw [← ge_filter h v, ← drop_at key l v, List.head?_drop]
theorem has_iff (h : (l.map key).Pairwise (· < ·)) (v : Int) : hasV (l.map key) v = true ↔ ∃ x ∈ l, key x = v := by
  unfold hasV
  rw [List.getElem?_map, at_get h v, beq_iff_eq]
  constructor
  · intro e
    obtain ⟨x, hx, hv⟩ := Option.map_eq_some_iff.1 e
    exact ⟨x, (List.mem_filter.1 (List.mem_of_mem_head? (by rw [hx]; rfl))).1, hv⟩
  · rintro ⟨x, hx, rfl⟩
    have hs : ((l.filter (fun y => decide (key x ≤ key y))).map key).Pairwise (· < ·) := h.sublist ((List.filter_sublist).map key)
    have hm : x ∈ l.filter (fun y => decide (key x ≤ key y)) := List.mem_filter.2 ⟨hx, by simp⟩
    cases e : l.filter (fun y => decide (key x ≤ key y)) with
    | nil => rw [e] at hm; cases hm
    | cons y t =>
      rw [e] at hm hs
      have hy : key x ≤ key y := by
        have : y ∈ l.filter (fun y => decide (key x ≤ key y)) := by rw [e]; simp
        simpa using (List.mem_filter.1 this).2
      rcases List.mem_cons.1 hm with rfl | hm
      · rfl
      · simp only [List.map_cons, List.pairwise_cons] at hs
        have := hs.1 (key x) (List.mem_map.2 ⟨x, hm, rfl⟩)
        omega
theorem one_of (h : (l.map key).Pairwise (· < ·)) {x y : α} (hx : x ∈ l) (hy : y ∈ l) (e : key x = key y) : x = y := by
  induction l with
  | nil => cases hx
  | cons z l ih =>
    simp only [List.map_cons, List.pairwise_cons, List.mem_map, forall_exists_index, and_imp, forall_apply_eq_imp_iff₂] at h
    rcases List.mem_cons.1 hx with hx1 | hx1 <;> rcases List.mem_cons.1 hy with hy1 | hy1
    · rw [hx1, hy1]
    · subst hx1; have := h.1 y hy1; omega
    · subst hy1; have := h.1 x hx1; omega
    · exact ih h.2 hx1 hy1
theorem at_has (h : (l.map key).Pairwise (· < ·)) {v : Int} {x : α} (hx : x ∈ l) (e : key x = v) : l[atV (l.map key) v]? = some x := by
  have hh := (has_iff h v).2 ⟨x, hx, e⟩
  unfold hasV at hh
  rw [List.getElem?_map, beq_iff_eq] at hh
  obtain ⟨y, hy, hv⟩ := Option.map_eq_some_iff.1 hh
  rw [hy, one_of h (List.mem_of_getElem? hy) hx (by rw [hv, e])]
/-- One laid in where none has its key; one written over where one has it. -/
theorem ins_eq (h : (l.map key).Pairwise (· < ·)) (v : Int) (x : α) : insP l (atV (l.map key) v) x = l.filter (fun y => decide (key y < v)) ++ x :: l.filter (fun y => decide (v ≤ key y)) := by
  unfold insP
  rw [take_at, drop_at, lt_filter h, ge_filter h, List.append_assoc]
  rfl
theorem gt_of (h : (l.map key).Pairwise (· < ·)) {v : Int} {x : α} {t : List α} (e : l.filter (fun y => decide (v ≤ key y)) = x :: t) (hx : key x = v) : t = l.filter (fun y => decide (v < key y)) := by
  have e2 : l.filter (fun y => decide (v < key y)) = (l.filter (fun y => decide (v ≤ key y))).filter (fun y => decide (v < key y)) := by
    rw [List.filter_filter]
    refine List.filter_congr fun y _ => ?_
    by_cases hy : v < key y
    · simp [hy, show v ≤ key y by omega]
    · simp [hy]
  rw [e2, e, List.filter_cons_of_neg (by simp [hx])]
  have hs : ((x :: t).map key).Pairwise (· < ·) := by rw [← e]; exact h.sublist ((List.filter_sublist).map key)
  simp only [List.map_cons, List.pairwise_cons, List.mem_map, forall_exists_index, and_imp, forall_apply_eq_imp_iff₂] at hs
  exact (List.filter_eq_self.2 fun y hy => by have := hs.1 y hy; simp; omega).symm
theorem set_eq (h : (l.map key).Pairwise (· < ·)) {v : Int} (hh : hasV (l.map key) v = true) (y : α) : l.set (atV (l.map key) v) y = l.filter (fun z => decide (key z < v)) ++ y :: l.filter (fun z => decide (v < key z)) := by
  have hh' := hh
  unfold hasV at hh
  rw [List.getElem?_map, beq_iff_eq] at hh
  obtain ⟨x, hx, hv⟩ := Option.map_eq_some_iff.1 hh
  have hk := (List.getElem?_eq_some_iff.1 hx).1
  rw [List.set_eq_take_append_cons_drop, if_pos hk, take_at, lt_filter h]
  congr 2
  have e : l.drop (atV (l.map key) v) = x :: l.drop (atV (l.map key) v + 1) := by
    rw [List.drop_eq_getElem_cons hk]
    congr 1
    exact (List.getElem?_eq_some_iff.1 hx).2
  rw [drop_at, ge_filter h] at e
  exact gt_of h e hv
theorem ins_set (k : Nat) (hk : k ≤ l.length) (x y : α) : (insP l k x)[k]? = some x ∧ (insP l k x).set k y = insP l k y := by
  unfold insP
  have e : (l.take k).length = k := by rw [List.length_take]; omega
  constructor
  · rw [List.append_assoc, List.getElem?_append_right (by omega), e, Nat.sub_self]
    rfl
  · rw [List.append_assoc, List.set_append_right _ _ (by omega), e, Nat.sub_self, List.append_assoc]
    rfl
theorem none_gt {v : Int} (hn : ∀ x ∈ l, key x ≠ v) : l.filter (fun y => decide (v ≤ key y)) = l.filter (fun y => decide (v < key y)) :=
  List.filter_congr fun y hy => by have := hn y hy; by_cases h1 : v < key y <;> simp [h1] <;> omega
/-- A thing between those below and those beyond it: the keys rise, as they did. -/
theorem rises_mid (h : (l.map key).Pairwise (· < ·)) {v : Int} (x : α) (hx : key x = v) : ((l.filter (fun y => decide (key y < v)) ++ x :: l.filter (fun y => decide (v < key y))).map key).Pairwise (· < ·) := by
  rw [List.map_append, List.pairwise_append, List.map_cons, List.pairwise_cons]
  refine ⟨h.sublist ((List.filter_sublist).map key), ⟨fun a ha => ?_, h.sublist ((List.filter_sublist).map key)⟩, fun a ha b hb => ?_⟩
  · obtain ⟨y, hy, rfl⟩ := List.mem_map.1 ha
    have := (List.mem_filter.1 hy).2
    simp at this
    omega
  · obtain ⟨y, hy, rfl⟩ := List.mem_map.1 ha
    have h1 := (List.mem_filter.1 hy).2
    simp at h1
    rcases List.mem_cons.1 hb with rfl | hb
    · omega
    · obtain ⟨z, hz, rfl⟩ := List.mem_map.1 hb
      have h2 := (List.mem_filter.1 hz).2
      simp at h2
      omega
end
/-! ### One's own -/
def okD (s : Sp) : Prop := 0 ≤ s.b ∧ s.l.length ≤ 8 ∧ (∀ d ∈ s.l, s.b ≤ d.id) ∧ (s.l.map Dp.id).Pairwise (· < ·)
theorem okS_iff (s : Sp) : okS s = true ↔ okD s := by
  unfold okS okD
  simp only [Bool.and_eq_true, decide_eq_true_eq, rises_iff, List.mem_map, forall_exists_index, and_imp, forall_apply_eq_imp_iff₂]
theorem okL_iff (l : List Sp) : okL l = true ↔ (∀ s ∈ l, 0 ≤ s.f) ∧ (l.map Sp.f).Pairwise (· < ·) ∧ ∀ s ∈ l, okD s := by
  unfold okL
  simp only [Bool.and_eq_true, rises_iff, List.mem_map, forall_exists_index, and_imp, forall_apply_eq_imp_iff₂, List.all_eq_true, okS_iff, and_assoc]
theorem okD_new (f : Int) : okD ⟨f, 0, []⟩ := ⟨Int.le_refl _, by simp, by simp, by simp⟩
theorem ofP_mem {l : List Sp} (h : (l.map Sp.f).Pairwise (· < ·)) {s : Sp} (hs : s ∈ l) : ofP l s.f = s := by
  unfold ofP
  rw [at_has h hs rfl, (has_iff h s.f).2 ⟨s, hs, rfl⟩]
  rfl
theorem ofP_none {l : List Sp} (h : (l.map Sp.f).Pairwise (· < ·)) {f : Int} (hn : ∀ s ∈ l, s.f ≠ f) : ofP l f = ⟨f, 0, []⟩ := by
  unfold ofP
  have : hasV (l.map Sp.f) f = false := by
    cases e : hasV (l.map Sp.f) f with
    | false => rfl
    | true => obtain ⟨x, hx, he⟩ := (has_iff h f).1 e; exact absurd he (hn x hx)
  rw [this]
  split <;> rfl
theorem ofP_cases {l : List Sp} (h : (l.map Sp.f).Pairwise (· < ·)) (f : Int) : (∃ s ∈ l, s.f = f ∧ ofP l f = s) ∨ ((∀ s ∈ l, s.f ≠ f) ∧ ofP l f = ⟨f, 0, []⟩) := by
  by_cases hx : ∃ s ∈ l, s.f = f
  · obtain ⟨s, hs, rfl⟩ := hx
    exact .inl ⟨s, hs, rfl, ofP_mem h hs⟩
  · exact .inr ⟨fun s hs e => hx ⟨s, hs, e⟩, ofP_none h fun s hs e => hx ⟨s, hs, e⟩⟩
theorem ofP_ok {l : List Sp} (h : okL l = true) (f : Int) : okD (ofP l f) ∧ (ofP l f).f = f := by
  obtain ⟨-, h2, h3⟩ := (okL_iff l).1 h
  rcases ofP_cases h2 f with ⟨s, hs, rfl, e⟩ | ⟨-, e⟩
  · rw [e]; exact ⟨h3 s hs, rfl⟩
  · rw [e]; exact ⟨okD_new f, rfl⟩
/-- What is told of a request, by its answers. -/
theorem tell_gone {s : Sp} {i : Int} : (tellS s i).2 = 2 ↔ i < s.b := by
  unfold tellS
  by_cases h : i < s.b
  · simp [h]
  · rw [decide_eq_false h, cond_false]
    constructor
    · intro e
      split at e
      · cases hh : hasV (s.l.map Dp.id) i <;> rw [hh] at e <;> cases e
      · cases e
    · intro e; exact absurd e h
theorem tell_old {s : Sp} (hs : (s.l.map Dp.id).Pairwise (· < ·)) {d : Dp} (hd : d ∈ s.l) (hb : s.b ≤ d.id) : tellS s d.id = (d.m, 1) := by
  unfold tellS
  rw [decide_eq_false (by omega), cond_false, at_has hs hd rfl, (has_iff hs d.id).2 ⟨d, hd, rfl⟩]
  rfl
theorem tell_new {s : Sp} (hs : (s.l.map Dp.id).Pairwise (· < ·)) {i : Int} (hb : s.b ≤ i) (hn : ∀ d ∈ s.l, d.id ≠ i) : tellS s i = (m0, 0) := by
  unfold tellS
  rw [decide_eq_false (by omega), cond_false]
  have : hasV (s.l.map Dp.id) i = false := by
    cases e : hasV (s.l.map Dp.id) i with
    | false => rfl
    | true => obtain ⟨x, hx, he⟩ := (has_iff hs i).1 e; exact absurd he (hn x hx)
  rw [this]
  split <;> rfl
theorem tell_cases (s : Sp) (hs : (s.l.map Dp.id).Pairwise (· < ·)) (i : Int) : (i < s.b ∧ tellS s i = (m0, 2)) ∨ (s.b ≤ i ∧ (∃ d ∈ s.l, d.id = i ∧ tellS s i = (d.m, 1))) ∨ (s.b ≤ i ∧ (∀ d ∈ s.l, d.id ≠ i) ∧ tellS s i = (m0, 0)) := by
  by_cases h : i < s.b
  · exact .inl ⟨h, by unfold tellS; rw [decide_eq_true h]; rfl⟩
  · by_cases hx : ∃ d ∈ s.l, d.id = i
    · obtain ⟨d, hd, rfl⟩ := hx
      exact .inr (.inl ⟨by omega, d, hd, rfl, tell_old hs hd (by omega)⟩)
    · have hn : ∀ d ∈ s.l, d.id ≠ i := fun d hd e => hx ⟨d, hd, e⟩
      exact .inr (.inr ⟨by omega, hn, tell_new hs (by omega) hn⟩)

/-! ### An answer kept -/
def bigP (s : Sp) (a : Dp) : List Dp := s.l.filter (fun y => decide (y.id < a.id)) ++ a :: s.l.filter (fun y => decide (a.id < y.id))
theorem mem_big {s : Sp} {a d : Dp} (hn : ∀ d ∈ s.l, d.id ≠ a.id) : d ∈ bigP s a ↔ d = a ∨ d ∈ s.l := by
  unfold bigP
  simp only [List.mem_append, List.mem_cons, List.mem_filter, decide_eq_true_eq]
  constructor
  · rintro (h | h | h)
    · exact .inr h.1
    · exact .inl h
    · exact .inr h.1
  · rintro (h | h)
    · exact .inr (.inl h)
    · have := hn d h
      rcases Int.lt_or_gt_of_ne this with h1 | h1
      · exact .inl ⟨h, h1⟩
      · exact .inr (.inr ⟨h, h1⟩)
theorem big_len {s : Sp} {a : Dp} (hn : ∀ d ∈ s.l, d.id ≠ a.id) : (bigP s a).length = s.l.length + 1 := by
  unfold bigP
  rw [List.length_append, List.length_cons]
  have h1 : s.l.filter (fun y => decide (a.id < y.id)) = s.l.filter (fun y => !decide (y.id < a.id)) := List.filter_congr fun y hy => by
    have := hn y hy
    by_cases h : a.id < y.id
    · simp [h]; omega
    · simp [h]; omega
  rw [h1]
  have : ∀ l : List Dp, (l.filter (fun y => decide (y.id < a.id))).length + (l.filter (fun y => !decide (y.id < a.id))).length = l.length := fun l => by
    induction l with
    | nil => rfl
    | cons x l ih => by_cases hx : x.id < a.id <;> simp [hx] <;> omega
  have := this s.l
  omega
theorem with_eq {s : Sp} (hs : okD s) {a : Dp} (hn : ∀ d ∈ s.l, d.id ≠ a.id) :
    (withP s a = ⟨s.f, s.b, bigP s a⟩ ∧ (bigP s a).length ≤ 8) ∨ ∃ d L, bigP s a = d :: L ∧ withP s a = ⟨s.f, d.id + 1, L⟩ ∧ L.length ≤ 8 := by
  have hl := big_len hn
  have h8 := hs.2.1
  have e : insP s.l (atV (s.l.map Dp.id) a.id) a = bigP s a := by
    rw [ins_eq hs.2.2.2, none_gt hn]; rfl
  unfold withP
  rw [e]
  cases hb : bigP s a with
  | nil => rw [hb] at hl; simp at hl
  | cons d L =>
    dsimp only
    rw [hb] at hl
    by_cases h : 8 < (d :: L).length
    · rw [decide_eq_true h]
      exact .inr ⟨d, L, rfl, rfl, by simp at hl ⊢; omega⟩
    · rw [decide_eq_false h]
      exact .inl ⟨rfl, by omega⟩
theorem big_rises {s : Sp} (hs : okD s) (a : Dp) : ((bigP s a).map Dp.id).Pairwise (· < ·) := rises_mid hs.2.2.2 a rfl
/-- What may be stays so; what is told of each request behind it. -/
theorem with_ok {s : Sp} (hs : okD s) {a : Dp} (hb : s.b ≤ a.id) (hn : ∀ d ∈ s.l, d.id ≠ a.id) :
    okD (withP s a) ∧ (withP s a).f = s.f ∧ s.b ≤ (withP s a).b ∧ (∀ d ∈ (withP s a).l, d = a ∨ d ∈ s.l) ∧ (∀ d, (d = a ∨ d ∈ s.l) → (withP s a).b ≤ d.id → d ∈ (withP s a).l) := by
  have hr := big_rises hs a
  have hall : ∀ d ∈ bigP s a, s.b ≤ d.id := fun d hd => by
    rcases (mem_big hn).1 hd with rfl | h
    · exact hb
    · exact hs.2.2.1 d h
  rcases with_eq hs hn with ⟨e, h8⟩ | ⟨d, L, hL, e, h8⟩
  · rw [e]
    exact ⟨⟨hs.1, h8, hall, hr⟩, rfl, Int.le_refl _, fun d hd => (mem_big hn).1 hd, fun d hd _ => (mem_big hn).2 hd⟩
  · rw [e]
    rw [hL] at hr hall
    simp only [List.map_cons, List.pairwise_cons, List.mem_map, forall_exists_index, and_imp, forall_apply_eq_imp_iff₂] at hr
    have hd := hall d (by simp)
    have h0 := hs.1
    refine ⟨⟨show 0 ≤ d.id + 1 by omega, h8, fun x hx => hr.1 x hx, hr.2⟩, rfl, show s.b ≤ d.id + 1 by omega, fun x hx => (mem_big hn).1 (by rw [hL]; exact List.mem_cons_of_mem _ hx), fun x hx hbx => ?_⟩
    have := (mem_big hn).2 hx
    rw [hL] at this
    rcases List.mem_cons.1 this with rfl | h
    · simp at hbx; omega
    · exact h
theorem tell_with {s : Sp} (hs : okD s) {a : Dp} (hb : s.b ≤ a.id) (hn : ∀ d ∈ s.l, d.id ≠ a.id) (j : Int) :
    tellS (withP s a) j = (m0, 2) ∨ (j = a.id ∧ tellS (withP s a) j = (a.m, 1)) ∨ (j ≠ a.id ∧ (withP s a).b ≤ j ∧ tellS (withP s a) j = tellS s j) := by
  obtain ⟨h1, h2, h3, h4, h5⟩ := with_ok hs hb hn
  rcases tell_cases (withP s a) h1.2.2.2 j with ⟨-, e⟩ | ⟨hj, d, hd, rfl, e⟩ | ⟨hj, hnd, e⟩
  · exact .inl e
  · rcases h4 d hd with rfl | hd2
    · exact .inr (.inl ⟨rfl, e⟩)
    · exact .inr (.inr ⟨hn d hd2, hj, by rw [e, tell_old hs.2.2.2 hd2 (hs.2.2.1 d hd2)]⟩)
  · have hja : j ≠ a.id := fun e2 => hnd a (h5 a (.inl rfl) (by rw [← e2]; exact hj)) e2.symm
    refine .inr (.inr ⟨hja, hj, ?_⟩)
    rw [e, tell_new hs.2.2.2 (by omega) fun d hd e2 => hnd d (h5 d (.inr hd) (by rw [e2]; exact hj)) e2]

/-! ### .. in the list -/
theorem put_eq {l : List Sp} (h : (l.map Sp.f).Pairwise (· < ·)) (f : Int) (a : Dp) : putP l f a = l.filter (fun y => decide (y.f < f)) ++ withP (ofP l f) a :: l.filter (fun y => decide (f < y.f)) := by
  unfold putP outP
  cases e : hasV (l.map Sp.f) f with
  | true =>
    obtain ⟨s, hs, rfl⟩ := (has_iff h f).1 e
    rw [cond_true, at_has h hs rfl, ofP_mem h hs]
    exact set_eq h e _
  | false =>
    have hn : ∀ s ∈ l, s.f ≠ f := fun s hs e2 => by rw [(has_iff h f).2 ⟨s, hs, e2⟩] at e; cases e
    obtain ⟨h1, h2⟩ := ins_set (l := l) (atV (l.map Sp.f) f) (by have := atV_le (l.map Sp.f) f; rwa [List.length_map] at this) ⟨f, 0, []⟩ (withP ⟨f, 0, []⟩ a)
    rw [cond_false, h1]
    show (insP l _ _).set _ _ = _
    rw [h2, ins_eq h, none_gt hn, ofP_none h hn]
theorem mem_put {l : List Sp} (h : (l.map Sp.f).Pairwise (· < ·)) {f : Int} {a : Dp} {s : Sp} : s ∈ putP l f a ↔ s = withP (ofP l f) a ∨ (s ∈ l ∧ s.f ≠ f) := by
  rw [put_eq h]
  simp only [List.mem_append, List.mem_cons, List.mem_filter, decide_eq_true_eq]
  constructor
  · rintro (⟨h1, h2⟩ | h1 | ⟨h1, h2⟩)
    · exact .inr ⟨h1, by omega⟩
    · exact .inl h1
    · exact .inr ⟨h1, by omega⟩
  · rintro (h1 | ⟨h1, h2⟩)
    · exact .inr (.inl h1)
    · rcases Int.lt_or_gt_of_ne h2 with h3 | h3
      · exact .inl ⟨h1, h3⟩
      · exact .inr (.inr ⟨h1, h3⟩)
theorem put_len {l : List Sp} (h : (l.map Sp.f).Pairwise (· < ·)) (f : Int) (a : Dp) : (putP l f a).length ≤ l.length + 1 := by
  unfold putP outP
  have hi : (insP l (atV (l.map Sp.f) f) (⟨f, 0, []⟩ : Sp)).length ≤ l.length + 1 := by
    unfold insP
    have := atV_le (l.map Sp.f) f
    simp only [List.length_append, List.length_take, List.length_drop, List.length_map, List.length_singleton] at *
    omega
  cases hasV (l.map Sp.f) f <;> dsimp only [cond_true, cond_false] <;> split <;> (try rw [List.length_set]) <;> omega
/-- A request that is New. -/
structure NewAt (l : List Sp) (f : Int) (a : Dp) : Prop where
  ok : okL l = true
  f0 : 0 ≤ f
  new : (askP l f a.id).2 = 0
theorem NewAt.of {l : List Sp} {f : Int} {a : Dp} (h : NewAt l f a) : (ofP l f).b ≤ a.id ∧ ∀ d ∈ (ofP l f).l, d.id ≠ a.id := by
  have hk := (ofP_ok h.ok f).1
  have hnw := h.new
  unfold askP at hnw
  rw [h.ok, cond_true] at hnw
  rcases tell_cases (ofP l f) hk.2.2.2 a.id with ⟨-, e⟩ | ⟨-, d, -, -, e⟩ | ⟨h1, h2, -⟩
  · rw [e] at hnw; simp at hnw
  · rw [e] at hnw; simp at hnw
  · exact ⟨h1, h2⟩
theorem put_ok {l : List Sp} {f : Int} {a : Dp} (h : NewAt l f a) : okL (putP l f a) = true := by
  obtain ⟨h1, h2, h3⟩ := (okL_iff l).1 h.ok
  obtain ⟨hk, hf⟩ := ofP_ok h.ok f
  obtain ⟨w1, w2, -⟩ := with_ok hk h.of.1 h.of.2
  refine (okL_iff _).2 ⟨fun s hs => ?_, ?_, fun s hs => ?_⟩
  · rcases (mem_put h2).1 hs with rfl | ⟨hs, -⟩
    · rw [w2, hf]; exact h.f0
    · exact h1 s hs
  · rw [put_eq h2]
    exact rises_mid h2 _ (by rw [w2, hf])
  · rcases (mem_put h2).1 hs with rfl | ⟨hs, -⟩
    · exact w1
    · exact h3 s hs
theorem ofP_put {l : List Sp} {f : Int} {a : Dp} (h : NewAt l f a) (g : Int) : ofP (putP l f a) g = if g = f then withP (ofP l f) a else ofP l g := by
  obtain ⟨-, h2, -⟩ := (okL_iff l).1 h.ok
  obtain ⟨-, k2, -⟩ := (okL_iff _).1 (put_ok h)
  obtain ⟨hk, hf⟩ := ofP_ok h.ok f
  obtain ⟨w1, w2, -⟩ := with_ok hk h.of.1 h.of.2
  by_cases e : g = f
  · subst e
    rw [if_pos rfl]
    have := ofP_mem k2 ((mem_put h2).2 (.inl rfl))
    rwa [w2, hf] at this
  · rw [if_neg e]
    rcases ofP_cases h2 g with ⟨s, hs, rfl, e2⟩ | ⟨hn, e2⟩
    · rw [e2]
      exact ofP_mem k2 ((mem_put h2).2 (.inr ⟨hs, e⟩))
    · rw [e2]
      refine ofP_none k2 fun s hs => ?_
      rcases (mem_put h2).1 hs with rfl | ⟨hs, -⟩
      · rw [w2, hf]; exact fun e3 => e e3.symm
      · exact hn s hs
theorem ask_put {l : List Sp} {f : Int} {a : Dp} (h : NewAt l f a) (g j : Int) :
    (g ≠ f → askP (putP l f a) g j = askP l g j) ∧ (g = f → askP (putP l f a) g j = (m0, 2) ∨ (j = a.id ∧ askP (putP l f a) g j = (a.m, 1)) ∨ (j ≠ a.id ∧ askP (putP l f a) g j = askP l g j ∧ (askP l g j).2 ≠ 2)) := by
  unfold askP
  rw [put_ok h, h.ok, cond_true, cond_true, ofP_put h g]
  refine ⟨fun e => by rw [if_neg e], fun e => ?_⟩
  subst e
  rw [if_pos rfl]
  have hk := (ofP_ok h.ok g).1
  rcases tell_with hk h.of.1 h.of.2 j with e | e | ⟨h1, h2, h3⟩
  · exact .inl e
  · exact .inr (.inl e)
  · refine .inr (.inr ⟨h1, h3, fun h4 => ?_⟩)
    rw [tell_gone] at h4
    have := (with_ok hk h.of.1 h.of.2).2.2.1
    omega
/-- All numbers are in reach. -/
def BI (l : List Sp) : Prop := ∀ s ∈ l, ∀ d ∈ s.l, d.id ≤ 1152921504606846976
theorem BI.put {l : List Sp} {f : Int} {a : Dp} (hb : BI l) (h : NewAt l f a) (ha : a.id ≤ 1152921504606846976) : BI (putP l f a) := by
  obtain ⟨-, h2, -⟩ := (okL_iff l).1 h.ok
  obtain ⟨hk, hf⟩ := ofP_ok h.ok f
  obtain ⟨-, -, -, w4, -⟩ := with_ok hk h.of.1 h.of.2
  intro s hs d hd
  rcases (mem_put h2).1 hs with rfl | ⟨hs, -⟩
  · rcases w4 d hd with rfl | hd
    · exact ha
    · rcases ofP_cases h2 f with ⟨z, hz, -, e2⟩ | ⟨-, e2⟩
      · rw [e2] at hd; exact hb z hz d hd
      · rw [e2] at hd; cases hd
  · exact hb s hs d hd
theorem ok_nil : okL [] = true := rfl
theorem bi_nil : BI [] := fun _ h => by cases h
theorem ask_2 (l : List Sp) (hl : okL l = true) (f i : Int) : (askP l f i).2 = 0 ∨ (askP l f i).2 = 1 ∨ (askP l f i).2 = 2 := by
  unfold askP
  rw [hl, cond_true]
  rcases tell_cases (ofP l f) (ofP_ok hl f).1.2.2.2 i with ⟨-, e⟩ | ⟨-, d, -, -, e⟩ | ⟨-, -, e⟩ <;> rw [e] <;> simp
theorem done_cases (l : List Sp) (hl : okL l = true) (f i : Int) (m : Mp) :
    (doneP l f i m = (putP l f ⟨i, m⟩, 0) ∧ NewAt l f ⟨i, m⟩ ∧ 0 ≤ i) ∨ ((doneP l f i m).1 = [] ∧ (doneP l f i m).2 ≠ 0 ∧ ((askP l f i).2 ≠ 0 ∨ f < 0 ∨ i < 0)) := by
  unfold doneP
  rw [hl]
  by_cases h1 : f < 0
  · right; simp [h1]
  by_cases h2 : i < 0
  · right; simp [h2]
  rw [decide_eq_false h1, decide_eq_false h2]
  simp only [Bool.not_true, Bool.or_false, cond_false]
  rcases ask_2 l hl f i with e | e | e
  · left
    rw [e]
    exact ⟨rfl, ⟨hl, by omega, e⟩, by omega⟩
  · right; rw [e]; simp
  · right; rw [e]; simp
/-- Some forgotten. -/
theorem forget_ok {l : List Sp} (h : okL l = true) (fs : List Int) : okL (forgetP l fs) = true := by
  obtain ⟨h1, h2, h3⟩ := (okL_iff l).1 h
  unfold forgetP
  rw [h, cond_true]
  exact (okL_iff _).2 ⟨fun s hs => h1 s ((List.mem_filter.1 hs).1), h2.sublist ((List.filter_sublist).map _), fun s hs => h3 s ((List.mem_filter.1 hs).1)⟩
theorem ask_forget {l : List Sp} (h : okL l = true) (fs : List Int) (g j : Int) : askP (forgetP l fs) g j = if g ∈ fs then (bif decide (j < 0) then (m0, 2) else (m0, 0)) else askP l g j := by
  obtain ⟨h1, h2, h3⟩ := (okL_iff l).1 h
  have hk := forget_ok h fs
  obtain ⟨-, k2, -⟩ := (okL_iff _).1 hk
  have hm : ∀ s, s ∈ forgetP l fs ↔ s ∈ l ∧ s.f ∉ fs := fun s => by
    unfold forgetP
    rw [h, cond_true, List.mem_filter]
    simp
  unfold askP
  rw [hk, h, cond_true, cond_true]
  by_cases e : g ∈ fs
  · rw [if_pos e, ofP_none k2 fun s hs e2 => ((hm s).1 hs).2 (e2 ▸ e)]
    rfl
  · rw [if_neg e]
    rcases ofP_cases h2 g with ⟨s, hs, rfl, e2⟩ | ⟨hn, e2⟩
    · rw [e2, ofP_mem k2 ((hm s).2 ⟨hs, e⟩)]
    · rw [e2, ofP_none k2 fun s hs => hn s ((hm s).1 hs).1]
end Ded
end Go.Proofs.Ytndcflchdecofaa
