/-
  lease IN PLAIN: what is done with a table that may be leaves one that may be; what becomes of one thing's lease.
-/
import Derived.Test.YtehknenlifdchaaLeaRefN
import Derived.Test.YtehknenlifdchaaLeaRefS
namespace Go.Proofs.Ytehknenlifdchaa
open Go.RowKit Mem
namespace Lea

theorem split_at {l : List Lv} {key : Int} (hr : Rises l) (hh : heldB l key = false) : below_ l key ++ above_ l key = l := by
  induction l with
  | nil => rfl
  | cons x r ih =>
    have h1 : Rises r := (List.pairwise_cons.1 hr).2
    have h2 : heldB r key = false := held_false.2 (fun y hy => held_false.1 hh y (List.mem_cons_of_mem _ hy))
    have h3 : x.key ≠ key := held_false.1 hh x (by simp)
    have h4 := ih h1 h2
    unfold below_ above_ at h4 ⊢
    by_cases h5 : x.key < key
    · rw [List.filter_cons_of_pos (by simpa using h5), List.filter_cons_of_neg (by simp; omega), List.cons_append, h4]
    · have h6 : ∀ y ∈ r, key < y.key := fun y hy => by have := (List.pairwise_cons.1 hr).1 y hy; omega
      rw [List.filter_cons_of_neg (by simpa using h5), List.filter_cons_of_pos (by simp; omega), List.filter_eq_nil_iff.2 (fun y hy => by have := h6 y hy; simp; omega), List.filter_eq_self.2 (fun y hy => by have := h6 y hy; simpa using this), List.nil_append]
theorem putL_perm {l : List Lv} {key : Int} (x : Lv) (hr : Rises l) (hh : heldB l key = false) : (putL l key x).Perm (x :: l) := by
  unfold putL
  rw [List.append_assoc, List.singleton_append]
  refine List.perm_middle.trans ?_
  rw [split_at hr hh]
theorem putL_mem {l : List Lv} {key : Int} {x y : Lv} (hr : Rises l) (hh : heldB l key = false) : y ∈ putL l key x ↔ y = x ∨ y ∈ l := by
  rw [(putL_perm x hr hh).mem_iff, List.mem_cons]
theorem putL_len {l : List Lv} {key : Int} {x : Lv} (hr : Rises l) (hh : heldB l key = false) : (putL l key x).length = l.length + 1 := by
  rw [(putL_perm x hr hh).length_eq, List.length_cons]
theorem putL_rises {l : List Lv} {key : Int} {x : Lv} (hr : Rises l) (hx : x.key = key) : Rises (putL l key x) := by
  unfold putL below_ above_ Rises
  rw [List.pairwise_append, List.pairwise_append]
  refine ⟨⟨List.Pairwise.filter _ hr, by simp, ?_⟩, List.Pairwise.filter _ hr, ?_⟩
  · intro a ha b hb
    simp only [List.mem_filter, decide_eq_true_eq] at ha
    simp only [List.mem_singleton] at hb
    subst hb
    omega
  · intro a ha b hb
    simp only [List.mem_filter, decide_eq_true_eq] at hb
    simp only [List.mem_append, List.mem_filter, decide_eq_true_eq, List.mem_singleton] at ha
    rcases ha with ha | ha
    · omega
    · subst ha; omega
theorem putL_differ {l : List Lv} {key : Int} {x : Lv} (hr : Rises l) (hh : heldB l key = false) (hd : Differ l) (hx : ∀ y ∈ l, y.epoch ≠ x.epoch) : Differ (putL l key x) := by
  unfold Differ
  have hp := (putL_perm x hr hh).map Lv.epoch
  unfold List.Nodup
  rw [hp.pairwise_iff (fun h => Ne.symm h), List.map_cons, List.pairwise_cons]
  refine ⟨fun a ha => ?_, hd⟩
  obtain ⟨y, hy, rfl⟩ := List.mem_map.1 ha
  exact Ne.symm (hx y hy)
theorem butK_put {l : List Lv} {key : Int} {x : Lv} (hr : Rises l) (hh : heldB l key = false) (hx : x.key = key) : butK (putL l key x) key = l := by
  unfold butK putL
  rw [List.filter_append, List.filter_append]
  have h1 : (below_ l key).filter (fun x => !(x.key == key)) = below_ l key := by
    rw [List.filter_eq_self]; intro y hy; unfold below_ at hy; simp only [List.mem_filter, decide_eq_true_eq] at hy; simp; omega
  have h2 : (above_ l key).filter (fun x => !(x.key == key)) = above_ l key := by
    rw [List.filter_eq_self]; intro y hy; unfold above_ at hy; simp only [List.mem_filter, decide_eq_true_eq] at hy; simp; omega
  rw [h1, h2, List.filter_cons_of_neg (by simp [hx]), List.filter_nil, List.append_nil, split_at hr hh]
theorem find_put_other {l : List Lv} {a key : Int} {x : Lv} (hr : Rises l) (hh : heldB l a = false) (hx : x.key = a) (hne : a ≠ key) : findL (putL l a x) key = findL l key := by
  have h0 : findL l key = findL (below_ l a ++ above_ l a) key := by rw [split_at hr hh]
  rw [h0]
  unfold findL putL
  have : (x.key == key) = false := by rw [hx]; simpa using hne
  rw [List.find?_append, List.find?_append, List.find?_append, List.find?_cons, this, List.find?_nil]
  simp
theorem find_but_other {l : List Lv} {a key : Int} (hne : a ≠ key) : findL (butK l a) key = findL l key := by
  unfold findL butK
  rw [List.find?_filter]
  congr 1
  funext x
  by_cases h : x.key = key
  · simp [h, Ne.symm hne]
  · have : (x.key == key) = false := by simpa using h
    simp [this]
theorem find_but {l : List Lv} {key : Int} : heldB (butK l key) key = false := by
  rw [held_false]
  intro x hx
  unfold butK at hx
  simp only [List.mem_filter] at hx
  simpa using hx.2
theorem find_set {l : List Lv} {a key : Int} {f : Lv → Lv} (hf : ∀ x, (f x).key = x.key) : findL (setK l a f) key = (findL l key).map (fun x => bif x.key == a then f x else x) := by
  unfold findL setK
  rw [List.find?_map]
  congr 1
  congr 1
  funext x
  simp only [Function.comp]
  rcases x.key == a
  · rfl
  · simp [hf]
theorem find_set_other {l : List Lv} {a key : Int} {f : Lv → Lv} (hf : ∀ x, (f x).key = x.key) (hne : a ≠ key) : findL (setK l a f) key = findL l key := by
  rw [find_set hf]
  rcases e : findL l key with _ | x
  · rfl
  · have h1 := (find_some e).2
    have : (x.key == a) = false := by rw [h1]; simpa using Ne.symm hne
    simp [this]

/-! ### What may be stays so -/
theorem mayB_of {last now last' now' : Int} {x : Lv} (h : mayB last now x = true) (h1 : last ≤ last') (h2 : now' < x.til) : mayB last' now' x = true := by
  rw [mayB_iff] at h ⊢
  omega
theorem okT_grant {t : Tv} {key host ttl : Int} (hg : grantOk t key host ttl = true) (hh : heldB t.l key = false) : okT ⟨t.last + 1, t.now, putL t.l key (newL t key host ttl)⟩ = true := by
  unfold grantOk at hg
  simp only [Bool.and_eq_true, Bool.not_eq_true', decide_eq_false_iff_not] at hg
  obtain ⟨hok, hk, hho, hto⟩ := hg
  have hm := fun x hx => okT_may hok (x := x) hx
  obtain ⟨h1, h2, h3, h4, h5⟩ := okT_iff.1 hok
  refine okT_iff.2 ⟨by show (0 : Int) ≤ t.last + 1; omega, h2, putL_rises h3 rfl, putL_differ h3 hh h4 ?_, ?_⟩
  · intro y hy
    have := mayB_iff.1 (hm y hy)
    show y.epoch ≠ t.last + 1
    omega
  · intro y hy
    rcases (putL_mem h3 hh).1 hy with rfl | hy
    · refine mayB_iff.2 ?_
      unfold hostB at hho
      unfold ttlB at hto
      simp only [Bool.and_eq_true, decide_eq_true_eq] at hho hto
      show 0 ≤ key ∧ (0 ≤ host ∧ host < 8) ∧ 1 ≤ t.last + 1 ∧ t.last + 1 ≤ t.last + 1 ∧ t.now < t.now + ttl
      omega
    · have := mayB_iff.1 (hm y hy)
      exact mayB_of (hm y hy) (by show t.last ≤ t.last + 1; omega) (by show t.now < _; omega)
theorem okT_tick {t : Tv} {now : Int} (hok : okT t = true) (hn : t.now ≤ now) : okT ⟨t.last, now, t.l.filter (fun x => !decide (x.til ≤ now))⟩ = true := by
  obtain ⟨h1, h2, h3, h4, h5⟩ := okT_iff.1 hok
  refine okT_iff.2 ⟨h1, by show 0 ≤ now; omega, List.Pairwise.filter _ h3, List.Pairwise.sublist (List.Sublist.map _ List.filter_sublist) h4, ?_⟩
  intro x hx
  simp only [List.mem_filter, Bool.not_eq_true', decide_eq_false_iff_not] at hx
  exact mayB_of (h5 x hx.1) (Int.le_refl _) (by show now < _; omega)
theorem okT_but {t : Tv} {key : Int} (hok : okT t = true) : okT ⟨t.last, t.now, butK t.l key⟩ = true := by
  obtain ⟨h1, h2, h3, h4, h5⟩ := okT_iff.1 hok
  refine okT_iff.2 ⟨h1, h2, List.Pairwise.filter _ h3, List.Pairwise.sublist (List.Sublist.map _ List.filter_sublist) h4, ?_⟩
  intro x hx
  exact h5 x (List.mem_filter.1 (show x ∈ List.filter _ t.l from hx)).1
theorem okT_set {t : Tv} {key ttl : Int} (hok : okT t = true) : okT ⟨t.last, t.now, setK t.l key (longer t ttl)⟩ = true := by
  obtain ⟨h1, h2, h3, h4, h5⟩ := okT_iff.1 hok
  refine okT_iff.2 ⟨h1, h2, ?_, ?_, ?_⟩
  · unfold Rises setK
    rw [List.pairwise_map]
    refine List.Pairwise.imp ?_ h3
    intro a b hab
    rcases e1 : (a.key == key) <;> rcases e2 : (b.key == key) <;> simpa [longer] using hab
  · unfold Differ setK at *
    rw [List.map_map]
    have : (Lv.epoch ∘ fun x => bif x.key == key then longer t ttl x else x) = Lv.epoch := by
      funext x
      simp only [Function.comp]
      rcases x.key == key <;> rfl
    rw [this]
    exact h4
  · intro y hy
    unfold setK at hy
    obtain ⟨x, hx, rfl⟩ := List.mem_map.1 hy
    have h6 := mayB_iff.1 (h5 x hx)
    refine mayB_iff.2 ?_
    rcases x.key == key
    · exact h6
    · show 0 ≤ x.key ∧ (0 ≤ x.host ∧ x.host < 8) ∧ 1 ≤ x.epoch ∧ x.epoch ≤ t.last ∧ t.now < max x.til (t.now + ttl)
      omega
theorem okT_more {t : Tv} {last : Int} (hok : okT t = true) (h : t.last ≤ last) : okT ⟨last, t.now, t.l⟩ = true := by
  obtain ⟨h1, h2, h3, h4, h5⟩ := okT_iff.1 hok
  refine okT_iff.2 ⟨by show 0 ≤ last; omega, h2, h3, h4, ?_⟩
  intro x hx
  have h6 := mayB_iff.1 (h5 x hx)
  exact mayB_of (h5 x hx) h (by show t.now < _; omega)

/-! ### What is done, by its error -/
theorem tick_cases (t : Tv) (now : Int) : (okT t = true ∧ t.now ≤ now ∧ tickP t now = (⟨t.last, now, t.l.filter (fun x => !decide (x.til ≤ now))⟩, t.l.filter (fun x => decide (x.til ≤ now)), 0)) ∨ tickP t now = (zT, [], 1) := by
  unfold tickP
  rcases e : okT t && !decide (now < t.now)
  · exact .inr rfl
  · simp only [Bool.and_eq_true, Bool.not_eq_true', decide_eq_false_iff_not] at e
    exact .inl ⟨e.1, by omega, rfl⟩
theorem grant_cases (t : Tv) (key host ttl : Int) : (grantOk t key host ttl = true ∧ heldB t.l key = false ∧ grantP t key host ttl = (⟨t.last + 1, t.now, putL t.l key (newL t key host ttl)⟩, newL t key host ttl, 0)) ∨ ∃ er, er ≠ 0 ∧ grantP t key host ttl = (zT, zL, er) := by
  unfold grantP
  rcases e : grantOk t key host ttl
  · exact .inr ⟨1, by omega, rfl⟩
  · rcases e2 : heldB t.l key
    · exact .inl ⟨rfl, rfl, rfl⟩
    · exact .inr ⟨60, by omega, rfl⟩
theorem renew_cases (t : Tv) (key host epoch ttl : Int) : (okT t = true ∧ renewP t key host epoch ttl = (⟨t.last, t.now, setK t.l key (longer t ttl)⟩, 0)) ∨ ∃ er, er ≠ 0 ∧ renewP t key host epoch ttl = (zT, er) := by
  unfold renewP
  rcases e : okT t
  · exact .inr ⟨1, by omega, by simp⟩
  · rcases e1 : ttlB ttl
    · exact .inr ⟨1, by omega, by simp⟩
    · rcases e2 : heldB t.l key
      · exact .inr ⟨4, by omega, by simp⟩
      · rcases e3 : ((getL t.l key).host != host || (getL t.l key).epoch != epoch)
        · exact .inl ⟨rfl, by simp⟩
        · exact .inr ⟨61, by omega, by simp⟩
theorem revoke_cases (t : Tv) (key : Int) : (okT t = true ∧ revokeP t key = (⟨t.last, t.now, butK t.l key⟩, 0)) ∨ ∃ er, er ≠ 0 ∧ revokeP t key = (zT, er) := by
  unfold revokeP
  rcases e : okT t
  · exact .inr ⟨1, by omega, by simp⟩
  · rcases e2 : heldB t.l key
    · exact .inr ⟨4, by omega, by simp⟩
    · exact .inl ⟨rfl, by simp⟩
theorem grantOk_ok {t : Tv} {key host ttl : Int} (hg : grantOk t key host ttl = true) : okT t = true := by
  unfold grantOk at hg
  simp only [Bool.and_eq_true] at hg
  exact hg.1
/-- What something that is done comes to. -/
theorem body_cases (t : Tv) (o : Ov) :
    (o.d = 0 ∧ okT t = true ∧ t.now ≤ o.a ∧ bodyP t o = (⟨t.last, o.a, t.l.filter (fun x => !decide (x.til ≤ o.a))⟩, t.l.filter (fun x => decide (x.til ≤ o.a)), 0)) ∨
    (o.d = 1 ∧ grantOk t o.a o.b o.c = true ∧ heldB t.l o.a = false ∧ bodyP t o = (⟨t.last + 1, t.now, putL t.l o.a (newL t o.a o.b o.c)⟩, [newL t o.a o.b o.c], 0)) ∨
    (o.d = 2 ∧ okT t = true ∧ bodyP t o = (⟨t.last, t.now, setK t.l o.a (longer t o.c)⟩, [], 0)) ∨
    (o.d = 3 ∧ okT t = true ∧ bodyP t o = (⟨t.last, t.now, butK t.l o.a⟩, [], 0)) ∨
    (o.d ≠ 0 ∧ o.d ≠ 1 ∧ o.d ≠ 2 ∧ o.d ≠ 3 ∧ (bodyP t o).1 = t ∧ (bodyP t o).2.2 = 0) ∨
    ((bodyP t o).2.2 ≠ 0 ∧ (bodyP t o).1 = zT) := by
  unfold bodyP
  rcases e0 : (o.d == 0)
  · rcases e1 : (o.d == 1)
    · rcases e2 : (o.d == 2)
      · rcases e3 : (o.d == 3)
        · refine .inr (.inr (.inr (.inr (.inl ⟨by simpa using e0, by simpa using e1, by simpa using e2, by simpa using e3, rfl, rfl⟩))))
        · rcases revoke_cases t o.a with ⟨h1, h2⟩ | ⟨er, h1, h2⟩
          · exact .inr (.inr (.inr (.inl ⟨by simpa using e3, h1, by rw [h2]; rfl⟩)))
          · exact .inr (.inr (.inr (.inr (.inr ⟨by rw [h2]; exact h1, by rw [h2]; rfl⟩))))
      · rcases renew_cases t o.a o.b o.e o.c with ⟨h1, h2⟩ | ⟨er, h1, h2⟩
        · exact .inr (.inr (.inl ⟨by simpa using e2, h1, by rw [h2]; rfl⟩))
        · exact .inr (.inr (.inr (.inr (.inr ⟨by rw [h2]; exact h1, by rw [h2]; rfl⟩))))
    · rcases grant_cases t o.a o.b o.c with ⟨h1, h2, h3⟩ | ⟨er, h1, h2⟩
      · exact .inr (.inl ⟨by simpa using e1, h1, h2, by rw [h3]; rfl⟩)
      · exact .inr (.inr (.inr (.inr (.inr ⟨by rw [h2]; exact h1, by rw [h2]; rfl⟩))))
  · rcases tick_cases t o.a with ⟨h1, h2, h3⟩ | h
    · exact .inl ⟨by simpa using e0, h1, h2, by rw [h3]; rfl⟩
    · exact .inr (.inr (.inr (.inr (.inr ⟨by rw [h]; simp, by rw [h]; rfl⟩))))
theorem body_ok {t : Tv} {o : Ov} (hok : okT t = true) (he : (bodyP t o).2.2 = 0) : okT (bodyP t o).1 = true := by
  rcases body_cases t o with ⟨-, h1, h2, h3⟩ | ⟨-, h1, h2, h3⟩ | ⟨-, h1, h3⟩ | ⟨-, h1, h3⟩ | ⟨-, -, -, -, h1, -⟩ | ⟨h1, -⟩
  · rw [h3]; exact okT_tick h1 h2
  · rw [h3]; exact okT_grant h1 h2
  · rw [h3]; exact okT_set h1
  · rw [h3]; exact okT_but h1
  · rw [h1]; exact hok
  · exact absurd he h1
/-- How large a table may have become. -/
structure Bd (t : Tv) (j : Nat) : Prop where
  last : t.last ≤ 1152921504606846976 + j
  now : t.now ≤ 1152921504606846976
  len : t.l.length ≤ 100 + j
theorem Bd.up {t : Tv} {j : Nat} (h : Bd t j) : Bd t (j + 1) := ⟨by have := h.last; omega, h.now, by have := h.len; omega⟩
theorem body_bd {t : Tv} {o : Ov} {j : Nat} (h : Bd t j) (ha : o.d = 0 → o.a ≤ 1152921504606846976) (he : (bodyP t o).2.2 = 0) : Bd (bodyP t o).1 (j + 1) := by
  have hl := h.last
  have hn := h.now
  have hc := h.len
  rcases body_cases t o with ⟨h0, h1, h2, h3⟩ | ⟨-, h1, h2, h3⟩ | ⟨-, h1, h3⟩ | ⟨-, h1, h3⟩ | ⟨-, -, -, -, h1, -⟩ | ⟨h1, -⟩
  · rw [h3]
    exact ⟨by show t.last ≤ _; omega, ha h0, by have := List.length_filter_le (fun x : Lv => !decide (x.til ≤ o.a)) t.l; show (List.filter _ t.l).length ≤ _; omega⟩
  · rw [h3]
    refine ⟨by show t.last + 1 ≤ _; omega, hn, ?_⟩
    show (putL t.l o.a _).length ≤ _
    rw [putL_len (okT_rises (grantOk_ok h1)) h2]
    omega
  · rw [h3]
    exact ⟨by show t.last ≤ _; omega, hn, by show (setK t.l o.a _).length ≤ _; unfold setK; rw [List.length_map]; omega⟩
  · rw [h3]
    exact ⟨by show t.last ≤ _; omega, hn, by have := List.length_filter_le (fun x : Lv => !(x.key == o.a)) t.l; show (butK t.l o.a).length ≤ _; unfold butK; omega⟩
  · rw [h1]; exact h.up
  · exact absurd he h1
theorem few_bd {last now : Int} {n : Nat} {m : Nat} {l : List Lv} (hl : l.length = n) (h : fewB n m last now = true) : Bd ⟨last, now, l⟩ 0 ∧ n ≤ 100 ∧ m ≤ 100 ∧ last < 1152921504606846976 ∧ now < 1152921504606846976 := by
  unfold fewB nearB at h
  simp only [Bool.and_eq_true, decide_eq_true_eq] at h
  refine ⟨⟨by show last ≤ _; omega, by show now ≤ _; omega, by show l.length ≤ _; omega⟩, by omega, by omega, by omega, by omega⟩
theorem wrap_last {last : Int} (h0 : 0 ≤ last) (h : last ≤ 1152921504606847176) : IntKind.i64.wrap (last + 1) = last + 1 := by rw [IntKind.wrap_i64]; omega
theorem wrap_ttl {now ttl : Int} (h0 : 0 ≤ now) (h : now ≤ 1152921504606846976) (ht : ttlB ttl = true) : IntKind.i64.wrap (now + ttl) = now + ttl := by
  unfold ttlB at ht
  simp only [Bool.and_eq_true, decide_eq_true_eq] at ht
  rw [IntKind.wrap_i64]; omega
theorem Bd.wrapl {t : Tv} {j : Nat} (h : Bd t j) (hj : j ≤ 200) (hok : okT t = true) : IntKind.i64.wrap (t.last + 1) = t.last + 1 :=
  wrap_last (okT_iff.1 hok).1 (by have := h.last; omega)
theorem Bd.wrapt {t : Tv} {j : Nat} (h : Bd t j) (hok : okT t = true) {ttl : Int} (ht : ttlB ttl = true) : IntKind.i64.wrap (t.now + ttl) = t.now + ttl :=
  wrap_ttl (okT_iff.1 hok).2.1 h.now ht

/-! ### Another thing's lease -/
theorem hold_same {t u : Tv} {key : Int} (h1 : okT t = true) (h2 : okT u = true) (h : findL u.l key = findL t.l key) : holdP u key = holdP t key := by
  unfold holdP getL
  rw [h1, h2, find_held, find_held, h]
theorem apart_find {t : Tv} {o : Ov} {key : Int} (hd : o.d ≠ 0) (hne : o.a ≠ key) (he : (bodyP t o).2.2 = 0) : findL (bodyP t o).1.l key = findL t.l key := by
  rcases body_cases t o with ⟨h0, h1, h2, h3⟩ | ⟨-, h1, h2, h3⟩ | ⟨-, h1, h3⟩ | ⟨-, h1, h3⟩ | ⟨-, -, -, -, h1, -⟩ | ⟨h1, -⟩
  · exact absurd h0 hd
  · rw [h3]; exact find_put_other (okT_rises (grantOk_ok h1)) h2 rfl hne
  · rw [h3]; exact find_set_other (fun _ => rfl) hne
  · rw [h3]; exact find_but_other hne
  · rw [h1]
  · exact absurd he h1
theorem apart_bad {t : Tv} {o : Ov} (he : (bodyP t o).2.2 ≠ 0) : (bodyP t o).1 = zT := by
  rcases body_cases t o with ⟨h0, h1, h2, h3⟩ | ⟨-, h1, h2, h3⟩ | ⟨-, h1, h3⟩ | ⟨-, h1, h3⟩ | ⟨-, -, -, -, -, h1⟩ | ⟨-, h1⟩
  · rw [h3] at he; exact absurd rfl he
  · rw [h3] at he; exact absurd rfl he
  · rw [h3] at he; exact absurd rfl he
  · rw [h3] at he; exact absurd rfl he
  · exact absurd h1 he
  · exact h1

/-! ### The time that is told next -/
theorem next_all (t : Tv) : nextP t [] = bif okT t then leastU t.l else 0 := rfl
theorem next_tick1 {t : Tv} (hok : okT t = true) (hne : t.l ≠ []) : t.now < leastU t.l ∧ tickP t (leastU t.l - 1) = (⟨t.last, leastU t.l - 1, t.l⟩, [], 0) := by
  obtain ⟨x, hx, e⟩ := leastU_mem hne
  have h1 := mayB_iff.1 (okT_may hok hx)
  refine ⟨by omega, ?_⟩
  unfold tickP
  have : decide (leastU t.l - 1 < t.now) = false := decide_eq_false (by omega)
  rw [hok, this]
  simp only [Bool.not_false, Bool.and_true, cond_true]
  rw [List.filter_eq_self.2 (fun y hy => by have := leastU_le hy; simp; omega), List.filter_eq_nil_iff.2 (fun y hy => by have := leastU_le hy; simp; omega)]
theorem next_tick2 {t : Tv} (hok : okT t = true) (hne : t.l ≠ []) : ∃ l1 l2, tickP t (leastU t.l) = (⟨t.last, leastU t.l, l2⟩, l1, 0) ∧ l1 ≠ [] ∧ l2.length + l1.length = t.l.length ∧ ∀ x ∈ l1, x.til = leastU t.l := by
  obtain ⟨x, hx, e⟩ := leastU_mem hne
  have h1 := mayB_iff.1 (okT_may hok hx)
  refine ⟨t.l.filter (fun x => decide (x.til ≤ leastU t.l)), t.l.filter (fun x => !decide (x.til ≤ leastU t.l)), ?_, ?_, ?_, ?_⟩
  · unfold tickP
    have : decide (leastU t.l < t.now) = false := decide_eq_false (by omega)
    rw [hok, this]
    rfl
  · intro h
    rw [List.filter_eq_nil_iff] at h
    exact h x hx (by simp; omega)
  · have h2 : ∀ (l : List Lv) (p : Lv → Bool), (l.filter (fun x => !p x)).length + (l.filter p).length = l.length := by
      intro l p
      induction l with
      | nil => rfl
      | cons y r ih =>
        rcases e : p y
        · rw [List.filter_cons_of_pos (by simp [e]), List.filter_cons_of_neg (by simp [e]), List.length_cons, List.length_cons]; omega
        · rw [List.filter_cons_of_neg (by simp [e]), List.filter_cons_of_pos (by simp [e]), List.length_cons, List.length_cons]; omega
    exact h2 t.l _
  · intro y hy
    simp only [List.mem_filter, decide_eq_true_eq] at hy
    have := leastU_le hy.1
    omega
def upTo (l : List Lv) (k : Int) : Nat := (l.filter (fun x => decide (x.host < k))).length
theorem upTo_zero {l : List Lv} (h : ∀ x ∈ l, 0 ≤ x.host) : upTo l 0 = 0 := by
  unfold upTo
  rw [List.filter_eq_nil_iff.2 (fun x hx => by have := h x hx; simp; omega)]; rfl
theorem upTo_end {l : List Lv} (h : ∀ x ∈ l, x.host < 8) : upTo l 8 = l.length := by
  unfold upTo
  rw [List.filter_eq_self.2 (fun x hx => by have := h x hx; simpa using this)]
theorem upTo_next (l : List Lv) (k : Int) : upTo l (k + 1) = upTo l k + ((l.filter (fun x => x.host == k)).map Lv.key).length := by
  unfold upTo
  rw [List.length_map]
  induction l with
  | nil => rfl
  | cons x r ih =>
    rcases Int.lt_trichotomy x.host k with h | h | h
    · rw [List.filter_cons_of_pos (by simp; omega), List.filter_cons_of_pos (by simpa using h), List.filter_cons_of_neg (by simp; omega), List.length_cons, List.length_cons, ih]; omega
    · rw [List.filter_cons_of_pos (by simp; omega), List.filter_cons_of_neg (by simp; omega), List.filter_cons_of_pos (by simpa using h), List.length_cons, List.length_cons, ih]; omega
    · rw [List.filter_cons_of_neg (by simp; omega), List.filter_cons_of_neg (by simp; omega), List.filter_cons_of_neg (by simp; omega), ih]
end Lea
end Go.Proofs.Ytehknenlifdchaa
