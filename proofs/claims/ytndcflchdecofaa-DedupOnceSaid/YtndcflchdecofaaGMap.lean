/-
  MAPS IN MEMORY, in one for all keys and elements: made, written, deleted from, asked, counted, ranged over. (Program-free but for its name.)
-/
import Derived.Test.YtndcflchdecofaaBox
import Derived.Maps.OwnOps
import Derived.Maps.RangeRun
import Derived.Maps.Keyed
namespace Go.Proofs.Ytndcflchdecofaa
open Go.RowKit Go.MapKept Mem Box
namespace GM

/-! ### Plain -/
section
variable {κ V : Type} [DecidableEq κ]
def getB : List (κ × V) → κ → Option V
  | [], _ => none
  | k :: r, n => if k.1 = n then some k.2 else getB r n
def setB : List (κ × V) → κ → V → List (κ × V)
  | [], n, v => [(n, v)]
  | k :: r, n, v => if k.1 = n then (n, v) :: r else k :: setB r n v
def delB : List (κ × V) → κ → List (κ × V)
  | [], _ => []
  | k :: r, n => if k.1 = n then r else k :: delB r n
/-- No key twice. -/
def KN : List (κ × V) → Prop
  | [] => True
  | k :: r => getB r k.1 = none ∧ KN r
theorem get_set (ks : List (κ × V)) (n : κ) (v : V) (m : κ) : getB (setB ks n v) m = if m = n then some v else getB ks m := by
  induction ks with
  | nil =>
    simp only [setB, getB]
    by_cases h : m = n
    · rw [if_pos h, if_pos h.symm]
    · rw [if_neg h, if_neg (Ne.symm h)]
  | cons k r ih =>
    unfold setB
    by_cases h : k.1 = n
    · rw [if_pos h]
      simp only [getB]
      by_cases h2 : m = n
      · simp [h2]
      · simp only [h, if_neg (Ne.symm h2), if_neg h2]
    · rw [if_neg h]
      simp only [getB, ih]
      by_cases h2 : k.1 = m
      · rw [if_pos h2, if_pos h2, if_neg (fun e => h (h2.trans e))]
      · rw [if_neg h2, if_neg h2]
theorem kn_set {ks : List (κ × V)} (h : KN ks) (n : κ) (v : V) : KN (setB ks n v) := by
  induction ks with
  | nil => exact ⟨rfl, trivial⟩
  | cons k r ih =>
    unfold setB
    by_cases hk : k.1 = n
    · rw [if_pos hk]
      exact ⟨by rw [← hk]; exact h.1, h.2⟩
    · rw [if_neg hk]
      exact ⟨by rw [get_set, if_neg hk]; exact h.1, ih h.2⟩
theorem get_del {ks : List (κ × V)} (h : KN ks) (n m : κ) : getB (delB ks n) m = if m = n then none else getB ks m := by
  induction ks with
  | nil => simp [delB, getB]
  | cons k r ih =>
    unfold delB
    by_cases hk : k.1 = n
    · rw [if_pos hk, getB]
      by_cases hm : m = n
      · rw [if_pos hm, hm, ← hk]; exact h.1
      · rw [if_neg hm, if_neg (fun e => hm (e.symm.trans hk))]
    · rw [if_neg hk, getB, getB, ih h.2]
      by_cases hm : m = n
      · rw [if_pos hm, if_neg (fun e => hk (e.trans hm)), if_pos hm]
      · rw [if_neg hm, if_neg hm]
theorem kn_del {ks : List (κ × V)} (h : KN ks) (n : κ) : KN (delB ks n) := by
  induction ks with
  | nil => trivial
  | cons k r ih =>
    unfold delB
    by_cases hk : k.1 = n
    · rw [if_pos hk]; exact h.2
    · rw [if_neg hk]
      refine ⟨?_, ih h.2⟩
      rw [get_del h.2, h.1]
      split <;> rfl
theorem len_set_none {ks : List (κ × V)} {n : κ} (h : getB ks n = none) (v : V) : (setB ks n v).length = ks.length + 1 := by
  induction ks with
  | nil => rfl
  | cons k r ih =>
    unfold getB at h
    unfold setB
    by_cases hk : k.1 = n
    · rw [if_pos hk] at h; cases h
    · rw [if_neg hk] at h ⊢
      simp [ih h]
theorem len_set_some {ks : List (κ × V)} {n : κ} {u : V} (h : getB ks n = some u) (v : V) : (setB ks n v).length = ks.length := by
  induction ks with
  | nil => cases h
  | cons k r ih =>
    unfold getB at h
    unfold setB
    by_cases hk : k.1 = n
    · rw [if_pos hk]; rfl
    · rw [if_neg hk] at h ⊢
      simp [ih h]
theorem len_del_some {ks : List (κ × V)} {n : κ} {u : V} (h : getB ks n = some u) : (delB ks n).length + 1 = ks.length := by
  induction ks with
  | nil => cases h
  | cons k r ih =>
    unfold getB at h
    unfold delB
    by_cases hk : k.1 = n
    · rw [if_pos hk]; rfl
    · rw [if_neg hk] at h ⊢
      simp [ih h]
theorem get_mem {ks : List (κ × V)} {n : κ} {v : V} (h : getB ks n = some v) : (n, v) ∈ ks := by
  induction ks with
  | nil => cases h
  | cons k r ih =>
    unfold getB at h
    by_cases hk : k.1 = n
    · rw [if_pos hk] at h
      injection h with h
      subst hk h
      exact List.mem_cons_self
    · rw [if_neg hk] at h
      exact List.mem_cons_of_mem _ (ih h)
theorem mem_get {ks : List (κ × V)} (hk : KN ks) {x : κ × V} (h : x ∈ ks) : getB ks x.1 = some x.2 := by
  induction ks with
  | nil => cases h
  | cons k r ih =>
    unfold getB
    rcases List.mem_cons.1 h with rfl | h
    · rw [if_pos rfl]
    · by_cases e : k.1 = x.1
      · have := ih hk.2 h
        rw [← e, hk.1] at this
        cases this
      · rw [if_neg e]; exact ih hk.2 h
end

theorem kn_one {κ V : Type} [DecidableEq κ] {ks : List (κ × V)} (h : KN ks) : ∀ {i j : Nat} {a b : κ × V}, ks[i]? = some a → ks[j]? = some b → a.1 = b.1 → i = j := by
  induction ks with
  | nil => intro i j a b ha; simp at ha
  | cons k r ih =>
    intro i j a b ha hb hab
    have hno : ∀ c ∈ r, c.1 ≠ k.1 := fun c hc e => by
      have := mem_get h.2 hc
      rw [e, h.1] at this
      cases this
    rcases i with _ | i
    · rcases j with _ | j
      · rfl
      · simp only [List.getElem?_cons_zero, Option.some.injEq, List.getElem?_cons_succ] at ha hb
        subst ha
        exact absurd hab.symm (hno b (List.mem_of_getElem? hb))
    · rcases j with _ | j
      · simp only [List.getElem?_cons_zero, Option.some.injEq, List.getElem?_cons_succ] at ha hb
        subst hb
        exact absurd hab (hno a (List.mem_of_getElem? ha))
      · simp only [List.getElem?_cons_succ] at ha hb
        rw [ih h.2 ha hb hab]

/-! ### In memory -/
/-- What the laws ask of a key's type. -/
structure Ky (P : Program) (kt : TypeId) {κ : Type} (mk : κ → Value) (ok : κ → Prop) : Prop where
  inj : ∀ {a b : κ}, mk a = mk b → a = b
  check : ∀ (w : World) (em : Bool) (x : κ), ok x → (Instr.checkKey em 10000 kt (mk x)).run P w = .ok () w
  stays : ∀ (w : World) (x : κ), ok x → (Instr.keyThatStays (mk x) (mk x)).run P w = .ok (mk x) w
  find : ∀ (w : World) (x : κ), ok x → ∀ es : List MapEntry, (∀ e ∈ es, ∃ y, ok y ∧ e.key = mk y) →
    ((Instr.findKey kt (mk x) es).run P w = .ok none w ∧ ∀ e ∈ es, e.key ≠ mk x) ∨ ∃ j e, (Instr.findKey kt (mk x) es).run P w = .ok (some (j, e.val)) w ∧ es[j]? = some e ∧ e.key = mk x
theorem ky_keyed {P : Program} {kt : TypeId} {κ : Type} {mk : κ → Value} {ok : κ → Prop} (K : Maps.Keyed P kt) (hi : ∀ {a b : κ}, mk a = mk b → a = b) (hok : ∀ x, ok x → ∃ l, keyOf P kt (mk x) = some l) : Ky P kt mk ok where
  inj := hi
  check w em x hx := by obtain ⟨l, hl⟩ := hok x hx; exact K.check w em hl
  stays w x hx := by obtain ⟨l, hl⟩ := hok x hx; exact K.stays w hl
  find w x hx es hes := by
    obtain ⟨l, hl⟩ := hok x hx
    exact K.find w hl es fun e he => by
      obtain ⟨y, hy, e1⟩ := hes e he
      obtain ⟨l, hl⟩ := hok y hy
      exact ⟨l, by rw [e1]; exact hl⟩
theorem ky_int {P : Program} {kt : TypeId} {q : IntKind} (hk : P.underlying kt = some (.int q)) : Ky P kt (Value.int q) (fun _ => True) where
  inj h := by injection h
  check w em x _ := MapKept.run_checkKey hk (show IsKey (.int q) (.int q x) from rfl) em 9999
  stays w x _ := MapKept.run_keyThatStays (show IsKey (.int q) (.int q x) from rfl)
  find w x _ es hes := by
    have hks : ∀ y ∈ es, IsKey (.int q) y.key := fun y hy => by
      obtain ⟨z, -, e⟩ := hes y hy
      rw [e]; rfl
    rcases findNow_spec (show IsKey (.int q) (.int q x) from rfl) es 0 hks with ⟨h1, h2⟩ | ⟨j, e0, h1, h2, h3⟩
    · exact Or.inl ⟨MapKept.run_findKey hk h1, h2⟩
    · exact Or.inr ⟨j, e0, by simpa using MapKept.run_findKey hk h1, h2, h3⟩

section
variable {P : Program} {t kt et : TypeId} {κ V : Type} [DecidableEq κ] {mk : κ → Value} {ok : κ → Prop} {bt : V → Value}
def Ents (mk : κ → Value) (bt : V → Value) (es : List MapEntry) (ks : List (κ × V)) : Prop := es.map (fun x => (x.key, x.val)) = ks.map (fun k => (mk k.1, bt k.2))
omit [DecidableEq κ] in
theorem Ents.at {es : List MapEntry} {ks : List (κ × V)} (h : Ents mk bt es ks) {i : Nat} {e : MapEntry} (he : es[i]? = some e) : ∃ k, ks[i]? = some k ∧ e.key = mk k.1 ∧ e.val = bt k.2 := by
  have := congrArg (·[i]?) h
  simp only [List.getElem?_map, he, Option.map_some] at this
  obtain ⟨k, hk, e1⟩ := Option.map_eq_some_iff.1 this.symm
  injection e1 with e1 e2
  exact ⟨k, hk, e1.symm, e2.symm⟩
omit [DecidableEq κ] in
theorem Ents.length {es : List MapEntry} {ks : List (κ × V)} (h : Ents mk bt es ks) : es.length = ks.length := by
  have := congrArg List.length h
  simpa using this
structure FMap (mk : κ → Value) (ok : κ → Prop) (bt : V → Value) (w : World) (r : Nat) (ks : List (κ × V)) : Prop where
  blk : ∃ es clock, w.heap[r]? = some (.map es clock) ∧ Ents mk bt es.toList ks ∧ (∀ x ∈ es.toList, x.born < clock) ∧ (es.toList.map (·.born)).Nodup
  ok : ∀ k ∈ ks, ok k.1
  kn : KN ks
variable {w w' : World} {r : Nat} {ks : List (κ × V)}
theorem FMap.lt (h : FMap mk ok bt w r ks) : r < w.heap.size := by obtain ⟨es, c, h1, -⟩ := h.blk; exact (Array.getElem?_eq_some_iff.1 h1).1
theorem FMap.keep (h : FMap mk ok bt w r ks) (hb : w'.heap[r]? = w.heap[r]?) : FMap mk ok bt w' r ks := by
  obtain ⟨es, c, h1, h2⟩ := h.blk
  exact ⟨⟨es, c, hb.trans h1, h2⟩, h.ok, h.kn⟩
theorem FMap.below (h : FMap mk ok bt w r ks) (hb : Below w.heap.size w w') : FMap mk ok bt w' r ks := h.keep (hb.block r h.lt)
theorem FMap.mov {S : List Nat} (h : FMap mk ok bt w r ks) (hb : Mov S w w') (hn : r ∉ S) : FMap mk ok bt w' r ks := h.keep (hb.block r h.lt hn)
theorem FMap.made (mk : κ → Value) (ok : κ → Prop) (bt : V → Value) (w : World) : FMap mk ok bt (w.alloc (.map #[] 0)) w.heap.size [] := ⟨⟨#[], 0, heap_alloc_new w _, rfl, by simp, by simp⟩, by simp, trivial⟩
/-- A block of cells is no map. -/
theorem FMap.ne {g : Nat} {t : TypeId} {cs : Array Value} {fr : Nat × Nat} (h : FMap mk ok bt w r ks) (hc : w.heap[g]? = some (.cells cs t fr)) : g ≠ r := by
  rintro rfl
  obtain ⟨es, c, h1, -⟩ := h.blk
  rw [h1] at hc
  cases hc
/-- A key, found or not. -/
theorem find_ents (K : Ky P kt mk ok) {es : List MapEntry} {ks : List (κ × V)} (h : Ents mk bt es ks) (hk : ∀ k ∈ ks, ok k.1) (hkn : KN ks) (w : World) {n : κ} (hn : ok n) :
    (∃ j e v, (Instr.findKey kt (mk n) es).run P w = .ok (some (j, bt v)) w ∧ getB ks n = some v ∧ es[j]? = some e ∧ e.key = mk n ∧ (∀ u, Ents mk bt (es.modify j (fun e => { e with key := mk n, val := bt u })) (setB ks n u)) ∧ Ents mk bt (es.eraseIdx j) (delB ks n)) ∨
    ((Instr.findKey kt (mk n) es).run P w = .ok none w ∧ getB ks n = none ∧ (∀ u, setB ks n u = ks ++ [(n, u)]) ∧ delB ks n = ks) := by
  have plain : ∀ (es : List MapEntry) (ks : List (κ × V)), Ents mk bt es ks → (∀ e ∈ es, e.key ≠ mk n) → getB ks n = none ∧ (∀ u, setB ks n u = ks ++ [(n, u)]) ∧ delB ks n = ks := by
    intro es
    induction es with
    | nil =>
      intro ks h _
      have : ks = [] := by simpa [Ents] using h
      subst this
      exact ⟨rfl, fun _ => rfl, rfl⟩
    | cons e es ih =>
      intro ks h hne
      match ks, h with
      | [], h => simp [Ents] at h
      | k :: ks, h =>
        simp only [Ents, List.map_cons, List.cons.injEq, Prod.mk.injEq] at h
        obtain ⟨⟨h1, h2⟩, h3⟩ := h
        obtain ⟨g1, g2, g3⟩ := ih ks h3 (fun e he => hne e (List.mem_cons_of_mem _ he))
        have hkn : ¬ k.1 = n := fun e1 => hne e List.mem_cons_self (by rw [h1, e1])
        refine ⟨by rw [getB, if_neg hkn]; exact g1, fun u => by rw [setB, if_neg hkn, g2]; rfl, by rw [delB, if_neg hkn, g3]⟩
  have found : ∀ (es : List MapEntry) (ks : List (κ × V)) (j : Nat) (e : MapEntry), Ents mk bt es ks → es[j]? = some e → e.key = mk n → (∀ i e', i < j → es[i]? = some e' → e'.key ≠ mk n) →
      ∃ v, e.val = bt v ∧ getB ks n = some v ∧ (∀ u, Ents mk bt (es.modify j (fun e => { e with key := mk n, val := bt u })) (setB ks n u)) ∧ Ents mk bt (es.eraseIdx j) (delB ks n) := by
    intro es
    induction es with
    | nil => intro ks j e _ h; simp at h
    | cons x es ih =>
      intro ks j e h hj he hbef
      match ks, h with
      | [], h => simp [Ents] at h
      | k :: ks, h =>
        simp only [Ents, List.map_cons, List.cons.injEq, Prod.mk.injEq] at h
        obtain ⟨⟨h1, h2⟩, h3⟩ := h
        rcases j with _ | j
        · simp only [List.getElem?_cons_zero, Option.some.injEq] at hj
          subst hj
          have hkn : k.1 = n := K.inj (h1.symm.trans he)
          refine ⟨k.2, h2, by rw [getB, if_pos hkn], fun u => ?_, ?_⟩
          · simp only [setB, if_pos hkn, Ents, List.modify_zero_cons, List.map_cons]
            rw [show es.map (fun x => (x.key, x.val)) = _ from h3]
          · simp only [delB, if_pos hkn, List.eraseIdx_cons_zero]
            exact h3
        · have hkn : ¬ k.1 = n := fun e1 => hbef 0 x (by omega) rfl (by rw [h1, e1])
          obtain ⟨v, g1, g2, g3, g4⟩ := ih ks j e h3 (by simpa using hj) he (fun i e' hi he' => hbef (i + 1) e' (by omega) (by simpa using he'))
          refine ⟨v, g1, by rw [getB, if_neg hkn]; exact g2, fun u => ?_, ?_⟩
          · simp only [setB, if_neg hkn, Ents, List.modify_succ_cons, List.map_cons, h1, h2]
            rw [show (List.modify es j _).map (fun x => (x.key, x.val)) = _ from g3 u]
          · simp only [delB, if_neg hkn, Ents, List.eraseIdx_cons_succ, List.map_cons, h1, h2]
            rw [show (List.eraseIdx es j).map (fun x => (x.key, x.val)) = _ from g4]
  have hes : ∀ e ∈ es, ∃ y, ok y ∧ e.key = mk y := fun e he => by
    obtain ⟨i, hi⟩ := List.getElem?_of_mem he
    obtain ⟨k, h1, h2, -⟩ := h.at hi
    exact ⟨k.1, hk k (List.mem_of_getElem? h1), h2⟩
  rcases K.find w n hn es hes with ⟨h1, h2⟩ | ⟨j, e, h1, h2, h3⟩
  · obtain ⟨g1, g2, g3⟩ := plain es ks h h2
    exact .inr ⟨h1, g1, g2, g3⟩
  · obtain ⟨k, hkj, hke, -⟩ := h.at h2
    obtain ⟨v, g1, g2, g3, g4⟩ := found es ks j e h h2 h3 fun i e' hi he' e1 => by
      obtain ⟨k', hki, hke', -⟩ := h.at he'
      have := kn_one hkn hki hkj (K.inj (by rw [← hke', ← hke, e1, h3]))
      omega
    exact .inl ⟨j, e, v, by rw [h1, g1], g2, h2, h3, g3, g4⟩
theorem mapButs {w : World} {r : Nat} {es : Array MapEntry} {clock : Nat} (hb : w.heap[r]? = some (.map es clock)) (o : Obj) : Mov [r] w { w with heap := w.heap.setIfInBounds r o } :=
  ⟨rfl, rfl, rfl, by simp, fun k _ hn => (MapKept.heap_set hb (o' := o)).2 k (fun e => hn (by rw [e]; exact List.mem_singleton.2 rfl))⟩
variable (K : Ky P kt mk ok) (ht : P.underlying t = some (.map kt et))
include K ht
/-- m[n] = v. -/
theorem run_put (h : FMap mk ok bt w r ks) {n : κ} (hn : ok n) (v : V) : ∃ w', (Instr.mapUpdate t (.map (some r)) (mk n) (bt v)).run P w = .ok () w' ∧ FMap mk ok bt w' r (setB ks n v) ∧ Mov [r] w w' ∧ w'.heap.size = w.heap.size := by
  obtain ⟨es, clock, hb, he, hborn, hnd⟩ := h.blk
  have hok' : ∀ k ∈ setB ks n v, ok k.1 := by
    have : ∀ (ks : List (κ × V)), (∀ k ∈ ks, ok k.1) → ∀ k ∈ setB ks n v, ok k.1 := by
      intro ks
      induction ks with
      | nil =>
        intro _ k hk
        obtain rfl := List.mem_singleton.1 hk
        exact hn
      | cons x r ih =>
        intro h0 k hk
        unfold setB at hk
        split at hk
        · rcases List.mem_cons.1 hk with rfl | hk
          · exact hn
          · exact h0 k (List.mem_cons_of_mem _ hk)
        · rcases List.mem_cons.1 hk with rfl | hk
          · exact h0 _ List.mem_cons_self
          · exact ih (fun k hk => h0 k (List.mem_cons_of_mem _ hk)) k hk
    exact this ks h.ok
  rcases find_ents K he h.ok h.kn w hn with ⟨j, e, v0, g1, g2, g3, g4, g5, -⟩ | ⟨g1, -, g3, -⟩
  · have ge : es[j]? = some e := by simpa using g3
    refine ⟨{ w with heap := w.heap.setIfInBounds r (.map (es.modify j fun e => { e with key := mk n, val := bt v }) clock) }, ?_, ⟨⟨_, clock, (MapKept.heap_set hb (o' := _)).1, ?_, ?_, ?_⟩, hok', kn_set h.kn n v⟩, mapButs hb _, by simp⟩
    · simp [Instr.mapUpdate, run_underlying ht, MapKept.run_getObj_map (P := P) hb, K.check w _ n hn, g1, MapKept.run_setObj_map (P := P) _ hb, Result.andThen, ge, g4, K.stays w n hn]
    · rw [Array.toList_modify]; exact g5 v
    · rw [Array.toList_modify]
      intro x hx
      have : x.born ∈ (es.toList.modify j fun e => { e with key := mk n, val := bt v }).map (·.born) := List.mem_map.2 ⟨x, hx, rfl⟩
      rw [show (es.toList.modify j fun e => { e with key := mk n, val := bt v }).map (·.born) = es.toList.map (·.born) from ?_] at this
      · obtain ⟨y, hy, e1⟩ := List.mem_map.1 this
        rw [← e1]; exact hborn y hy
      · apply List.ext_getElem?
        intro i
        simp only [List.getElem?_map, List.getElem?_modify]
        split <;> cases es.toList[i]? <;> rfl
    · rw [Array.toList_modify]
      rw [show (es.toList.modify j fun e => { e with key := mk n, val := bt v }).map (·.born) = es.toList.map (·.born) from ?_]
      · exact hnd
      · apply List.ext_getElem?
        intro i
        simp only [List.getElem?_map, List.getElem?_modify]
        split <;> cases es.toList[i]? <;> rfl
  · refine ⟨{ w with heap := w.heap.setIfInBounds r (.map (es.push ⟨mk n, bt v, clock⟩) (clock + 1)) }, ?_, ⟨⟨_, clock + 1, (MapKept.heap_set hb (o' := _)).1, ?_, ?_, ?_⟩, hok', kn_set h.kn n v⟩, mapButs hb _, by simp⟩
    · simp [Instr.mapUpdate, run_underlying ht, MapKept.run_getObj_map (P := P) hb, K.check w _ n hn, g1, MapKept.run_setObj_map (P := P) _ hb, Result.andThen]
    · rw [g3]
      unfold Ents at he ⊢
      simp [he]
    · intro x hx
      simp only [Array.toList_push, List.mem_append, List.mem_singleton] at hx
      rcases hx with hx | rfl
      · have := hborn x hx; omega
      · exact Nat.lt_succ_self _
    · simp only [Array.toList_push, List.map_append, List.map_cons, List.map_nil]
      refine List.nodup_append.2 ⟨hnd, by simp, fun a ha b hb => ?_⟩
      obtain ⟨y, hy, rfl⟩ := List.mem_map.1 ha
      obtain rfl := List.mem_singleton.1 hb
      have := hborn y hy
      omega
/-- delete(m, n). -/
theorem run_del (h : FMap mk ok bt w r ks) {n : κ} (hn : ok n) (ty : TypeId) : ∃ w', (Builtin.delete_ #[t, kt] ty #[.map (some r), mk n]).run P w = .ok (.tuple #[]) w' ∧ FMap mk ok bt w' r (delB ks n) ∧ Mov [r] w w' ∧ w'.heap.size = w.heap.size := by
  obtain ⟨es, clock, hb, he, hborn, hnd⟩ := h.blk
  have hok' : ∀ k ∈ delB ks n, ok k.1 := by
    have : ∀ (ks : List (κ × V)), (∀ k ∈ ks, ok k.1) → ∀ k ∈ delB ks n, ok k.1 := by
      intro ks
      induction ks with
      | nil => intro h0 k hk; cases hk
      | cons x r ih =>
        intro h0 k hk
        unfold delB at hk
        split at hk
        · exact h0 k (List.mem_cons_of_mem _ hk)
        · rcases List.mem_cons.1 hk with rfl | hk
          · exact h0 _ List.mem_cons_self
          · exact ih (fun k hk => h0 k (List.mem_cons_of_mem _ hk)) k hk
    exact this ks h.ok
  rcases find_ents K he h.ok h.kn w hn with ⟨j, e, v0, g1, g2, g3, g4, -, g6⟩ | ⟨g1, -, -, g4⟩
  · have hjs : j < es.size := by have := (List.getElem?_eq_some_iff.1 g3).1; simpa using this
    have hsub : (es.eraseIdxIfInBounds j).toList = es.toList.eraseIdx j := by
      unfold Array.eraseIdxIfInBounds
      rw [dif_pos hjs]
      simp
    refine ⟨{ w with heap := w.heap.setIfInBounds r (.map (es.eraseIdxIfInBounds j) clock) }, ?_, ⟨⟨_, clock, (MapKept.heap_set hb (o' := _)).1, ?_, ?_, ?_⟩, hok', kn_del h.kn n⟩, mapButs hb _, by simp⟩
    · simp [Builtin.delete_, run_underlying ht, MapKept.run_getObj_map (P := P) hb, K.check w _ n hn, g1, MapKept.run_setObj_map (P := P) _ hb, Result.andThen]
    · rw [hsub]; exact g6
    · rw [hsub]; exact fun x hx => hborn x ((List.eraseIdx_sublist _ _).subset hx)
    · rw [hsub]; exact ((List.eraseIdx_sublist _ _).map _).nodup hnd
  · refine ⟨{ w with heap := w.heap.setIfInBounds r (.map es clock) }, ?_, ⟨⟨es, clock, (MapKept.heap_set hb (o' := _)).1, by rw [g4]; exact he, hborn, hnd⟩, hok', kn_del h.kn n⟩, mapButs hb _, by simp⟩
    simp [Builtin.delete_, run_underlying ht, MapKept.run_getObj_map (P := P) hb, K.check w _ n hn, g1, MapKept.run_setObj_map (P := P) _ hb, Result.andThen]
/-- m[n]; z: the element's zero value. -/
theorem run_get (h : FMap mk ok bt w r ks) {z : Value} (hz : (zeroValue et).run P w = .ok z w) {n : κ} (hn : ok n) : (Instr.lookup t (.map (some r)) (mk n) false).run P w = .ok (((getB ks n).map bt).getD z) w := by
  obtain ⟨es, clock, hb, he, hborn, hnd⟩ := h.blk
  rcases find_ents K he h.ok h.kn w hn with ⟨j, e, v0, g1, g2, -⟩ | ⟨g1, g2, -⟩
  · rw [g2]
    simp [Instr.lookup, run_underlying ht, MapKept.run_getObj_map (P := P) hb, K.check w _ n hn, g1, Result.andThen]
  · rw [g2]
    simp [Instr.lookup, run_underlying ht, MapKept.run_getObj_map (P := P) hb, K.check w _ n hn, g1, Result.andThen, hz]
/-- v, ok := m[n]. -/
theorem run_get_ok (h : FMap mk ok bt w r ks) {z : Value} (hz : (zeroValue et).run P w = .ok z w) {n : κ} (hn : ok n) : (Instr.lookup t (.map (some r)) (mk n) true).run P w = .ok (.tuple #[((getB ks n).map bt).getD z, .bool (getB ks n).isSome]) w := by
  obtain ⟨es, clock, hb, he, hborn, hnd⟩ := h.blk
  rcases find_ents K he h.ok h.kn w hn with ⟨j, e, v0, g1, g2, -⟩ | ⟨g1, g2, -⟩
  · rw [g2]
    simp [Instr.lookup, run_underlying ht, MapKept.run_getObj_map (P := P) hb, K.check w _ n hn, g1, Result.andThen]
  · rw [g2]
    simp [Instr.lookup, run_underlying ht, MapKept.run_getObj_map (P := P) hb, K.check w _ n hn, g1, Result.andThen, hz]
omit K
theorem run_len (h : FMap mk ok bt w r ks) (ty : TypeId) : (Builtin.len_ #[t] ty #[.map (some r)]).run P w = .ok (.int .i64 (ks.length : Int)) w := by
  obtain ⟨es, clock, hb, he, -⟩ := h.blk
  have hl : es.size = ks.length := by
    have := he.length
    simpa using this
  simp [Builtin.len_, run_underlying ht, MapKept.run_getObj_map (P := P) hb, goInt, Result.andThen, hl]
omit ht

/-! ### Ranged over -/
/-- Block q is an iterator over the map at r; rest: what is still to come. -/
structure Rng (mk : κ → Value) (ok : κ → Prop) (bt : V → Value) (w : World) (r q : Nat) (ks rest : List (κ × V)) : Prop where
  it : ∃ es clock since seen c0, w.heap[r]? = some (.map es clock) ∧ Ents mk bt es.toList ks ∧ (∀ x ∈ es.toList, x.born < clock) ∧ (es.toList.map (·.born)).Nodup ∧
    w.heap[q]? = some (.mapIter (some r) since seen c0) ∧ (∀ x ∈ es.toList, x.born < since) ∧ since ≤ c0 ∧ since ≤ clock ∧ Ents mk bt (leftOf es seen).toList rest
  ok : ∀ k ∈ ks, ok k.1
  kn : KN ks
  sub : ∀ k ∈ rest, k ∈ ks
theorem Rng.lt {q : Nat} {rest : List (κ × V)} (h : Rng mk ok bt w r q ks rest) : q < w.heap.size ∧ r < w.heap.size := by
  obtain ⟨es, clock, since, seen, c0, h1, -, -, -, h2, -⟩ := h.it
  exact ⟨(Array.getElem?_eq_some_iff.1 h2).1, (Array.getElem?_eq_some_iff.1 h1).1⟩
theorem Rng.map {q : Nat} {rest : List (κ × V)} (h : Rng mk ok bt w r q ks rest) : FMap mk ok bt w r ks := by
  obtain ⟨es, clock, since, seen, c0, h1, h2, h3, h4, -⟩ := h.it
  exact ⟨⟨es, clock, h1, h2, h3, h4⟩, h.ok, h.kn⟩
theorem Rng.keep {q : Nat} {rest : List (κ × V)} (h : Rng mk ok bt w r q ks rest) (hr : w'.heap[r]? = w.heap[r]?) (hq : w'.heap[q]? = w.heap[q]?) : Rng mk ok bt w' r q ks rest := by
  obtain ⟨es, clock, since, seen, c0, h1, h2, h3, h4, h5, h6⟩ := h.it
  exact ⟨⟨es, clock, since, seen, c0, hr.trans h1, h2, h3, h4, hq.trans h5, h6⟩, h.ok, h.kn, h.sub⟩
theorem Rng.below {q : Nat} {rest : List (κ × V)} (h : Rng mk ok bt w r q ks rest) (hb : Below w.heap.size w w') : Rng mk ok bt w' r q ks rest := h.keep (hb.block r h.lt.2) (hb.block q h.lt.1)
include ht
theorem run_range (h : FMap mk ok bt w r ks) : ∃ w', (Instr.range t (.map (some r))).run P w = .ok (.pointer (some ⟨w.heap.size, 0, none⟩)) w' ∧ Rng mk ok bt w' r w.heap.size ks ks ∧ Below w.heap.size w w' := by
  obtain ⟨es, clock, hb, he, hborn, hnd⟩ := h.blk
  have hr := h.lt
  refine ⟨_, run_range_map w t kt et r es clock ht hb, ⟨⟨es, clock, clock, #[], clock, ?_, he, hborn, hnd, heap_alloc_new w _, hborn, Nat.le_refl _, Nat.le_refl _, ?_⟩, h.ok, h.kn, fun k hk => hk⟩, (Below.refl _ w).alloc (Nat.le_refl _) _⟩
  · exact (heap_alloc_old w _ hr).trans hb
  · have : leftOf es #[] = es := by unfold leftOf; simp
    rw [this]; exact he
omit ht
omit [DecidableEq κ] in
theorem ents_sub : ∀ {L' L : List MapEntry}, L'.Sublist L → ∀ {rest : List (κ × V)}, Ents mk bt L rest → ∃ rest', Ents mk bt L' rest' ∧ rest'.Sublist rest := by
  intro L' L h
  induction h with
  | slnil => intro rest _; exact ⟨[], rfl, List.nil_sublist _⟩
  | cons a hs ih =>
    intro rest hr
    match rest, hr with
    | [], hr => simp [Ents] at hr
    | k :: rest, hr =>
      simp only [Ents, List.map_cons, List.cons.injEq] at hr
      obtain ⟨r', h1, h2⟩ := ih hr.2
      exact ⟨r', h1, h2.cons _⟩
  | cons_cons a hs ih =>
    intro rest hr
    match rest, hr with
    | [], hr => simp [Ents] at hr
    | k :: rest, hr =>
      simp only [Ents, List.map_cons, List.cons.injEq] at hr
      obtain ⟨r', h1, h2⟩ := ih hr.2
      refine ⟨k :: r', ?_, h2.cons_cons _⟩
      simp only [Ents, List.map_cons, List.cons.injEq]
      exact ⟨hr.1, h1⟩
omit [DecidableEq κ] in
theorem Ents.mem {es : List MapEntry} {ks : List (κ × V)} (h : Ents mk bt es ks) {e : MapEntry} (he : e ∈ es) : ∃ k ∈ ks, e.key = mk k.1 ∧ e.val = bt k.2 := by
  obtain ⟨i, hi⟩ := List.getElem?_of_mem he
  obtain ⟨k, h1, h2⟩ := h.at hi
  exact ⟨k, List.mem_of_getElem? h1, h2⟩
omit [DecidableEq κ] in
theorem Ents.mem' {es : List MapEntry} {ks : List (κ × V)} (h : Ents mk bt es ks) {k : κ × V} (hk : k ∈ ks) : ∃ e ∈ es, e.key = mk k.1 ∧ e.val = bt k.2 := by
  have : (mk k.1, bt k.2) ∈ es.map (fun x => (x.key, x.val)) := by
    rw [show es.map (fun x => (x.key, x.val)) = _ from h]
    exact List.mem_map.2 ⟨k, hk, rfl⟩
  obtain ⟨e, he, e1⟩ := List.mem_map.1 this
  injection e1 with e1 e2
  exact ⟨e, he, e1, e2⟩
theorem kn_eq {ks : List (κ × V)} (h : KN ks) {a b : κ × V} (ha : a ∈ ks) (hb : b ∈ ks) (e : a.1 = b.1) : a = b := by
  have h1 := mem_get h ha
  have h2 := mem_get h hb
  rw [e, h2] at h1
  injection h1 with h1
  exact Prod.ext e h1.symm
theorem born_eq : ∀ {l : List MapEntry}, (l.map (·.born)).Nodup → ∀ {a b : MapEntry}, a ∈ l → b ∈ l → a.born = b.born → a = b
  | [], _, a, _, ha, _, _ => by cases ha
  | x :: l, hn, a, b, ha, hb, e => by
    have hn' : x.born ∉ l.map (·.born) ∧ (l.map (·.born)).Nodup := List.nodup_cons.1 hn
    rcases List.mem_cons.1 ha with e1 | ha
    · rcases List.mem_cons.1 hb with e2 | hb
      · rw [e1, e2]
      · exact absurd (List.mem_map.2 ⟨b, hb, by rw [← e, e1]⟩) hn'.1
    · rcases List.mem_cons.1 hb with e2 | hb
      · exact absurd (List.mem_map.2 ⟨a, ha, by rw [e, e2]⟩) hn'.1
      · exact born_eq hn'.2 ha hb e
include K
/-- A step: nothing is left, or one that is left comes, whichever. -/
theorem run_next {q : Nat} {rest : List (κ × V)} (h : Rng mk ok bt w r q ks rest) (ty : TypeId) :
    (rest = [] ∧ (Instr.next (.pointer (some ⟨q, 0, none⟩)) false ty).run P w = .ok (.tuple #[.bool false]) w) ∨
    ∃ k rest' w', k ∈ rest ∧ rest'.length < rest.length ∧ (∀ x ∈ rest, x = k ∨ x ∈ rest') ∧ (∀ x ∈ rest', x ∈ rest) ∧ (Instr.next (.pointer (some ⟨q, 0, none⟩)) false ty).run P w = .ok (.tuple #[.bool true, mk k.1, bt k.2]) w' ∧ Rng mk ok bt w' r q ks rest' ∧ Mov [q] w w' ∧ w'.heap.size = w.heap.size ∧
      (Instr.entry (.pointer (some ⟨q, 0, none⟩))).run P w' = .ok (.tuple #[mk k.1, bt k.2]) w' := by
  obtain ⟨es, clock, since, seen, c0, h1, h2, h3, h4, h5, h6, h7, h7', h8⟩ := h.it
  have hqr : q ≠ r := by
    rintro rfl
    rw [h1] at h5
    cases h5
  rcases run_next_at w ty q r since c0 seen es clock h5 h1 h6 h7 with ⟨h0, hrun⟩ | ⟨e, he, w1, hw1, hrun⟩
  · refine .inl ⟨?_, hrun⟩
    have := h8.length
    rw [Array.length_toList, h0] at this
    exact List.eq_nil_of_length_eq_zero this.symm
  · refine .inr ?_
    have hem : e ∈ es.toList := by
      unfold leftOf at he
      simp at he ⊢
      exact he.1
    obtain ⟨k, hk, hk1, hk2⟩ := h8.mem he
    have hsub : (leftOf es (seen.push e.born)).toList.Sublist (leftOf es seen).toList := by
      have : (leftOf es (seen.push e.born)).toList = (leftOf es seen).toList.filter (fun x => !(x.born == e.born)) := by
        unfold leftOf
        rw [Array.toList_filter, Array.toList_filter, List.filter_filter]
        refine List.filter_congr fun x _ => ?_
        cases h1 : seen.contains x.born <;> cases h2 : x.born == e.born <;> simp_all
      rw [this]
      exact List.filter_sublist
    have hin : ∀ x ∈ (leftOf es seen).toList, x = e ∨ x ∈ (leftOf es (seen.push e.born)).toList := fun x hx => by
      unfold leftOf at hx ⊢
      simp at hx ⊢
      by_cases hxe : x.born = e.born
      · exact .inl (born_eq h4 (by simpa using hx.1) hem hxe)
      · exact .inr ⟨hx.1, hx.2, hxe⟩
    have hnot : e ∉ (leftOf es (seen.push e.born)).toList := fun hx => by
      unfold leftOf at hx
      simp at hx
    obtain ⟨rest', hr1, hr2⟩ := ents_sub hsub h8
    have hs1 : w1.heap[q]? = some (.mapIter (some r) since seen c0) := by rcases hw1 with rfl | rfl <;> exact h5
    have hr1' : w1.heap[r]? = some (.map es clock) := by rcases hw1 with rfl | rfl <;> exact h1
    have hset := MapKept.heap_set (o' := Obj.mapIter (some r) since (seen.push e.born) clock) hs1
    have hmov : Mov [q] w (ChangeMaps.setBlock w1 q (.mapIter (some r) since (seen.push e.born) clock)) := by
      refine ⟨?_, ?_, ?_, ?_, fun b hb hn => (hset.2 b (fun e => hn (by rw [e]; exact List.mem_singleton.2 rfl))).trans ?_⟩
      · rcases hw1 with rfl | rfl <;> rfl
      · rcases hw1 with rfl | rfl <;> rfl
      · rcases hw1 with rfl | rfl <;> rfl
      · rcases hw1 with rfl | rfl <;> simp [ChangeMaps.setBlock]
      · rcases hw1 with rfl | rfl <;> rfl
    have hRr := (hset.2 r (Ne.symm hqr)).trans hr1'
    refine ⟨k, rest', _, hk, ?_, ?_, fun x hx => hr2.subset hx, by rw [hrun, hk1, hk2], ⟨⟨es, clock, since, seen.push e.born, clock, hRr, h2, h3, h4, hset.1, h6, h7', h7', hr1⟩, h.ok, h.kn, fun x hx => h.sub x (hr2.subset hx)⟩, hmov, ?_, ?_⟩
    · rw [← hr1.length, ← h8.length]
      have hlen := hsub.length_le
      rcases Nat.lt_or_ge (leftOf es (seen.push e.born)).toList.length (leftOf es seen).toList.length with h' | h'
      · exact h'
      · exact absurd (by rw [hsub.eq_of_length_le h']; exact he) hnot
    · intro x hx
      obtain ⟨y, hy, hy1, -⟩ := h8.mem' hx
      rcases hin y hy with rfl | hy'
      · exact .inl (kn_eq h.kn (h.sub x hx) (h.sub k hk) (K.inj (by rw [← hy1, ← hk1])))
      · obtain ⟨z, hz, hz1, -⟩ := hr1.mem hy'
        have : z = x := kn_eq h.kn (h.sub z (hr2.subset hz)) (h.sub x hx) (K.inj (by rw [← hz1, ← hy1]))
        exact .inr (this ▸ hz)
    · rcases hw1 with rfl | rfl <;> simp [ChangeMaps.setBlock]
    · rw [run_entry_at _ q r since seen es clock e hset.1 hRr hem h4, hk1, hk2]
end
end GM
end Go.Proofs.Ytndcflchdecofaa
