/-
  SEVERAL TEXTS IN ONE FILE: SpaMath.
-/
import Derived.Test.YtcpkgcckjphbfaaGreatJ01
/-
  span IN PLAIN: spans, which may be, and what each call comes to.
-/
namespace Go.Proofs.YtcpkgcckjphbfaaGreat
open Go.RowKit Mem
namespace Spa
structure Sp where
  fr : Int
  to : Int
  own : Int
  ep : Int
def zS : Sp := ⟨0, 0, 0, 0⟩
def errOf (b : Bool) : Int := bif b then 0 else 1
def hostB (h : Int) : Bool := decide (0 ≤ h) && decide (h < 8)
def mayOwn (o e : Int) : Bool := bif o == -1 then e == 0 else (hostB o && decide (1 ≤ e))
def spB (e : Int) (s : Sp) : Bool := (s.fr == e) && (decide (s.fr < s.to) && mayOwn s.own s.ep)
def goodF : Int → List Sp → Bool
  | _, [] => true
  | e, s :: r => spB e s && goodF s.to r
def endF : Int → List Sp → Int
  | e, [] => e
  | _, s :: r => endF s.to r
def okS (l : List Sp) : Bool := goodF 0 l && (!l.isEmpty && decide (endF 0 l ≤ 1099511627776))
def Ch : Int → List Sp → Int → Prop
  | e, [], e' => e = e'
  | e, s :: r, e' => s.fr = e ∧ s.fr < s.to ∧ Ch s.to r e'
def May (l : List Sp) : Prop := ∀ s ∈ l, mayOwn s.own s.ep = true

theorem mayOwn_iff {o e : Int} : mayOwn o e = true ↔ (o = -1 ∧ e = 0) ∨ (0 ≤ o ∧ o < 8 ∧ 1 ≤ e) := by
  unfold mayOwn hostB
  by_cases h : o = -1
  · subst h; simp
  · have : (o == -1) = false := by simpa using h
    simp only [this, cond_false, Bool.and_eq_true, decide_eq_true_eq]
    omega
theorem spB_iff {e : Int} {s : Sp} : spB e s = true ↔ s.fr = e ∧ s.fr < s.to ∧ mayOwn s.own s.ep = true := by
  unfold spB; simp only [Bool.and_eq_true, beq_iff_eq, decide_eq_true_eq]
theorem goodF_iff {e : Int} {l : List Sp} : goodF e l = true ↔ Ch e l (endF e l) ∧ May l := by
  induction l generalizing e with
  | nil => simp [goodF, Ch, endF, May]
  | cons s r ih =>
    simp only [goodF, Bool.and_eq_true, spB_iff, ih, Ch, endF, May, List.mem_cons, forall_eq_or_imp]
    constructor
    · rintro ⟨⟨a, b, c⟩, d, e⟩; exact ⟨⟨a, b, d⟩, c, e⟩
    · rintro ⟨⟨a, b, d⟩, c, e⟩; exact ⟨⟨a, b, c⟩, d, e⟩
theorem goodF_app {e : Int} {a b : List Sp} : goodF e (a ++ b) = (goodF e a && goodF (endF e a) b) := by
  induction a generalizing e with
  | nil => simp [goodF, endF]
  | cons s r ih => simp only [List.cons_append, goodF, endF, ih, Bool.and_assoc]
theorem endF_app {e : Int} {a b : List Sp} : endF e (a ++ b) = endF (endF e a) b := by
  induction a generalizing e with
  | nil => rfl
  | cons s r ih => simp only [List.cons_append, endF, ih]
theorem endF_last {e : Int} {l : List Sp} {s : Sp} (h : l.getLast? = some s) : endF e l = s.to := by
  obtain ⟨r, rfl⟩ := List.getLast?_eq_some_iff.1 h
  rw [endF_app]; rfl
/-- Spans that may be: one behind the other, all owners may be. -/
theorem okS_iff {l : List Sp} : okS l = true ↔ Ch 0 l (endF 0 l) ∧ May l ∧ l ≠ [] ∧ endF 0 l ≤ 1099511627776 := by
  unfold okS
  simp only [Bool.and_eq_true, goodF_iff, Bool.not_eq_true', List.isEmpty_eq_false_iff, decide_eq_true_eq, and_assoc]
theorem Ch.end_ {e e' : Int} {l : List Sp} (h : Ch e l e') : endF e l = e' := by
  induction l generalizing e with
  | nil => exact h
  | cons s r ih => exact ih h.2.2
theorem Ch.le {e e' : Int} {l : List Sp} (h : Ch e l e') : e ≤ e' := by
  induction l generalizing e with
  | nil => exact Int.le_of_eq h
  | cons s r ih => have := ih h.2.2; have := h.1; have := h.2.1; omega
theorem Ch.lt {e e' : Int} {l : List Sp} (h : Ch e l e') (hn : l ≠ []) : e < e' := by
  rcases l with _ | ⟨s, r⟩
  · exact absurd rfl hn
  · have := h.2.2.le; have := h.1; have := h.2.1; omega
theorem Ch.app {a b : List Sp} {e m e' : Int} (h : Ch e a m) (h2 : Ch m b e') : Ch e (a ++ b) e' := by
  induction a generalizing e with
  | nil => cases h; exact h2
  | cons s r ih => exact ⟨h.1, h.2.1, ih h.2.2⟩
theorem Ch.split {a b : List Sp} {e e' : Int} (h : Ch e (a ++ b) e') : ∃ m, Ch e a m ∧ Ch m b e' := by
  induction a generalizing e with
  | nil => exact ⟨e, rfl, h⟩
  | cons s r ih => obtain ⟨m, h1, h2⟩ := ih h.2.2; exact ⟨m, ⟨h.1, h.2.1, h1⟩, h2⟩
theorem Ch.mem {l : List Sp} {e e' : Int} (h : Ch e l e') {s : Sp} (hs : s ∈ l) : e ≤ s.fr ∧ s.fr < s.to ∧ s.to ≤ e' := by
  induction l generalizing e with
  | nil => cases hs
  | cons x r ih =>
    have h1 := h.1
    have h2 := h.2.1
    have h3 := h.2.2.le
    rcases List.mem_cons.1 hs with rfl | hs
    · exact ⟨by omega, h2, h3⟩
    · have := ih h.2.2 hs; exact ⟨by omega, this.2.1, this.2.2⟩
theorem okS_of {l : List Sp} {n : Int} (h : Ch 0 l n) (hm : May l) (h0 : 0 < n) (hn : n ≤ 1099511627776) : okS l = true := by
  refine okS_iff.2 ⟨by rw [h.end_]; exact h, hm, ?_, by rw [h.end_]; exact hn⟩
  rintro rfl
  have : (0 : Int) = n := h
  omega

/-! ### Whose a block is -/
def inS (k : Int) (s : Sp) : Bool := decide (s.fr ≤ k) && decide (k < s.to)
def findS (l : List Sp) (k : Int) : Option Sp := l.find? (inS k)
def who (l : List Sp) (k : Int) : Option (Int × Int) := (findS l k).map (fun s => (s.own, s.ep))
theorem inS_iff {k : Int} {s : Sp} : inS k s = true ↔ s.fr ≤ k ∧ k < s.to := by
  unfold inS; simp only [Bool.and_eq_true, decide_eq_true_eq]
theorem inS_false {k : Int} {s : Sp} : inS k s = false ↔ ¬ (s.fr ≤ k ∧ k < s.to) := by
  rw [← inS_iff, Bool.not_eq_true]
theorem findS_cons (s : Sp) (r : List Sp) (k : Int) : findS (s :: r) k = if s.fr ≤ k ∧ k < s.to then some s else findS r k := by
  unfold findS
  rw [List.find?_cons]
  by_cases h : s.fr ≤ k ∧ k < s.to
  · rw [if_pos h, inS_iff.2 h]
  · rw [if_neg h, inS_false.2 h]
theorem who_nil (k : Int) : who [] k = none := rfl
theorem who_cons (s : Sp) (r : List Sp) (k : Int) : who (s :: r) k = if s.fr ≤ k ∧ k < s.to then some (s.own, s.ep) else who r k := by
  unfold who
  rw [findS_cons]
  split <;> rfl
theorem findS_some {l : List Sp} {k : Int} {s : Sp} (h : findS l k = some s) : s ∈ l ∧ s.fr ≤ k ∧ k < s.to :=
  ⟨List.mem_of_find?_eq_some h, inS_iff.1 (List.find?_some h)⟩
theorem findS_out {l : List Sp} {e e' k : Int} (h : Ch e l e') (hk : k < e ∨ e' ≤ k) : findS l k = none := by
  unfold findS
  rw [List.find?_eq_none]
  intro s hs h1
  have := h.mem hs
  have := inS_iff.1 h1
  omega
theorem who_out {l : List Sp} {e e' k : Int} (h : Ch e l e') (hk : k < e ∨ e' ≤ k) : who l k = none := by
  unfold who; rw [findS_out h hk]; rfl
theorem findS_in {l : List Sp} {e e' k : Int} (h : Ch e l e') (h1 : e ≤ k) (h2 : k < e') : ∃ s, findS l k = some s := by
  induction l generalizing e with
  | nil => have : e = e' := h; omega
  | cons s r ih =>
    rw [findS_cons]
    split
    · exact ⟨s, rfl⟩
    · rename_i hn
      have := h.1
      exact ih h.2.2 (by omega)
theorem who_in {l : List Sp} {e e' k : Int} (h : Ch e l e') (h1 : e ≤ k) (h2 : k < e') : ∃ o p, who l k = some (o, p) := by
  obtain ⟨s, hs⟩ := findS_in h h1 h2
  exact ⟨s.own, s.ep, by unfold who; rw [hs]; rfl⟩
theorem who_mem {l : List Sp} {e e' k : Int} (h : Ch e l e') {s : Sp} (hs : s ∈ l) (hk : s.fr ≤ k ∧ k < s.to) : who l k = some (s.own, s.ep) := by
  induction l generalizing e with
  | nil => cases hs
  | cons x r ih =>
    rw [who_cons]
    rcases List.mem_cons.1 hs with rfl | hs
    · rw [if_pos hk]
    · have := h.2.2.mem hs
      rw [if_neg (by omega)]
      exact ih h.2.2 hs
theorem who_app {a b : List Sp} {e m e' : Int} (h : Ch e a m) (h2 : Ch m b e') (k : Int) : who (a ++ b) k = if k < m then who a k else who b k := by
  induction a generalizing e with
  | nil =>
    cases h
    rw [List.nil_append]
    split
    · rw [who_out h2 (.inl (by assumption))]; rfl
    · rfl
  | cons s r ih =>
    rw [List.cons_append, who_cons, who_cons, ih h.2.2]
    have := h.2.2.le
    split
    · rename_i h3; rw [if_pos (by omega)]
    · rfl

/-! ### Joined -/
def sameO (x s : Sp) : Bool := (x.own == s.own) && (x.ep == s.ep)
theorem sameO_iff {x s : Sp} : sameO x s = true ↔ x.own = s.own ∧ x.ep = s.ep := by unfold sameO; simp only [Bool.and_eq_true, beq_iff_eq]
def longer (x : Sp) (t : Int) : Sp := ⟨x.fr, t, x.own, x.ep⟩
def pushJ (out : List Sp) (s : Sp) : List Sp :=
  match out.getLast? with
  | none => [s]
  | some x => bif sameO x s then out.dropLast ++ [longer x s.to] else out ++ [s]
def joinF (out l : List Sp) : List Sp := l.foldl pushJ out
def joinS (l : List Sp) : List Sp := joinF [] l
theorem pushJ_nil (s : Sp) : pushJ [] s = [s] := rfl
theorem pushJ_snoc (a : List Sp) (x s : Sp) : pushJ (a ++ [x]) s = bif sameO x s then a ++ [longer x s.to] else a ++ [x] ++ [s] := by
  unfold pushJ
  rw [List.getLast?_concat]
  simp only [List.dropLast_concat]
theorem snoc_cases (l : List Sp) : l = [] ∨ ∃ a x, l = a ++ [x] := by
  rcases e : l.getLast? with _ | x
  · exact .inl (List.getLast?_eq_none_iff.1 e)
  · obtain ⟨r, rfl⟩ := List.getLast?_eq_some_iff.1 e
    exact .inr ⟨r, x, rfl⟩
/-- Two that belong together, or the one that they are. -/
theorem pushJ_two (out : List Sp) (x y : Sp) (h : x.own = y.own ∧ x.ep = y.ep) : pushJ (pushJ out x) y = pushJ out (longer x y.to) := by
  have hxy : sameO x y = true := sameO_iff.2 h
  rcases snoc_cases out with rfl | ⟨a, z, rfl⟩
  · have e : pushJ ([] ++ [x]) y = [] ++ [longer x y.to] := by rw [pushJ_snoc, hxy]; rfl
    exact e
  · have hl : sameO z (longer x y.to) = sameO z x := rfl
    rw [pushJ_snoc, pushJ_snoc, hl]
    rcases e : sameO z x
    · simp only [cond_false]
      rw [pushJ_snoc, hxy]; rfl
    · simp only [cond_true]
      have e1 := sameO_iff.1 e
      have : sameO (longer z x.to) y = true := sameO_iff.2 ⟨e1.1.trans h.1, e1.2.trans h.2⟩
      rw [pushJ_snoc, this]; rfl
theorem joinF_app (out a b : List Sp) : joinF out (a ++ b) = joinF (joinF out a) b := List.foldl_append ..
theorem joinF_cons (out : List Sp) (s : Sp) (r : List Sp) : joinF out (s :: r) = joinF (pushJ out s) r := rfl
theorem pushJ_len (out : List Sp) (s : Sp) : (pushJ out s).length ≤ out.length + 1 := by
  rcases snoc_cases out with rfl | ⟨a, z, rfl⟩
  · simp [pushJ_nil]
  · rw [pushJ_snoc]
    rcases sameO z s <;> simp
theorem joinF_len (out l : List Sp) : (joinF out l).length ≤ out.length + l.length := by
  induction l generalizing out with
  | nil => simp [joinF]
  | cons s r ih =>
    rw [joinF_cons]
    have := ih (pushJ out s)
    have := pushJ_len out s
    simp only [List.length_cons]; omega
theorem pushJ_ch {out : List Sp} {e m : Int} {s : Sp} (h : Ch e out m) (hs : s.fr = m) (ht : s.fr < s.to) : Ch e (pushJ out s) s.to := by
  rcases snoc_cases out with rfl | ⟨a, z, rfl⟩
  · cases h; exact ⟨hs, ht, rfl⟩
  · rw [pushJ_snoc]
    obtain ⟨k, h1, h2, h3, h4⟩ := h.split
    have h4 : z.to = m := h4
    rcases sameO z s
    · exact h.app ⟨hs, ht, rfl⟩
    · refine h1.app ⟨h2, ?_, rfl⟩
      show z.fr < s.to
      omega
theorem joinF_ch {out l : List Sp} {e m e' : Int} (h : Ch e out m) (h2 : Ch m l e') : Ch e (joinF out l) e' := by
  induction l generalizing out m with
  | nil => cases h2; exact h
  | cons s r ih => exact ih (pushJ_ch h h2.1 h2.2.1) h2.2.2
theorem joinS_ch {l : List Sp} {e : Int} {e' : Int} (h : Ch e l e') : Ch e (joinS l) e' := joinF_ch (m := e) rfl h
theorem pushJ_may {out : List Sp} {s : Sp} (h : May out) (hs : mayOwn s.own s.ep = true) : May (pushJ out s) := by
  rcases snoc_cases out with rfl | ⟨a, z, rfl⟩
  · intro x hx; simp [pushJ_nil] at hx; subst hx; exact hs
  · rw [pushJ_snoc]
    intro x hx
    rcases e : sameO z s
    · simp only [e, cond_false, List.mem_append, List.mem_singleton] at hx
      rcases hx with (hx | rfl) | rfl
      · exact h x (by simp [hx])
      · exact h x (by simp)
      · exact hs
    · simp only [e, cond_true, List.mem_append, List.mem_singleton] at hx
      rcases hx with hx | rfl
      · exact h x (by simp [hx])
      · exact h z (by simp)
theorem joinF_may {out l : List Sp} (h : May out) (hl : May l) : May (joinF out l) := by
  induction l generalizing out with
  | nil => exact h
  | cons s r ih => exact ih (pushJ_may h (hl s (by simp))) (fun x hx => hl x (by simp [hx]))
theorem joinS_may {l : List Sp} (hl : May l) : May (joinS l) := joinF_may (fun x hx => by cases hx) hl
theorem pushJ_who {out : List Sp} {e m : Int} {s : Sp} (h : Ch e out m) (hs : s.fr = m) (ht : s.fr < s.to) (k : Int) : who (pushJ out s) k = who (out ++ [s]) k := by
  rcases snoc_cases out with rfl | ⟨a, z, rfl⟩
  · rfl
  · rw [pushJ_snoc]
    obtain ⟨n, h1, h2, h3, h4⟩ := h.split
    have h4 : z.to = m := h4
    rcases e : sameO z s
    · rfl
    · have e1 := sameO_iff.1 e
      have e2 : Ch n [longer z s.to] s.to := ⟨h2, by show z.fr < s.to; omega, rfl⟩
      have e3 : Ch n [z, s] s.to := ⟨h2, h3, by omega, ht, rfl⟩
      rw [List.append_assoc, cond_true, who_app h1 e2, List.singleton_append, who_app h1 e3]
      split
      · rfl
      · rw [who_cons, who_cons, who_cons, who_nil]
        show (if z.fr ≤ k ∧ k < s.to then some (z.own, z.ep) else none) = _
        rw [e1.1, e1.2]
        by_cases c1 : z.fr ≤ k ∧ k < z.to
        · rw [if_pos c1, if_pos (by omega)]
        · rw [if_neg c1]
          by_cases c2 : s.fr ≤ k ∧ k < s.to
          · rw [if_pos c2, if_pos (by omega)]
          · rw [if_neg c2, if_neg (by omega)]
theorem joinF_who {out l : List Sp} {e m e' : Int} (h : Ch e out m) (h2 : Ch m l e') (k : Int) : who (joinF out l) k = who (out ++ l) k := by
  induction l generalizing out m with
  | nil => rw [List.append_nil]; rfl
  | cons s r ih =>
    have e1 := pushJ_ch h h2.1 h2.2.1
    rw [joinF_cons, ih e1 h2.2.2, who_app e1 h2.2.2, pushJ_who h h2.1 h2.2.1, show out ++ s :: r = (out ++ [s]) ++ r by simp, who_app (h.app ⟨h2.1, h2.2.1, rfl⟩ : Ch e (out ++ [s]) s.to) h2.2.2]
theorem joinS_who {l : List Sp} {e e' : Int} (h : Ch e l e') (k : Int) : who (joinS l) k = who l k := joinF_who (out := []) (m := e) rfl h k

/-! ### The joined form is one -/
def Apart : List Sp → Prop
  | [] => True
  | [_] => True
  | x :: y :: r => sameO x y = false ∧ Apart (y :: r)
theorem apart_tail {x : Sp} {r : List Sp} (h : Apart (x :: r)) : Apart r := by
  rcases r with _ | ⟨y, r⟩
  · exact trivial
  · exact h.2
theorem apart_snoc {a : List Sp} {x y : Sp} (h : Apart (a ++ [x])) (hy : sameO x y = false) : Apart (a ++ [x] ++ [y]) := by
  induction a with
  | nil => exact ⟨hy, trivial⟩
  | cons z a ih =>
    rcases a with _ | ⟨u, a⟩
    · exact ⟨h.1, hy, trivial⟩
    · exact ⟨h.1, ih h.2⟩
theorem apart_last {a : List Sp} {x : Sp} (t : Int) (h : Apart (a ++ [x])) : Apart (a ++ [longer x t]) := by
  induction a with
  | nil => exact trivial
  | cons z a ih =>
    rcases a with _ | ⟨u, a⟩
    · exact ⟨h.1, trivial⟩
    · exact ⟨h.1, ih h.2⟩
theorem pushJ_apart {out : List Sp} {s : Sp} (h : Apart out) : Apart (pushJ out s) := by
  rcases snoc_cases out with rfl | ⟨a, z, rfl⟩
  · exact trivial
  · rw [pushJ_snoc]
    rcases e : sameO z s
    · exact apart_snoc h e
    · exact apart_last _ h
theorem joinF_apart {out l : List Sp} (h : Apart out) : Apart (joinF out l) := by
  induction l generalizing out with
  | nil => exact h
  | cons s r ih => exact ih (pushJ_apart h)
theorem joinS_apart (l : List Sp) : Apart (joinS l) := joinF_apart trivial
theorem apart_eq {a b : List Sp} {e e' : Int} (ha : Ch e a e') (hb : Ch e b e') (pa : Apart a) (pb : Apart b) (hw : ∀ k, who a k = who b k) : a = b := by
  induction a generalizing e b with
  | nil =>
    rcases b with _ | ⟨y, b⟩
    · rfl
    · have h1 : e = e' := ha
      have := hb.lt (by simp); omega
  | cons x a ih =>
    rcases b with _ | ⟨y, b⟩
    · have h1 : e = e' := hb
      have := ha.lt (by simp); omega
    · have ha1 := ha.1
      have ha2 := ha.2.1
      have hb1 := hb.1
      have hb2 := hb.2.1
      have hw0 := hw e
      rw [who_cons, who_cons, if_pos (by omega), if_pos (by omega)] at hw0
      have hx : x.own = y.own ∧ x.ep = y.ep := by simpa using hw0
      have hto : x.to = y.to := by
        rcases Int.lt_trichotomy x.to y.to with h | h | h
        · rcases a with _ | ⟨z, a⟩
          · have h1 : x.to = e' := ha.2.2
            have := hb.2.2.le; omega
          · have h3 := ha.2.2.1
            have h4 := ha.2.2.2.1
            have h5 := hw x.to
            rw [who_cons, if_neg (by omega), who_cons, if_pos (by omega), who_cons, if_pos (by omega)] at h5
            have h6 : z.own = y.own ∧ z.ep = y.ep := by simpa using h5
            have h7 := pa.1
            rw [sameO_iff.2 ⟨hx.1.trans h6.1.symm, hx.2.trans h6.2.symm⟩] at h7
            cases h7
        · exact h
        · rcases b with _ | ⟨z, b⟩
          · have h1 : y.to = e' := hb.2.2
            have := ha.2.2.le; omega
          · have h3 := hb.2.2.1
            have h4 := hb.2.2.2.1
            have h5 := hw y.to
            rw [who_cons, if_pos (by omega), who_cons, if_neg (by omega), who_cons, if_pos (by omega)] at h5
            have h6 : x.own = z.own ∧ x.ep = z.ep := by simpa using h5
            have h7 := pb.1
            rw [sameO_iff.2 ⟨hx.1.symm.trans h6.1, hx.2.symm.trans h6.2⟩] at h7
            cases h7
      have hxy : x = y := by
        obtain ⟨x1, x2, x3, x4⟩ := x
        obtain ⟨y1, y2, y3, y4⟩ := y
        simp only at hx hto ha1 hb1
        obtain ⟨rfl, rfl⟩ := hx
        subst hto ha1 hb1
        rfl
      subst hxy
      congr 1
      refine ih ha.2.2 hb.2.2 (apart_tail pa) (apart_tail pb) (fun k => ?_)
      by_cases hk : k < x.to
      · rw [who_out ha.2.2 (.inl hk), who_out hb.2.2 (.inl hk)]
      · have := hw k
        rwa [who_cons, if_neg (by omega), who_cons, if_neg (by omega)] at this
/-- Spans that say the same of every block are the same when joined. -/
theorem join_eq {a b : List Sp} {e e' : Int} (ha : Ch e a e') (hb : Ch e b e') (hw : ∀ k, who a k = who b k) : joinS a = joinS b :=
  apart_eq (joinS_ch ha) (joinS_ch hb) (joinS_apart a) (joinS_apart b) (fun k => by rw [joinS_who ha, joinS_who hb, hw])
theorem join_again {l : List Sp} {e e' : Int} (h : Ch e l e') : joinS (joinS l) = joinS l :=
  join_eq (joinS_ch h) h (fun k => joinS_who h k)
end Spa
end Go.Proofs.YtcpkgcckjphbfaaGreat
