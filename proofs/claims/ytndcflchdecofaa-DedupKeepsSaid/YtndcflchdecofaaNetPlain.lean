/-
  NETS IN PLAIN: what is picked, sent, written.
-/
import Derived.Test.YtndcflchdecofaaNetPick
namespace Go.Proofs.Ytndcflchdecofaa
open Go.RowKit Mem Box
namespace Net
open Wire (B8 encM)

theorem filter_yes {α : Type} (l : List α) : l.filter (fun _ => true) = l := List.filter_eq_self.2 fun _ _ => rfl
theorem pick_cons {α : Type} (x : α) (l : List α) (at_ : List Nat) : pickP (x :: l) (at_.map Nat.succ) = pickP l at_ := by
  unfold pickP
  rw [List.filterMap_map]
  rfl
theorem pick_filter {α : Type} (q : α → Bool) (l : List α) : pickP l (placesP l.length (fun i => (l[i]?).any q)) = l.filter q := by
  induction l with
  | nil => rfl
  | cons x l ih =>
    unfold placesP at *
    rw [List.length_cons, List.range_succ_eq_map, List.filter_cons, List.filter_map]
    have e : ((fun i => ((x :: l)[i]?).any q) ∘ Nat.succ) = fun i => (l[i]?).any q := by funext i; simp
    rw [e, List.filter_cons]
    have h0 : ((x :: l)[0]?).any q = q x := rfl
    rw [h0]
    rcases q x with _ | _
    · simp only [Bool.false_eq_true, if_false]
      rw [pick_cons, ih]
    · simp only [if_true]
      have : pickP (x :: l) (0 :: List.map Nat.succ (List.filter (fun i => (l[i]?).any q) (List.range l.length))) = x :: pickP (x :: l) (List.map Nat.succ (List.filter (fun i => (l[i]?).any q) (List.range l.length))) := by simp [pickP]
      rw [this, pick_cons, ih]
theorem pick_all {α : Type} (l : List α) : pickP l (List.range l.length) = l := by
  have := pick_filter (fun _ => true) l
  rw [filter_yes] at this
  rw [show placesP l.length (fun i => (l[i]?).any (fun _ => true)) = List.range l.length from ?_] at this
  · exact this
  · unfold placesP
    rw [List.filter_eq_self]
    intro i hi
    have hlt : i < l.length := by simpa using hi
    simp [hlt]
theorem pick_others {α : Type} (l : List α) (j : Nat) : pickP l (placesP l.length (fun i => (i : Int) != (j : Int))) = l.eraseIdx j := by
  induction l generalizing j with
  | nil => simp [placesP, pickP]
  | cons x l ih =>
    unfold placesP at *
    rw [List.length_cons, List.range_succ_eq_map, List.filter_cons, List.filter_map]
    rcases j with _ | j
    · have e : ((fun i : Nat => (i : Int) != ((0 : Nat) : Int)) ∘ Nat.succ) = fun _ => true := by
        funext i
        simp only [Function.comp, bne_iff_ne, ne_eq]
        omega
      rw [e, filter_yes]
      simp only [List.eraseIdx_cons_zero, Int.natCast_zero, bne_self_eq_false, Bool.false_eq_true, if_false]
      rw [pick_cons, pick_all]
    · have e : ((fun i : Nat => (i : Int) != ((j + 1 : Nat) : Int)) ∘ Nat.succ) = fun i : Nat => (i : Int) != (j : Int) := by
        funext i
        simp only [Function.comp]
        rw [Bool.eq_iff_iff]
        simp only [bne_iff_ne, ne_eq]
        omega
      have h0 : (((0 : Nat) : Int) != ((j + 1 : Nat) : Int)) = true := by
        simp only [bne_iff_ne, ne_eq]
        omega
      rw [e, if_pos h0]
      have : pickP (x :: l) (0 :: List.map Nat.succ (List.filter (fun i : Nat => (i : Int) != (j : Int)) (List.range l.length))) = x :: pickP (x :: l) (List.map Nat.succ (List.filter (fun i : Nat => (i : Int) != (j : Int)) (List.range l.length))) := by simp [pickP]
      rw [this, pick_cons, ih, List.eraseIdx_cons_succ]
theorem pick_app {α : Type} {l : List α} {a : List Nat} {i : Nat} {x : α} (h : l[i]? = some x) : pickP l (a ++ [i]) = pickP l a ++ [x] := by
  unfold pickP
  rw [List.filterMap_append]
  simp [h]

/-- The places of the messages to a node. -/
def toP (pl : List Mp) (node : Int) : List Nat := placesP pl.length (fun i => (pl[i]?).any fun x => x.t == node)
/-- Is a message not from a node, nor to it? -/
def offB (node : Int) (x : Mp) : Bool := x.f != node && x.t != node
theorem any_map (l : List Mx) (i : Nat) (q : Mp → Bool) : ((l.map Mx.p)[i]?).any q = (l[i]?).any fun x => q x.p := by
  rw [List.getElem?_map]
  rcases l[i]? <;> rfl

/-- Can a message be written? -/
def okM (p : Mp) : Bool := (decide (0 ≤ p.k) && decide (0 ≤ p.f) && decide (0 ≤ p.t) && decide (0 ≤ p.i)) && p.a.all (fun z => decide (0 ≤ z)) && decide (p.a.length ≤ 64) && decide (p.x.length ≤ 65536)
/-- Its bytes. -/
def bytesM (p : Mp) : List B8 := encM [p.k.toNat, p.f.toNat, p.t.toNat, p.i.toNat, p.a.length] (p.a.map Int.toNat) p.x
/-- One more message that is sent. -/
def pushP (cap : Nat) (q : List Mp) (m : Mp) : List Mp := bif okM m && decide (q.length < cap) then q ++ [m] else q
def sendP (cap : Nat) (q l : List Mp) : List Mp := l.foldl (pushP cap) q
theorem send_snoc {cap : Nat} {q l : List Mp} {k : Nat} {m : Mp} (h : l[k]? = some m) : sendP cap q (l.take (k + 1)) = pushP cap (sendP cap q (l.take k)) m := by
  unfold sendP
  rw [List.take_add_one, h, List.foldl_append]
  rfl
theorem send_full {cap : Nat} {q : List Mp} (h : ¬ q.length < cap) (l : List Mp) : sendP cap q l = q := by
  unfold sendP
  induction l with
  | nil => rfl
  | cons m l ih =>
    rw [List.foldl_cons]
    have : pushP cap q m = q := by unfold pushP; simp [h]
    rw [this, ih]
theorem send_rest {cap : Nat} {q l : List Mp} {k : Nat} (h : ¬ (sendP cap q (l.take k)).length < cap) : sendP cap q l = sendP cap q (l.take k) := by
  conv => lhs; rw [← List.take_append_drop k l]
  unfold sendP at *
  rw [List.foldl_append]
  exact send_full h _
theorem push_len {cap : Nat} {q : List Mp} {m : Mp} : q.length ≤ (pushP cap q m).length ∧ (pushP cap q m).length ≤ max q.length cap := by
  unfold pushP
  rcases h : (okM m && decide (q.length < cap))
  · simp only [cond_false]; omega
  · simp only [cond_true, List.length_append, List.length_singleton]
    simp at h
    omega
theorem send_len (cap : Nat) (q l : List Mp) : q.length ≤ (sendP cap q l).length ∧ (sendP cap q l).length ≤ max q.length cap := by
  unfold sendP
  induction l generalizing q with
  | nil => simp; omega
  | cons m l ih =>
    rw [List.foldl_cons]
    have h1 := push_len (cap := cap) (q := q) (m := m)
    have h2 := ih (pushP cap q m)
    omega
theorem send_pre (cap : Nat) (q l : List Mp) : ∃ r, sendP cap q l = q ++ r ∧ ∀ m ∈ r, m ∈ l ∧ okM m = true := by
  unfold sendP
  induction l generalizing q with
  | nil => exact ⟨[], by simp, by simp⟩
  | cons m l ih =>
    rw [List.foldl_cons]
    obtain ⟨r, h1, h2⟩ := ih (pushP cap q m)
    unfold pushP at h1
    rcases h : (okM m && decide (q.length < cap))
    · rw [h, cond_false] at h1
      refine ⟨r, ?_, fun x hx => ⟨List.mem_cons_of_mem _ (h2 x hx).1, (h2 x hx).2⟩⟩
      unfold pushP
      rw [h, cond_false]; exact h1
    · rw [h, cond_true] at h1
      simp at h
      refine ⟨m :: r, ?_, fun x hx => ?_⟩
      · unfold pushP
        rw [show (okM m && decide (q.length < cap)) = true by simp [h], cond_true, h1]
        simp
      · rcases List.mem_cons.1 hx with rfl | hx
        · exact ⟨List.mem_cons_self, h.1⟩
        · exact ⟨List.mem_cons_of_mem _ (h2 x hx).1, (h2 x hx).2⟩
end Net
end Go.Proofs.Ytndcflchdecofaa
