/-
  SpanBack IN PLAIN: which blocks are one's, counted; what gives to one alone come to.
-/
import Derived.Test.YtjoemlifpbjdbaaSpaPlain
namespace Go.Proofs.Ytjoemlifpbjdbaa
open Go.RowKit Mem
namespace Spa

/-! ### Blocks, counted -/
def ints (a b : Int) : List Int := (List.range (b - a).toNat).map (fun i : Nat => a + (i : Int))
theorem mem_ints {a b k : Int} : k ∈ ints a b ↔ a ≤ k ∧ k < b := by
  unfold ints
  simp only [List.mem_map, List.mem_range]
  constructor
  · rintro ⟨i, hi, rfl⟩; omega
  · rintro ⟨h1, h2⟩; exact ⟨(k - a).toNat, by omega, by omega⟩
theorem nodup_ints (a b : Int) : (ints a b).Nodup := by
  unfold ints
  exact List.Pairwise.map _ (fun x y h => by omega) List.nodup_range
theorem len_ints {a b : Int} (h : a ≤ b) : ((ints a b).length : Int) = b - a := by unfold ints; rw [List.length_map, List.length_range]; omega
def ownL : List Sp → Int → List Int
  | [], _ => []
  | s :: r, o => (bif s.own == o then ints s.fr s.to else []) ++ ownL r o
theorem ownL_cons (s : Sp) (r : List Sp) (o : Int) : ownL (s :: r) o = (bif s.own == o then ints s.fr s.to else []) ++ ownL r o := rfl
theorem ownL_len {l : List Sp} {e e' : Int} (h : Ch e l e') (o : Int) : ((ownL l o).length : Int) = ownedS l o := by
  induction l generalizing e with
  | nil => rfl
  | cons s r ih =>
    have h1 := ih h.2.2
    have h2 := len_ints (Int.le_of_lt h.2.1)
    rw [ownedS_cons, ← h1]
    rw [ownL_cons, List.length_append]
    unfold partO
    rcases (s.own == o)
    · simp only [cond_false, List.length_nil]; omega
    · simp only [cond_true]; omega
theorem ownL_mem {l : List Sp} {e e' : Int} (h : Ch e l e') (o k : Int) : k ∈ ownL l o ↔ ∃ p, who l k = some (o, p) := by
  induction l generalizing e with
  | nil => simp [ownL, who_nil]
  | cons s r ih =>
    rw [ownL_cons, List.mem_append, ih h.2.2, who_cons]
    by_cases hk : s.fr ≤ k ∧ k < s.to
    · rw [if_pos hk]
      have : who r k = none := who_out h.2.2 (.inl hk.2)
      rw [this]
      rcases e1 : (s.own == o)
      · have hne : ¬ s.own = o := by simpa using e1
        simp [hne]
      · have he : s.own = o := by simpa using e1
        simp only [cond_true, mem_ints]
        constructor
        · intro _; exact ⟨s.ep, by rw [he]⟩
        · intro _; exact .inl hk
    · rw [if_neg hk]
      constructor
      · rintro (h1 | h1)
        · rcases e1 : (s.own == o)
          · rw [e1] at h1; simp at h1
          · rw [e1] at h1; simp only [cond_true, mem_ints] at h1; exact absurd h1 hk
        · exact h1
      · exact .inr
theorem ownL_nodup {l : List Sp} {e e' : Int} (h : Ch e l e') (o : Int) : (ownL l o).Nodup := by
  induction l generalizing e with
  | nil => exact List.Pairwise.nil
  | cons s r ih =>
    rw [ownL_cons, List.nodup_append]
    refine ⟨?_, ih h.2.2, ?_⟩
    · rcases (s.own == o)
      · exact List.Pairwise.nil
      · exact nodup_ints _ _
    · intro x hx y hy hxy
      subst hxy
      obtain ⟨p, hp⟩ := (ownL_mem h.2.2 o x).1 hy
      rcases e1 : (s.own == o)
      · rw [e1] at hx; simp at hx
      · rw [e1] at hx
        simp only [cond_true, mem_ints] at hx
        rw [who_out h.2.2 (.inl hx.2)] at hp
        cases hp
theorem count_len {a b : List Int} (ha : a.Nodup) (hb : b.Nodup) (h : ∀ k, k ∈ a ↔ k ∈ b) : a.length = b.length := ((List.perm_ext_iff_of_nodup ha hb).2 h).length_eq
theorem owned_count {l : List Sp} {e e' : Int} (h : Ch e l e') {o : Int} {ks : List Int} (hn : ks.Nodup) (hm : ∀ k, k ∈ ks ↔ ∃ p, who l k = some (o, p)) : ownedS l o = (ks.length : Int) := by
  rw [← ownL_len h, count_len (ownL_nodup h o) hn (fun k => by rw [ownL_mem h, hm])]
theorem owned_sum {l : List Sp} {e e' o : Int} (h : Ch e l e') (ho : 0 ≤ o) (hf : ∀ s ∈ l, s.own = -1 ∨ s.own = o) : ownedS l (-1) + ownedS l o = e' - e := by
  induction l generalizing e with
  | nil => have : e = e' := h; rw [ownedS_nil, ownedS_nil]; omega
  | cons s r ih =>
    have h1 := ih h.2.2 (fun x hx => hf x (by simp [hx]))
    have h2 := h.1
    rw [ownedS_cons, ownedS_cons]
    have : partO (-1) s + partO o s = s.to - s.fr := by
      unfold partO
      rcases hf s (by simp) with h3 | h3 <;> rw [h3]
      · have : ((-1 : Int) == o) = false := by simp; omega
        rw [this]; simp
      · have : (o == (-1 : Int)) = false := by simp; omega
        rw [this]; simp
    omega
theorem ch_len {l : List Sp} {e e' : Int} (h : Ch e l e') : (l.length : Int) ≤ e' - e := by
  induction l generalizing e with
  | nil => have : e = e' := h; simp; omega
  | cons s r ih =>
    have := ih h.2.2
    have := h.1
    have := h.2.1
    simp only [List.length_cons]; omega

/-! ### Gives to one alone -/
theorem pushJ_all {p : Sp → Prop} (hp : ∀ s t, p s → p (longer s t)) {out : List Sp} {s : Sp} (h : ∀ x ∈ out, p x) (hs : p s) : ∀ x ∈ pushJ out s, p x := by
  rcases snoc_cases out with rfl | ⟨a, z, rfl⟩
  · intro x hx; simp [pushJ_nil] at hx; subst hx; exact hs
  · rw [pushJ_snoc]
    intro x hx
    rcases e : sameO z s
    · simp only [e, cond_false, List.mem_append, List.mem_singleton] at hx
      rcases hx with (hx | rfl) | rfl
      · exact h x (by simp [hx])
      · exact h x (by simp)
      · exact hs
    · simp only [e, cond_true, List.mem_append, List.mem_singleton] at hx
      rcases hx with hx | rfl
      · exact h x (by simp [hx])
      · exact hp _ _ (h z (by simp))
theorem joinF_all {p : Sp → Prop} (hp : ∀ s t, p s → p (longer s t)) {out l : List Sp} (h : ∀ x ∈ out, p x) (hl : ∀ x ∈ l, p x) : ∀ x ∈ joinF out l, p x := by
  induction l generalizing out with
  | nil => exact h
  | cons s r ih => exact ih (pushJ_all hp h (hl s (by simp))) (fun x hx => hl x (by simp [hx]))
theorem parts_all {p : Sp → Prop} (hp : ∀ s a b, p s → p (clip a b s)) {l : List Sp} (h : ∀ s ∈ l, p s) (a b : Int) : ∀ s ∈ partsS l a b, p s := by
  intro s hs
  obtain ⟨x, hx, rfl⟩ := List.mem_map.1 (List.mem_filter.1 hs).1
  exact hp _ _ _ (h x hx)
structure BI (bl o i : Int) (l : List Sp) (ks : List Int) : Prop where
  ok : okS l = true
  end_ : endF 0 l = bl
  few : ∀ s ∈ l, s.own = -1 ∨ (s.own = o ∧ s.ep ≤ i)
  nodup : ks.Nodup
  mem : ∀ k, k ∈ ks ↔ ∃ e, who l k = some (o, e)
theorem BI.start {bl o : Int} (h1 : 1 ≤ bl) (h2 : bl ≤ 200) (ho : 0 ≤ o) : BI bl o 0 [⟨0, bl, -1, 0⟩] [] := by
  have hc : Ch 0 [⟨0, bl, -1, 0⟩] bl := ⟨rfl, by show (0 : Int) < bl; omega, rfl⟩
  refine ⟨okS_of hc (by intro s hs; simp at hs; subst hs; rfl) (by omega) (by omega), hc.end_, by intro s hs; simp at hs; subst hs; exact .inl rfl, List.Pairwise.nil, fun k => ?_⟩
  rw [who_cons, who_nil]
  constructor
  · intro h; cases h
  · rintro ⟨e, he⟩
    split at he
    · simp at he; omega
    · cases he
theorem BI.give {bl o i a b : Int} {l : List Sp} {ks : List Int} (h : BI bl o i l ks) (hi : 0 ≤ i) (ho : 0 ≤ o) (ho8 : o < 8) (ha : 0 ≤ a) (hab : a < b) (hb : b ≤ bl) :
    giveP l a b o (1 + i) = (giveS l a b o (1 + i), 0) ∧ ∀ ks', ks'.Nodup → (∀ k, k ∈ ks' ↔ k ∈ ks ∨ (a ≤ k ∧ k < b)) → BI bl o (1 + i) (giveS l a b o (1 + i)) ks' := by
  have hr : rangeB l a b = true := rangeB_iff.2 ⟨h.ok, ha, hab, by rw [h.end_]; exact hb⟩
  have hm : mayOwn o (1 + i) = true := mayOwn_iff.2 (.inr ⟨ho, ho8, by omega⟩)
  obtain ⟨hgo, hge⟩ := giveS_ok (o := o) (e := 1 + i) hr hm
  have hch := ok_ch h.ok
  rw [h.end_] at hch hge
  constructor
  · have hs : staleB (partsS l a b) o (1 + i) = false := by
      unfold staleB
      have : (partsS l a b).any (fun s => (s.own != -1) && decide (1 + i ≤ s.ep)) = false := by
        rw [List.any_eq_false]
        intro s hs
        have := parts_all (p := fun s => s.own = -1 ∨ (s.own = o ∧ s.ep ≤ i)) (fun s a b h => h) h.few a b s hs
        simp only [Bool.and_eq_true, bne_iff_ne, ne_eq, decide_eq_true_eq, not_and]
        intro h1 h2
        rcases this with h3 | h3
        · exact h1 h3
        · omega
      rw [this, Bool.and_false]
    unfold giveP
    rw [hr, hm, hs]; rfl
  · intro ks' hn hk
    refine ⟨hgo, hge, ?_, hn, fun k => ?_⟩
    · unfold giveS joinS
      refine joinF_all (p := fun s => s.own = -1 ∨ (s.own = o ∧ s.ep ≤ 1 + i)) (fun s t h => h) (by simp) ?_
      have hl : ∀ s ∈ l, s.own = -1 ∨ (s.own = o ∧ s.ep ≤ 1 + i) := fun s hs => by rcases h.few s hs with h1 | h1; exact .inl h1; exact .inr ⟨h1.1, by omega⟩
      intro s hs
      simp only [List.mem_append, List.mem_singleton] at hs
      rcases hs with (hs | rfl) | hs
      · exact parts_all (p := fun s => s.own = -1 ∨ (s.own = o ∧ s.ep ≤ 1 + i)) (fun s a b h => h) hl _ _ s hs
      · exact .inr ⟨rfl, Int.le_refl _⟩
      · exact parts_all (p := fun s => s.own = -1 ∨ (s.own = o ∧ s.ep ≤ 1 + i)) (fun s a b h => h) hl _ _ s hs
    · rw [hk, giveS_who hch ha hab hb, h.mem]
      by_cases hc : a ≤ k ∧ k < b
      · rw [if_pos hc]
        exact ⟨fun _ => ⟨_, rfl⟩, fun _ => .inr hc⟩
      · rw [if_neg hc]
        exact ⟨fun h => h.resolve_right hc, .inl⟩
theorem BI.owned {bl o i : Int} {l : List Sp} {ks : List Int} (h : BI bl o i l ks) : ownedS l o = (ks.length : Int) := owned_count (ok_ch h.ok) h.nodup h.mem
theorem BI.free {bl o i : Int} {l : List Sp} {ks : List Int} (h : BI bl o i l ks) (ho : 0 ≤ o) : ownedS l (-1) = bl - (ks.length : Int) := by
  have h1 := owned_sum (ok_ch h.ok) ho (fun s hs => (h.few s hs).imp id And.left)
  have h2 := h.owned
  have h3 := h.end_
  omega
theorem BI.len {bl o i : Int} {l : List Sp} {ks : List Int} (h : BI bl o i l ks) : (l.length : Int) ≤ bl := by
  have h1 := ch_len (ok_ch h.ok)
  have h2 := h.end_
  omega
theorem BI.count {bl o i : Int} {l : List Sp} {ks : List Int} (h : BI bl o i l ks) : (ks.length : Int) ≤ bl := by
  have h1 := (ownedS_le (ok_ch h.ok) o).2
  have h2 := h.owned
  have h3 := h.end_
  omega
theorem BI.taken {bl o i : Int} {l : List Sp} {ks : List Int} (h : BI bl o i l ks) : takeS l o = [⟨0, bl, -1, 0⟩] := by
  have hch := ok_ch h.ok
  rw [h.end_] at hch
  have hc : Ch 0 [⟨0, bl, -1, 0⟩] bl := ⟨rfl, by show (0 : Int) < bl; have := ok_pos h.ok; rw [h.end_] at this; exact this, rfl⟩
  have hj : joinS [⟨0, bl, -1, 0⟩] = [⟨0, bl, -1, 0⟩] := rfl
  rw [← hj]
  refine join_eq (hch.map_ _ (freeS_at o)) hc (fun k => ?_)
  by_cases hk : 0 ≤ k ∧ k < bl
  · obtain ⟨s, hs⟩ := findS_in hch hk.1 hk.2
    rw [who_map (freeS_at o), hs, who_cons, if_pos hk]
    simp only [Option.map_some]
    have hm := (findS_some hs).1
    have hmay := ok_may h.ok s hm
    unfold freeS
    rcases e : (s.own == o)
    · simp only [cond_false]
      rcases h.few s hm with h1 | h1
      · rw [h1] at hmay ⊢
        rcases mayOwn_iff.1 hmay with h2 | h2
        · rw [h2.2]
        · omega
      · have : ¬ s.own = o := by simpa using e
        exact absurd h1.1 this
    · rfl
  · rw [who_out (hch.map_ _ (freeS_at o)) (by omega), who_out hc (by omega)]
theorem BI.mine {bl o i : Int} {l : List Sp} {ks : List Int} (h : BI bl o i l ks) {s : Sp} (hs : s ∈ wereS l o) {k : Int} (hk : s.fr ≤ k ∧ k < s.to) : k ∈ ks := by
  have h1 := List.mem_filter.1 hs
  have h2 : s.own = o := by simpa using h1.2
  exact (h.mem k).2 ⟨s.ep, by rw [who_mem (ok_ch h.ok) h1.1 hk, h2]⟩
/-- A block is marked, if it isn't yet. -/
def mark (ks : List Int) (n : Int) : List Int := if n ∈ ks then ks else ks ++ [n]
theorem mark_nodup {ks : List Int} (h : ks.Nodup) (n : Int) : (mark ks n).Nodup := by
  unfold mark
  split
  · exact h
  · rename_i hn
    rw [List.nodup_append]
    exact ⟨h, by simp, fun x hx y hy => by simp at hy; subst hy; exact fun e => hn (e ▸ hx)⟩
theorem mark_mem {ks : List Int} {n k : Int} : k ∈ mark ks n ↔ k ∈ ks ∨ k = n := by
  unfold mark
  split
  · rename_i hn
    constructor
    · exact .inl
    · rintro (h | rfl)
      · exact h
      · exact hn
  · simp
end Spa
end Go.Proofs.Ytjoemlifpbjdbaa
