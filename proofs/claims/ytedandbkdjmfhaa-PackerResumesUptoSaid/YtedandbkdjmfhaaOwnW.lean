/-
  ROWS OF STRUCTS OF ONE'S OWN, WRITTEN, for any element: one cell, whole elements; who stays where another's block changes. (Program-free.)
-/
import Derived.Test.YtedandbkdjmfhaaOwnO
import Derived.Test.YtedandbkdjmfhaaBox
import Derived.Test.YtedandbkdjmfhaaRes
namespace Go.Proofs.Ytedandbkdjmfhaa
open Go.RowKit Mem Box
namespace OwnS
variable {α : Type} {cells : α → List Value} {k : Nat} {e : TypeId} {base : Nat} {w w' : World} {n c : Nat} {l : List α}

/-- Where a row of one's own lies, if there is anything in it. -/
theorem Owns.place {A : Option Addr} (h : Owns cells k e base w (.slice A n c) n l) (h0 : 0 < n) : ∃ g cur, A = some ⟨g, 0, none⟩ ∧ base ≤ g ∧ Cells w g e cur ∧ n ≤ c ∧ c ≤ maxLen ∧ cur.size = c * k ∧ cur.toList.take (n * k) = l.flatMap cells := by
  rcases h.1.2 with ⟨-, h1⟩ | ⟨g, cap, cur, e1, hb, hg, hnc, hcm, hs, ht⟩
  · omega
  · injection e1 with e1 _ e3
    subst e1 e3
    exact ⟨g, cur, rfl, hb, hg, hnc, hcm, hs, ht⟩
theorem Owns.of_cells (F : Fit cells k) {g : Nat} {cur : List Value} (hg : Cells w g e cur.toArray) (hb : base ≤ g) (hnc : n ≤ c) (hcm : c ≤ maxLen) (hs : cur.length = c * k) (ht : cur.take (n * k) = l.flatMap cells) (hl : l.length = n) : Owns cells k e base w (.slice (some ⟨g, 0, none⟩) n c) n l :=
  ⟨⟨by rw [flat_len F, hl], .inr ⟨g, c, cur.toArray, rfl, hb, hg, hnc, hcm, by simpa using hs, by simpa using ht⟩⟩, hl⟩
theorem Owns.mono {s : Value} {base' : Nat} (h : Owns cells k e base w s n l) (hb : base' ≤ base) : Owns cells k e base' w s n l := ⟨⟨h.1.1, by
  rcases h.1.2 with hn | ⟨g, cap, cur, e', hbg, r⟩
  · exact .inl hn
  · exact .inr ⟨g, cap, cur, e', Nat.le_trans hb hbg, r⟩⟩, h.2⟩
theorem flat_set (F : Fit cells k) {i j : Nat} {x y : α} {v : Value} (hx : l[i]? = some x) (hj : j < k) (hy : cells y = (cells x).set j v) : (l.flatMap cells).set (i * k + j) v = (l.set i y).flatMap cells := by
  have hi := (List.getElem?_eq_some_iff.1 hx).1
  apply List.ext_getElem?
  intro q
  rw [List.getElem?_set, flat_len F]
  have hl4 : ((l.set i y).flatMap cells).length = l.length * k := by rw [flat_len F, List.length_set]
  have hlt : i * k + j < l.length * k := Nat.lt_of_lt_of_le (show i * k + j < (i + 1) * k by rw [Nat.succ_mul]; omega) (Nat.mul_le_mul_right k hi)
  by_cases hq : i * k + j = q
  · subst hq
    rw [if_pos rfl, if_pos hlt]
    exact (flat_get F _ i j y _ (by simp [hi]) (by rw [hy, List.getElem?_set, if_pos rfl, if_pos (by rw [F.len]; exact hj)])).symm
  · rw [if_neg hq]
    rcases Nat.lt_or_ge q (l.length * k) with h1 | h1
    · obtain ⟨u, hu⟩ : ∃ u, (l.flatMap cells)[q]? = some u := ⟨_, List.getElem?_eq_getElem (by rw [flat_len F]; exact h1)⟩
      obtain ⟨z, hz, hzu⟩ := flat_inv F l q u hu
      rw [hu]
      have hdm : q / k * k + q % k = q := by rw [Nat.mul_comm]; exact Nat.div_add_mod q k
      by_cases hik : i = q / k
      · subst hik
        have hxz := hx.symm.trans hz
        injection hxz with hxz
        subst hxz
        have := flat_get F (l.set (q / k) y) (q / k) (q % k) y u (by simp [hi]) (by
          rw [hy, List.getElem?_set, if_neg (by intro e2; rw [e2] at hq; exact hq hdm)]; exact hzu)
        rw [hdm] at this
        exact this.symm
      · have := flat_get F (l.set i y) (q / k) (q % k) z u (by rw [List.getElem?_set, if_neg hik]; exact hz) hzu
        rw [hdm] at this
        exact this.symm
    · rw [List.getElem?_eq_none (by rw [flat_len F]; exact h1), List.getElem?_eq_none (by rw [hl4]; exact h1)]
/-- One cell of one element is written. -/
theorem Owns.put (F : Fit cells k) {g : Nat} (h : Owns cells k e base w (.slice (some ⟨g, 0, none⟩) n c) n l) {i : Nat} {x : α} (hx : l[i]? = some x) (j : Nat) (v : Value) (y : α) (hj : j < k) (hy : cells y = (cells x).set j v) :
    Owns cells k e base (w.setCell ⟨g, i * k + j, none⟩ v) (.slice (some ⟨g, 0, none⟩) n c) n (l.set i y) := by
  refine ⟨?_, by rw [List.length_set]; exact h.2⟩
  have hst := (World.ownsRow.stored h.1 (i * k + j) v).1
  rw [flat_set F hx hj hy] at hst
  exact hst
/-- What lies in it. -/
theorem Owns.cell (F : Fit cells k) {g : Nat} (h : Owns cells k e base w (.slice (some ⟨g, 0, none⟩) n c) n l) {i : Nat} {x : α} (hx : l[i]? = some x) (j : Nat) (u : Value) (hu : (cells x)[j]? = some u) : w.cell? ⟨g, i * k + j, none⟩ = some u := by
  have := World.ownsRow.cells (g := g) h.1 rfl (i * k + j) u (flat_get F l i j x u hx hu)
  rwa [Mem.add_none, Nat.zero_add] at this
theorem Owns.free {g : Nat} (h : Owns cells k e base w (.slice (some ⟨g, 0, none⟩) n c) n l) (h0 : 0 < n) (i : Nat) : w.frozen? ⟨g, i, none⟩ = false := by
  obtain ⟨g', cur, e1, -, hg, -⟩ := h.place h0
  injection e1 with e1
  injection e1 with e1
  subst e1
  exact hg.frozen i
theorem Owns.set_at {i : Nat} (h : i < l.length) (y : α) : (l.set i y)[i]? = some y := by simp [h]
/-- The block of a row of one's own. -/
theorem Owns.block {A : Option Addr} (h : Owns cells k e base w (.slice A n c) n l) {g : Nat} (hg : (Value.slice A n c).ownBlock = some g) : ∃ cur, Cells w g e cur ∧ base ≤ g := by
  rcases h.1.2 with ⟨e1, -⟩ | ⟨q, cap, cur, e1, hb, hq, -⟩
  · rw [e1] at hg; simp [Value.ownBlock] at hg
  · rw [e1] at hg
    have e2 : q = g := by simpa [Value.ownBlock] using hg
    subst e2
    exact ⟨cur, hq, hb⟩
end OwnS

/-! ### One block, of type t, alone may have changed -/
/-- Block r alone may have changed, and it holds what is of type t. -/
structure Chg (t : TypeId) (r : Option Nat) (w w' : World) : Prop where
  by_ : w.grownBy w' r
  is_ : ∀ g, r = some g → ∃ cur, Cells w g t cur
namespace Chg
variable {t : TypeId} {r : Option Nat} {w w' : World}
theorem of_below (h : Below w.heap.size w w') (hi : ∀ g, r = some g → ∃ cur, Cells w g t cur) : Chg t r w w' := ⟨⟨h.os, h.tape, h.output, h.size, fun k hk _ => h.block k hk⟩, hi⟩
theorem none_ (h : Below w.heap.size w w') : Chg t none w w' := of_below h (fun g hg => by cases hg)
theorem set1 {g : Nat} {cur : Array Value} (h : Cells w g t cur) (i : Nat) (v : Value) : Chg t (some g) w (w.setCell ⟨g, i, none⟩ v) :=
  ⟨⟨rfl, rfl, rfl, by simp, fun b _ hn => Below.heap_setCell _ _ _ _ (fun e => hn (by rw [e]))⟩, fun q hq => by injection hq with hq; subst hq; exact ⟨_, h⟩⟩
theorem mov {g : Nat} {cur : Array Value} (h : Cells w g t cur) (hm : Mov [g] w w') : Chg t (some g) w w' :=
  ⟨⟨hm.os, hm.tape, hm.output, hm.size, fun b hb hn => hm.block b hb (by simpa using fun e => hn (by rw [e]))⟩, fun q hq => by injection hq with hq; subst hq; exact ⟨_, h⟩⟩
theorem own {α : Type} {cells : α → List Value} {k base n c : Nat} {A : Option Addr} {l : List α} (h : OwnS.Owns cells k t base w (.slice A n c) n l) (hg : w.grownBy w' (Value.slice A n c).ownBlock) : Chg t (Value.slice A n c).ownBlock w w' :=
  ⟨hg, fun _ hq => (h.block hq).imp fun _ hh => hh.1⟩
/-- A box of another type stays. -/
theorem cells {g : Nat} {u : TypeId} {cs : Array Value} (h : Chg t r w w') (hc : Cells w g u cs) (hn : u ≠ t) : Cells w' g u cs := by
  refine (h.by_.block g hc.lt fun e => ?_).trans hc
  obtain ⟨cur, hcur⟩ := h.is_ g e.symm
  exact Cells.ne hc hcur hn rfl
theorem cells_ne {g : Nat} {u : TypeId} {cs : Array Value} (h : Chg t r w w') (hc : Cells w g u cs) (hn : r ≠ some g) : Cells w' g u cs := (h.by_.block g hc.lt fun e => hn e.symm).trans hc
/-- A row of one's own of another type stays. -/
theorem owns {α : Type} {cells : α → List Value} {k base n : Nat} {s : Value} {u : TypeId} {l : List α} (h : Chg t r w w') (ho : OwnS.Owns cells k u base w s n l) (hn : u ≠ t) : OwnS.Owns cells k u base w' s n l := by
  refine ⟨⟨ho.1.1, ?_⟩, ho.2⟩
  rcases ho.1.2 with h0 | ⟨q, cap, cur, e', hbg, hq, rr⟩
  · exact .inl h0
  · exact .inr ⟨q, cap, cur, e', hbg, h.cells (g := q) (u := u) (cs := cur) hq hn, rr⟩
theorem owns_ne {α : Type} {cells : α → List Value} {k base n : Nat} {s : Value} {u : TypeId} {l : List α} (h : Chg t r w w') (ho : OwnS.Owns cells k u base w s n l) (hn : s.ownBlock = none ∨ s.ownBlock ≠ r) : OwnS.Owns cells k u base w' s n l := ho.kept h.by_ hn
theorem ownI {α : Type} {f : α → Value} {base n : Nat} {s : Value} {u : TypeId} {l : List α} (h : Chg t r w w') (ho : Mem.Owns f u base w s n l) (hn : u ≠ t) : Mem.Owns f u base w' s n l := by
  refine ⟨ho.1, ?_⟩
  rcases ho.2 with h0 | ⟨q, cap, cur, e', hbg, hq, rr⟩
  · exact .inl h0
  · exact .inr ⟨q, cap, cur, e', hbg, h.cells (g := q) (u := u) (cs := cur) hq hn, rr⟩
theorem below {b : Nat} (h : Chg t r w w') (hb : b ≤ w.heap.size) (hr : ∀ g, r = some g → b ≤ g) : Below b w w' := (Below.refl b w).grown h.by_ hb hr
end Chg
end Go.Proofs.Ytedandbkdjmfhaa
