/-
  ROWS OF SPANS OF ONE'S OWN, WRITTEN; what a call gave.
-/
import Derived.Test.YtjoemlifpbjdbaaSpaRefChk
import Derived.Test.YtjoemlifpbjdbaaSpaPlain
namespace Go.Proofs.Ytjoemlifpbjdbaa
open Go.RowKit Mem
namespace Spa

/-- One number of one span of a row of one's own is written. -/
theorem OwnsL.put {base : Nat} {w : World} {A : Option Addr} {n c : Nat} {l : List Sp} (h : OwnsL base w (.slice A n c) n l) {k : Nat} {x : Sp} (hx : l[k]? = some x) :
    ∃ g, A = some ⟨g, 0, none⟩ ∧ base ≤ g ∧ g < w.heap.size ∧ (w.cell? ⟨g, k * 4, none⟩ = some (.int .i64 x.fr) ∧ w.cell? ⟨g, k * 4 + 1, none⟩ = some (.int .i64 x.to) ∧ w.cell? ⟨g, k * 4 + 2, none⟩ = some (.int .i64 x.own) ∧ w.cell? ⟨g, k * 4 + 3, none⟩ = some (.int .i64 x.ep)) ∧ (∀ i, w.frozen? ⟨g, i, none⟩ = false) ∧
      ∀ (j : Nat) (v : Value) (y : Sp), j < 4 → cellsL y = (cellsL x).set j v → OwnsL base (w.setCell ⟨g, k * 4 + j, none⟩ v) (.slice A n c) n (l.set k y) := by
  have hk := (List.getElem?_eq_some_iff.1 hx).1
  rcases h.1.2 with ⟨-, h1⟩ | ⟨g, cap, cur, e, hb, hg, hnc, hcm, hs, ht⟩
  · have := h.2; omega
  · injection e with e1 _ e3
    subst e1 e3
    have hcell : ∀ j u, (cellsL x)[j]? = some u → w.cell? ⟨g, k * 4 + j, none⟩ = some u := fun j u hu => by
      have := World.ownsRow.cells (g := g) h.1 rfl (k * 4 + j) u (flat_get l k j x u hx hu)
      rwa [Mem.add_none, Nat.zero_add] at this
    refine ⟨g, rfl, hb, (Array.getElem?_eq_some_iff.1 hg).1, ⟨hcell 0 _ rfl, hcell 1 _ rfl, hcell 2 _ rfl, hcell 3 _ rfl⟩, fun i => frozen_of hg i, fun j v y hj hy => ⟨?_, by rw [List.length_set]; exact h.2⟩⟩
    have hst := (World.ownsRow.stored h.1 (k * 4 + j) v).1
    have he : (l.flatMap cellsL).set (k * 4 + j) v = (l.set k y).flatMap cellsL := by
      apply List.ext_getElem?
      intro i
      rw [List.getElem?_set, flat_len]
      have hl4 : ((l.set k y).flatMap cellsL).length = l.length * 4 := by rw [flat_len, List.length_set]
      by_cases hi : k * 4 + j = i
      · subst hi
        rw [if_pos rfl, if_pos (by omega)]
        exact (flat_get _ k j y _ (by simp [hk]) (by rw [hy, List.getElem?_set, if_pos rfl, if_pos (by rw [span_len]; exact hj)])).symm
      · rw [if_neg hi]
        rcases Nat.lt_or_ge i (l.length * 4) with h1 | h1
        · obtain ⟨u, hu⟩ : ∃ u, (l.flatMap cellsL)[i]? = some u := ⟨_, List.getElem?_eq_getElem (by rw [flat_len]; exact h1)⟩
          obtain ⟨z, hz, hzu⟩ := flat_inv l i u hu
          rw [hu]
          by_cases hik : k = i / 4
          · subst hik
            have hxz := hx.symm.trans hz
            injection hxz with hxz
            subst hxz
            have := flat_get (l.set (i / 4) y) (i / 4) (i % 4) y u (by simp [hk]) (by
              rw [hy, List.getElem?_set, if_neg (by omega)]; exact hzu)
            rw [show i / 4 * 4 + i % 4 = i by omega] at this
            exact this.symm
          · have := flat_get (l.set k y) (i / 4) (i % 4) z u (by rw [List.getElem?_set, if_neg hik]; exact hz) hzu
            rw [show i / 4 * 4 + i % 4 = i by omega] at this
            exact this.symm
        · rw [List.getElem?_eq_none (by rw [flat_len]; exact h1), List.getElem?_eq_none (by rw [hl4]; exact h1)]
    rw [← he]
    exact hst
theorem set_at {l : List Sp} {k : Nat} (h : k < l.length) (y : Sp) : (l.set k y)[k]? = some y := by simp [h]
theorem OwnsL.put_ {base g : Nat} {w : World} {n c : Nat} {l : List Sp} (h : OwnsL base w (.slice (some ⟨g, 0, none⟩) n c) n l) {k : Nat} {x : Sp} (hx : l[k]? = some x) (j : Nat) (v : Value) (y : Sp) (hj : j < 4) (hy : cellsL y = (cellsL x).set j v) :
    OwnsL base (w.setCell ⟨g, k * 4 + j, none⟩ v) (.slice (some ⟨g, 0, none⟩) n c) n (l.set k y) := by
  obtain ⟨g', hA, -, -, -, -, h0⟩ := OwnsL.put h hx
  injection hA with hA
  injection hA with hA
  subst hA
  exact h0 j v y hj hy
def set4W (w : World) (g k : Nat) (y : Sp) : World := (((w.setCell ⟨g, k * 4, none⟩ (.int .i64 y.fr)).setCell ⟨g, k * 4 + 1, none⟩ (.int .i64 y.to)).setCell ⟨g, k * 4 + 2, none⟩ (.int .i64 y.own)).setCell ⟨g, k * 4 + 3, none⟩ (.int .i64 y.ep)
/-- A span of a row of one's own is written whole. -/
theorem OwnsL.put4 {base g : Nat} {w : World} {n c : Nat} {l : List Sp} (h : OwnsL base w (.slice (some ⟨g, 0, none⟩) n c) n l) {k : Nat} {x : Sp} (hx : l[k]? = some x) (y : Sp) : OwnsL base (set4W w g k y) (.slice (some ⟨g, 0, none⟩) n c) n (l.set k y) := by
  have hk := (List.getElem?_eq_some_iff.1 hx).1
  have e0 := OwnsL.put_ h hx 0 (.int .i64 y.fr) ⟨y.fr, x.to, x.own, x.ep⟩ (by omega) rfl
  rw [Nat.add_zero] at e0
  have e1 := OwnsL.put_ e0 (set_at hk _) 1 (.int .i64 y.to) ⟨y.fr, y.to, x.own, x.ep⟩ (by omega) rfl
  rw [List.set_set] at e1
  have e2 := OwnsL.put_ e1 (set_at hk _) 2 (.int .i64 y.own) ⟨y.fr, y.to, y.own, x.ep⟩ (by omega) rfl
  rw [List.set_set] at e2
  have e3 := OwnsL.put_ e2 (set_at hk _) 3 (.int .i64 y.ep) y (by omega) rfl
  rw [List.set_set] at e3
  exact e3
theorem belowk {B g : Nat} {a w : World} (h : Below B a w) (hg : B ≤ g) (i : Nat) (v : Value) : Below B a (w.setCell ⟨g, i, none⟩ v) := h.setCell (p := ⟨g, i, none⟩) hg v

/-- One span, laid as a row of one's own. -/
theorem OwnsL.built {base : Nat} {w : World} (x : Sp) (hb : base ≤ w.heap.size) : OwnsL base (w.alloc (.cells #[.int .i64 x.fr, .int .i64 x.to, .int .i64 x.own, .int .i64 x.ep] 32)) (.slice (some ⟨w.heap.size, 0, none⟩) 1 1) 1 [x] :=
  ⟨⟨by simp [cellsL], .inr ⟨w.heap.size, 1, _, rfl, hb, heap_alloc_new w _, Nat.le_refl _, by unfold maxLen; omega, rfl, by simp [cellsL]⟩⟩, rfl⟩
/-- Spans of its own and an error, as a call gave them. -/
def GaveS (w : World) (r : List Sp × Int) (en : Ending) (w' : World) : Prop :=
  ∃ B d, en = .returned (.tuple #[.slice B r.1.length d, .int .i64 r.2]) ∧ OwnsL w.heap.size w' (.slice B r.1.length d) r.1.length r.1 ∧ Below w.heap.size w w'
theorem GaveS.none_ {w w' : World} {e : Int} (hb : Below w.heap.size w w') : GaveS w ([], e) (.returned (.tuple #[.slice none 0 0, .int .i64 e])) w' := ⟨none, 0, rfl, OwnsL.nil _ _, hb⟩
theorem GaveS.of {w w' : World} {B : Option Addr} {m d : Nat} {l : List Sp} {e : Int} (h : OwnsL w.heap.size w' (.slice B m d) m l) (_hm : m ≤ 140737488351232) (hb : Below w.heap.size w w') : GaveS w (l, e) (.returned (.tuple #[.slice B m d, .int .i64 e])) w' := by
  have := h.2
  subst this
  exact ⟨B, d, rfl, h, hb⟩
/-! ### The tests, once it is known what they tell -/
theorem check_okT {A : Option Addr} {n c : Nat} {l : List Sp} {w : World} (h : RowL w A n c l) (hok : okS l = true) :
    Calls Try.prog 24 #[.slice A n c] w fun e w' => e = .returned (.int .i64 0) ∧ Below w.heap.size w w' := by
  have := check_any h
  rw [hok] at this
  exact this
theorem check_badT {A : Option Addr} {n c : Nat} {l : List Sp} {w : World} (h : RowL w A n c l) (hok : okS l = false) :
    Calls Try.prog 24 #[.slice A n c] w fun e w' => e = .returned (.int .i64 1) ∧ Below w.heap.size w w' := by
  have := check_any h
  rw [hok] at this
  exact this
theorem refCheck_okT {A : Option Addr} {n c : Nat} {l : List Sp} {w : World} (h : RowL w A n c l) (hok : okS l = true) :
    Calls Try.prog 18 #[.slice A n c] w fun e w' => e = .returned (.int .i64 0) ∧ Below w.heap.size w w' := by
  have := refCheck_any h
  rw [hok] at this
  exact this
theorem refCheck_badT {A : Option Addr} {n c : Nat} {l : List Sp} {w : World} (h : RowL w A n c l) (hok : okS l = false) :
    Calls Try.prog 18 #[.slice A n c] w fun e w' => e = .returned (.int .i64 1) ∧ Below w.heap.size w w' := by
  have := refCheck_any h
  rw [hok] at this
  exact this
def joinP (l : List Sp) : List Sp × Int := bif okS l then (joinS l, 0) else ([], 1)
end Spa
end Go.Proofs.Ytjoemlifpbjdbaa
