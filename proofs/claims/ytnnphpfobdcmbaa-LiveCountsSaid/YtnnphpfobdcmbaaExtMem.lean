/-
  EXTENTS AND TABLES IN MEMORY: rows of extents, read and of one's own; boxes; what an append leaves alone; results that lie in cells.
-/
import Derived.Test.YtnnphpfobdcmbaaExtMath
import Derived.Test.YtnnphpfobdcmbaaRowS
import Derived.Test.YtnnphpfobdcmbaaReg
import Derived.LoopTactic
import Derived.Deep.LoopGhost
import Derived.Deep.DeepCutAuto
import Derived.Lib.LazyBuf
import Derived.Lib.AppendZeros
import Derived.BigQuiet
import Derived.DeepKeys
import Derived.Deep.MidRow
import Derived.WalkSmall
namespace Go.Proofs.Ytnnphpfobdcmbaa
open Go.RowKit Mem
namespace Ext

/-! ### Blocks of their own -/
theorem frozen_of {w : World} {g : Nat} {cs : Array Value} {t : TypeId} (h : w.heap[g]? = some (.cells cs t (0, 0))) (i : Nat) : w.frozen? ⟨g, i, none⟩ = false := by simp [World.frozen?, h]
theorem heap_set {w : World} {g : Nat} {cs : Array Value} {e : TypeId} (h : w.heap[g]? = some (.cells cs e (0, 0))) (i : Nat) (v : Value) : (w.setCell ⟨g, i, none⟩ v).heap[g]? = some (.cells (cs.setIfInBounds i v) e (0, 0)) := by
  simp [World.setCell, Array.getElem?_modify, h]
/-- What lies in a block. -/
def Cells (w : World) (g : Nat) (t : TypeId) (cs : Array Value) : Prop := w.heap[g]? = some (.cells cs t (0, 0))
section
variable {w w' : World} {g : Nat} {t : TypeId} {cs : Array Value}
theorem Cells.below (h : Cells w g t cs) (hb : Below w.heap.size w w') : Cells w' g t cs := (hb.block _ (Array.getElem?_eq_some_iff.1 h).1).trans h
theorem Cells.lt (h : Cells w g t cs) : g < w.heap.size := (Array.getElem?_eq_some_iff.1 h).1
theorem Cells.cell (h : Cells w g t cs) (i : Nat) : w.cell? ⟨g, i, none⟩ = cs[i]? := cell_of_row _ _ _ _ _ _ h
theorem Cells.frozen (h : Cells w g t cs) (i : Nat) : w.frozen? ⟨g, i, none⟩ = false := frozen_of h i
theorem Cells.set_ (h : Cells w g t cs) (i : Nat) (v : Value) : Cells (w.setCell ⟨g, i, none⟩ v) g t (cs.setIfInBounds i v) := heap_set h i v
theorem Cells.set_other {g' : Nat} (h : Cells w g t cs) (hne : g' ≠ g) (i : Nat) (v : Value) : Cells (w.setCell ⟨g', i, none⟩ v) g t cs := (Below.heap_setCell _ _ _ _ (Ne.symm hne)).trans h
theorem Cells.new (w : World) (cs : Array Value) (t : TypeId) : Cells (w.alloc (.cells cs t)) w.heap.size t cs := heap_alloc_new w _
theorem Cells.alloc (h : Cells w g t cs) (o : Obj) : Cells (w.alloc o) g t cs := h.below ((Below.refl _ w).alloc (Nat.le_refl _) o)
theorem Cells.low {b : Nat} (h : Cells w g t cs) (hg : g < b) (hb : Below b w w') : Cells w' g t cs := (hb.block _ hg).trans h
theorem Cells.drew (h : Cells w g t cs) : Cells w.drew g t cs := h
end
/-- A extent's cells; a extent, a table as a value. -/
def cellsL (x : Ex) : List Value := [.int .i64 x.lba, .int .i64 x.n, .int .i64 x.ver, .int .i64 x.zone, .int .i64 x.off]
abbrev xv (x : Ex) : Value := .agg #[.int .i64 x.lba, .int .i64 x.n, .int .i64 x.ver, .int .i64 x.zone, .int .i64 x.off]
/-- A extent, a table in a block of its own. -/
abbrev LBox (w : World) (g : Nat) (x : Ex) : Prop := Cells w g 32 #[.int .i64 x.lba, .int .i64 x.n, .int .i64 x.ver, .int .i64 x.zone, .int .i64 x.off]
abbrev OneBox (w : World) (g : Nat) (t : TypeId) (v : Value) : Prop := Cells w g t #[v]
theorem LBox.cells {w : World} {g : Nat} {x : Ex} (h : LBox w g x) : w.cell? ⟨g, 0, none⟩ = some (.int .i64 x.lba) ∧ w.cell? ⟨g, 1, none⟩ = some (.int .i64 x.n) ∧ w.cell? ⟨g, 2, none⟩ = some (.int .i64 x.ver) ∧ w.cell? ⟨g, 3, none⟩ = some (.int .i64 x.zone) ∧ w.cell? ⟨g, 4, none⟩ = some (.int .i64 x.off) :=
  ⟨Cells.cell h 0, Cells.cell h 1, Cells.cell h 2, Cells.cell h 3, Cells.cell h 4⟩
theorem LBox.frozen {w : World} {g : Nat} {x : Ex} (h : LBox w g x) : w.frozen? ⟨g, 0, none⟩ = false ∧ w.frozen? ⟨g, 1, none⟩ = false ∧ w.frozen? ⟨g, 2, none⟩ = false ∧ w.frozen? ⟨g, 3, none⟩ = false ∧ w.frozen? ⟨g, 4, none⟩ = false :=
  ⟨Cells.frozen h 0, Cells.frozen h 1, Cells.frozen h 2, Cells.frozen h 3, Cells.frozen h 4⟩
theorem OneBox.cells {w : World} {g : Nat} {t : TypeId} {v : Value} (h : OneBox w g t v) : w.cell? ⟨g, 0, none⟩ = some v := Cells.cell h 0
theorem OneBox.frozen {w : World} {g : Nat} {t : TypeId} {v : Value} (h : OneBox w g t v) : w.frozen? ⟨g, 0, none⟩ = false := Cells.frozen h 0
theorem Cells.set3 {w : World} {q : Nat} {t : TypeId} {a b c : Value} (h : Cells w q t #[a, b, c]) (x y z : Value) : Cells (((w.setCell ⟨q, 0, none⟩ x).setCell ⟨q, 1, none⟩ y).setCell ⟨q, 2, none⟩ z) q t #[x, y, z] :=
  Cells.set_ (Cells.set_ (Cells.set_ h 0 x) 1 y) 2 z
theorem Cells.set4 {w : World} {q : Nat} {t : TypeId} {a b c d e : Value} (h : Cells w q t #[a, b, c, d, e]) (x y z v : Value) : Cells ((((w.setCell ⟨q, 0, none⟩ x).setCell ⟨q, 1, none⟩ y).setCell ⟨q, 2, none⟩ z).setCell ⟨q, 3, none⟩ v) q t #[x, y, z, v, e] :=
  Cells.set_ (Cells.set_ (Cells.set_ (Cells.set_ h 0 x) 1 y) 2 z) 3 v
theorem Cells.set5 {w : World} {q : Nat} {t : TypeId} {a b c d e : Value} (h : Cells w q t #[a, b, c, d, e]) (x y z v u : Value) : Cells (((((w.setCell ⟨q, 0, none⟩ x).setCell ⟨q, 1, none⟩ y).setCell ⟨q, 2, none⟩ z).setCell ⟨q, 3, none⟩ v).setCell ⟨q, 4, none⟩ u) q t #[x, y, z, v, u] :=
  Cells.set_ (Cells.set4 h x y z v) 4 u
theorem below3 {B g : Nat} {a w : World} (h : Below B a w) (hg : B ≤ g) (x y v : Value) : Below B a (((w.setCell ⟨g, 0, none⟩ x).setCell ⟨g, 1, none⟩ y).setCell ⟨g, 2, none⟩ v) :=
  ((h.setCell (p := ⟨g, 0, none⟩) hg x).setCell (p := ⟨g, 1, none⟩) hg y).setCell (p := ⟨g, 2, none⟩) hg v
theorem below4 {B g : Nat} {a w : World} (h : Below B a w) (hg : B ≤ g) (x y z v : Value) : Below B a ((((w.setCell ⟨g, 0, none⟩ x).setCell ⟨g, 1, none⟩ y).setCell ⟨g, 2, none⟩ z).setCell ⟨g, 3, none⟩ v) :=
  (((h.setCell (p := ⟨g, 0, none⟩) hg x).setCell (p := ⟨g, 1, none⟩) hg y).setCell (p := ⟨g, 2, none⟩) hg z).setCell (p := ⟨g, 3, none⟩) hg v
theorem Cells.other3 {w : World} {g g' : Nat} {t : TypeId} {cs : Array Value} (h : Cells w g t cs) (hg : g' ≠ g) (x y v : Value) :
    Cells (((w.setCell ⟨g', 0, none⟩ x).setCell ⟨g', 1, none⟩ y).setCell ⟨g', 2, none⟩ v) g t cs := Cells.set_other (Cells.set_other (Cells.set_other h hg 0 x) hg 1 y) hg 2 v
theorem Cells.other4 {w : World} {g g' : Nat} {t : TypeId} {cs : Array Value} (h : Cells w g t cs) (hg : g' ≠ g) (x y z v : Value) :
    Cells ((((w.setCell ⟨g', 0, none⟩ x).setCell ⟨g', 1, none⟩ y).setCell ⟨g', 2, none⟩ z).setCell ⟨g', 3, none⟩ v) g t cs := Cells.set_other (Cells.other3 h hg x y z) hg 3 v

/-! ### Block g alone may have changed -/
structure But (g : Nat) (w w' : World) : Prop where
  by_ : w.grownBy w' (some g)
section
variable {g : Nat} {w w' w'' : World}
theorem But.refl (g : Nat) (w : World) : But g w w := ⟨⟨rfl, rfl, rfl, Nat.le_refl _, fun _ _ _ => rfl⟩⟩
theorem But.trans (h : But g w w') (k : But g w' w'') : But g w w'' :=
  ⟨⟨k.1.os.trans h.1.os, k.1.tape.trans h.1.tape, k.1.output.trans h.1.output, Nat.le_trans h.1.size k.1.size, fun i hi hn => (k.1.block i (Nat.lt_of_lt_of_le hi h.1.size) hn).trans (h.1.block i hi hn)⟩⟩
theorem But.block (h : But g w w') {k : Nat} (hk : k < w.heap.size) (hn : k ≠ g) : w'.heap[k]? = w.heap[k]? := h.1.block k hk (fun e => hn (by injection e))
theorem But.below (h : But g w w') {b : Nat} (hb : b ≤ w.heap.size) (hg : b ≤ g) : Below b w w' :=
  ⟨h.1.os, h.1.tape, h.1.output, h.1.size, fun _ hk => h.block (Nat.lt_of_lt_of_le hk hb) (Nat.ne_of_lt (Nat.lt_of_lt_of_le hk hg))⟩
theorem Cells.but {k : Nat} {t : TypeId} {cs : Array Value} (hc : Cells w k t cs) (h : But g w w') (hn : k ≠ g) : Cells w' k t cs := (h.block (Cells.lt hc) hn).trans hc
theorem But.set1 (w : World) (q i : Nat) (v : Value) : But q w (w.setCell ⟨q, i, none⟩ v) :=
  ⟨⟨rfl, rfl, rfl, by simp, fun b _ hn => Below.heap_setCell _ _ _ _ (fun e => hn (by rw [e]))⟩⟩
theorem But.of_below {q : Nat} (h : Below w.heap.size w w') : But q w w' := ⟨⟨h.os, h.tape, h.output, h.size, fun b hb _ => h.block b hb⟩⟩
theorem But.set3 (w : World) (q : Nat) (x y v : Value) : But q w (((w.setCell ⟨q, 0, none⟩ x).setCell ⟨q, 1, none⟩ y).setCell ⟨q, 2, none⟩ v) :=
  (But.set1 _ _ _ _).trans ((But.set1 _ _ _ _).trans (But.set1 _ _ _ _))
theorem But.set4 (w : World) (q : Nat) (x y z v : Value) : But q w ((((w.setCell ⟨q, 0, none⟩ x).setCell ⟨q, 1, none⟩ y).setCell ⟨q, 2, none⟩ z).setCell ⟨q, 3, none⟩ v) :=
  (But.set1 _ _ _ _).trans ((But.set1 _ _ _ _).trans ((But.set1 _ _ _ _).trans (But.set1 _ _ _ _)))
theorem But.size (h : But g w w') : w.heap.size ≤ w'.heap.size := h.1.size
end

/-! ### Rows of extents -/
abbrev RowL (w : World) (A : Option Addr) (n c : Nat) (l : List Ex) : Prop := RowS cellsL 5 w A n c l
theorem RowS.keepBut {α : Type} {cells : α → List Value} {k : Nat} {w w' : World} {b : Nat} {A : Option Addr} {n c : Nat} {xs : List α} (h : RowS cells k w A n c xs) (hn : ∀ q o, A = some ⟨q, o, none⟩ → 0 < n → q ≠ b) (hb : But b w w') : RowS cells k w' A n c xs := by
  refine ⟨h.len, h.cap, h.big, fun h0 => ?_⟩
  obtain ⟨q, o, e, hq, hcell⟩ := h.at_ h0
  refine ⟨q, o, e, Nat.lt_of_lt_of_le hq hb.by_.size, fun i x hi j u hu => ?_⟩
  rw [World.cell?_of_block (w := w) (hb.block hq (hn q o e h0))]
  exact hcell i x hi j u hu
theorem RowS.drew {α : Type} {cells : α → List Value} {k : Nat} {w : World} {A : Option Addr} {n c : Nat} {xs : List α} (h : RowS cells k w A n c xs) : RowS cells k w.drew A n c xs := h.below (Below.refl _ w).drew
theorem RowS.alloc {α : Type} {cells : α → List Value} {k : Nat} {w : World} {A : Option Addr} {n c : Nat} {xs : List α} (h : RowS cells k w A n c xs) (o : Obj) : RowS cells k (w.alloc o) A n c xs := h.below ((Below.refl _ w).alloc (Nat.le_refl _) o)
/-- Where a extent lies in its row. -/
theorem RowS.ext {w : World} {A : Option Addr} {n c : Nat} {l : List Ex} (h : RowL w A n c l) {i : Nat} {x : Ex} (hx : l[i]? = some x) :
    ∃ b o, A = some ⟨b, o, none⟩ ∧ b < w.heap.size ∧ ∀ W : World, W.heap[b]? = w.heap[b]? → W.cell? ⟨b, o + i * 5, none⟩ = some (.int .i64 x.lba) ∧ W.cell? ⟨b, o + i * 5 + 1, none⟩ = some (.int .i64 x.n) ∧ W.cell? ⟨b, o + i * 5 + 2, none⟩ = some (.int .i64 x.ver) ∧ W.cell? ⟨b, o + i * 5 + 3, none⟩ = some (.int .i64 x.zone) ∧ W.cell? ⟨b, o + i * 5 + 4, none⟩ = some (.int .i64 x.off) := by
  obtain ⟨b, o, e, hb, hc⟩ := h.elem hx
  exact ⟨b, o, e, hb, fun W hW => ⟨hc W hW 0 _ rfl, hc W hW 1 _ rfl, hc W hW 2 _ rfl, hc W hW 3 _ rfl, hc W hW 4 _ rfl⟩⟩
/-- The same, now. -/
theorem RowS.ext_at {w : World} {A : Option Addr} {n c : Nat} {l : List Ex} (h : RowL w A n c l) {i : Nat} {x : Ex} (hx : l[i]? = some x) :
    ∃ b o, A = some ⟨b, o, none⟩ ∧ w.cell? ⟨b, o + i * 5, none⟩ = some (.int .i64 x.lba) ∧ w.cell? ⟨b, o + i * 5 + 1, none⟩ = some (.int .i64 x.n) ∧ w.cell? ⟨b, o + i * 5 + 2, none⟩ = some (.int .i64 x.ver) ∧ w.cell? ⟨b, o + i * 5 + 3, none⟩ = some (.int .i64 x.zone) ∧ w.cell? ⟨b, o + i * 5 + 4, none⟩ = some (.int .i64 x.off) := by
  obtain ⟨b, o, e, -, hc⟩ := RowS.ext h hx
  exact ⟨b, o, e, hc w rfl⟩
theorem ext_len (x : Ex) : (cellsL x).length = 5 := rfl
theorem ext_one (x : Ex) : ∀ u ∈ cellsL x, u.oneCell' = true := by
  intro u hu
  simp [cellsL] at hu
  rcases hu with rfl | rfl | rfl | rfl | rfl <;> rfl
theorem flat_len (xs : List Ex) : (xs.flatMap cellsL).length = xs.length * 5 := by
  induction xs with
  | nil => rfl
  | cons x xs ih => rw [List.flatMap_cons, List.length_append, ih, ext_len, List.length_cons]; omega
theorem flat_one (xs : List Ex) : ∀ u ∈ xs.flatMap cellsL, u.oneCell' = true := by
  intro u hu
  obtain ⟨x, _, hx⟩ := List.mem_flatMap.1 hu
  exact ext_one x u hx
theorem flat_get (xs : List Ex) (i j : Nat) (x : Ex) (v : Value) (hx : xs[i]? = some x) (hv : (cellsL x)[j]? = some v) : (xs.flatMap cellsL)[i * 5 + j]? = some v := by
  induction xs generalizing i with
  | nil => simp at hx
  | cons y xs ih =>
    have hj : j < 5 := (List.getElem?_eq_some_iff.1 hv).1
    rw [List.flatMap_cons]
    rcases i with _ | i
    · simp only [List.getElem?_cons_zero, Option.some.injEq] at hx
      subst hx
      rw [List.getElem?_append_left (by rw [ext_len]; omega)]
      simpa using hv
    · rw [List.getElem?_append_right (by rw [ext_len]; omega), ext_len]
      rw [show (i + 1) * 5 + j - 5 = i * 5 + j by omega]
      exact ih i (by simpa using hx)
theorem flat_inv (xs : List Ex) (k : Nat) (v : Value) (h : (xs.flatMap cellsL)[k]? = some v) : ∃ x, xs[k / 5]? = some x ∧ (cellsL x)[k % 5]? = some v := by
  have hl : k < xs.length * 5 := by rw [← flat_len]; exact (List.getElem?_eq_some_iff.1 h).1
  have hlt : k / 5 < xs.length := by omega
  have hx : xs[k / 5]? = some xs[k / 5] := List.getElem?_eq_getElem hlt
  have h4 : k % 5 < (cellsL xs[k / 5]).length := by rw [ext_len]; omega
  obtain ⟨u, hu⟩ : ∃ u, (cellsL xs[k / 5])[k % 5]? = some u := ⟨_, List.getElem?_eq_getElem h4⟩
  have := flat_get xs (k / 5) (k % 5) _ u hx hu
  rw [show k / 5 * 5 + k % 5 = k by omega, h] at this
  injection this with this
  exact ⟨_, hx, by rw [this]; exact hu⟩
theorem add_none' (b o k : Nat) : (⟨b, o, none⟩ : Addr).add k = ⟨b, o + k, none⟩ := Mem.add_none b o k
/-- A row's cells, one behind the other. -/
theorem RowS.flat {w : World} {A : Option Addr} {n c : Nat} {l : List Ex} (h : RowL w A n c l) {b o : Nat} (hA : A = some ⟨b, o, none⟩) : ∀ j u, (l.flatMap cellsL)[j]? = some u → w.cell? ⟨b, o + j, none⟩ = some u := by
  intro j u hj
  obtain ⟨x, hx, hu⟩ := flat_inv l j u hj
  have hn : j / 5 < l.length := (List.getElem?_eq_some_iff.1 hx).1
  obtain ⟨b', o', e, -, hc⟩ := h.at_ (by have := h.len; omega)
  rw [hA] at e
  injection e with e
  injection e with e1 e2
  subst e1 e2
  have := hc (j / 5) x hx (j % 5) u hu
  rwa [show o + j / 5 * 5 + j % 5 = o + j by omega] at this
/-- A row of extents of one's own. -/
def OwnsL (base : Nat) (w : World) (s : Value) (n : Nat) (xs : List Ex) : Prop := w.ownsRow base 32 5 s n (xs.flatMap cellsL) ∧ xs.length = n
section
variable {base : Nat} {w w' : World} {s : Value} {n : Nat} {xs : List Ex}
theorem OwnsL.nil (base : Nat) (w : World) : OwnsL base w (.slice none 0 0) 0 [] := ⟨World.ownsRow_nil _ _ _ _, rfl⟩
theorem OwnsL.kept {row : Option Nat} (h : OwnsL base w s n xs) (hg : w.grownBy w' row) (hne : s.ownBlock = none ∨ s.ownBlock ≠ row) : OwnsL base w' s n xs := ⟨World.ownsRow.kept h.1 hg hne, h.2⟩
theorem OwnsL.below (h : OwnsL base w s n xs) (hb : Below w.heap.size w w') : OwnsL base w' s n xs := by
  refine ⟨⟨h.1.1, ?_⟩, h.2⟩
  rcases h.1.2 with hn | ⟨q, cap, cur, e', hbg, hq, r⟩
  · exact .inl hn
  · exact .inr ⟨q, cap, cur, e', hbg, (hb.block _ (Array.getElem?_eq_some_iff.1 hq).1).trans hq, r⟩
theorem OwnsL.alloc (h : OwnsL base w s n xs) (o : Obj) : OwnsL base (w.alloc o) s n xs := h.below ((Below.refl _ w).alloc (Nat.le_refl _) o)
theorem OwnsL.drew (h : OwnsL base w s n xs) : OwnsL base w.drew s n xs := h.below (Below.refl _ w).drew
theorem OwnsL.mono {base' : Nat} (h : OwnsL base w s n xs) (hb : base' ≤ base) : OwnsL base' w s n xs := by
  refine ⟨⟨h.1.1, ?_⟩, h.2⟩
  rcases h.1.2 with hn | ⟨q, cap, cur, e', hbg, r⟩
  · exact .inl hn
  · exact .inr ⟨q, cap, cur, e', Nat.le_trans hb hbg, r⟩
theorem OwnsL.setCell (h : OwnsL base w s n xs) {p : Addr} (hp : p.block < base) (v : Value) : OwnsL base (w.setCell p v) s n xs := by
  refine ⟨⟨h.1.1, ?_⟩, h.2⟩
  rcases h.1.2 with hn | ⟨q, cap, cur, e', hbg, hq, r⟩
  · exact .inl hn
  · exact .inr ⟨q, cap, cur, e', hbg, (Below.heap_setCell _ _ _ _ (by omega)).trans hq, r⟩
theorem OwnsL.but {g : Nat} (h : OwnsL base w s n xs) (hb : But g w w') (hg : g < base) : OwnsL base w' s n xs := by
  refine ⟨⟨h.1.1, ?_⟩, h.2⟩
  rcases h.1.2 with hn | ⟨q, cap, cur, e', hbg, hq, r⟩
  · exact .inl hn
  · exact .inr ⟨q, cap, cur, e', hbg, (hb.block (Array.getElem?_eq_some_iff.1 hq).1 (by omega)).trans hq, r⟩
theorem OwnsL.slice (h : OwnsL base w s n xs) : ∃ A c, s = .slice A n c := by
  rcases h.1.2 with ⟨rfl, rfl⟩ | ⟨g, cap, cur, rfl, _⟩
  · exact ⟨none, 0, rfl⟩
  · exact ⟨_, _, rfl⟩
theorem OwnsL.row {A : Option Addr} {c : Nat} (h : OwnsL base w (.slice A n c) n xs) (hn : n ≤ 140737488351232) : RowL w A n c xs := by
  rcases h.1.2 with ⟨e, h0⟩ | ⟨g, cap, cur, e, _, hg, hnc, hcm, hs, ht⟩
  · subst h0
    injection e with e1 _ e3
    subst e1 e3
    exact ⟨h.2, by omega, by omega, fun h => absurd h (by omega)⟩
  · injection e with e1 _ e3
    subst e1 e3
    refine ⟨h.2, hnc, hn, fun _ => ⟨g, 0, rfl, (Array.getElem?_eq_some_iff.1 hg).1, fun i x hx j v hv => ?_⟩⟩
    have := World.ownsRow.cells (g := g) (h.1 : w.ownsRow base _ 5 _ n (xs.flatMap cellsL)) rfl (i * 5 + j) v (flat_get xs i j x v hx hv)
    simpa [Mem.add_none, Nat.add_assoc] using this
theorem OwnsL.lt (h : OwnsL base w s n xs) : ∀ k, s.ownBlock = some k → base ≤ k ∧ k < w.heap.size := World.ownsRow.lt h.1
end
theorem below_row {base : Nat} {w w' : World} {s : Value} {n : Nat} {xs : List Ex} (h : OwnsL base w s n xs) (hg : w.grownBy w' s.ownBlock) (hb : base ≤ w.heap.size) : Below base w w' :=
  (Below.refl base w).grown hg hb (fun k hk => (h.lt k hk).1)

theorem info_ext : (Try.prog.info? 32).map (fun i => (i.zero, i.size, i.bytes)) = some (some (.agg #[.int .i64 0, .int .i64 0, .int .i64 0, .int .i64 0, .int .i64 0]), 5, 40) := by kernel_rfl
theorem info_int : (Try.prog.info? 3).map (fun i => (i.zero, i.size, i.bytes)) = some (some (.int .i64 0), 1, 8) := by kernel_rfl

set_option maxRecDepth 100000 in
/-- append(s, x...) onto a row of extents of the call's own; x nil, empty or not. -/
theorem run_append_l (w : World) (base : Nat) (s : Value) (n : Nat) (l : List Ex) (hown : OwnsL base w s n l) (A : Option Addr) (m c : Nat) (l' : List Ex) (hx : RowL w A m c l') (hbig : n + m ≤ 1099511627776) (hbase : base ≤ w.heap.size) :
    ∃ s' w', (Builtin.append_ #[22, 22] 22 #[s, .slice A m c]).run Try.prog w = .ok s' w' ∧ OwnsL base w' s' (n + m) (l ++ l') ∧ w.grownBy w' s.ownBlock ∧ (s'.ownBlock = s.ownBlock ∨ s'.ownBlock = some w.heap.size) := by
  obtain ⟨i, hi, hz0, hz1, hz2⟩ := info_parts info_ext
  rcases A with _ | ad
  · have hm : m = 0 := by
      rcases Nat.eq_zero_or_pos m with h0 | h0
      · exact h0
      · obtain ⟨b, o, e, _⟩ := hx.at_ h0
        cases e
    have hl : l' = [] := List.eq_nil_of_length_eq_zero (by rw [hx.len, hm])
    subst hm hl
    refine ⟨s, w, ?_, by simpa using hown, ⟨rfl, rfl, rfl, Nat.le_refl _, fun _ _ _ => rfl⟩, .inl rfl⟩
    rcases hown.1.2 with ⟨rfl, rfl⟩ | ⟨b, cap, cur, rfl, _, _, hnc, _⟩
    · simp [Builtin.append_, run_underlying Try.underlying22, sizeOf, typeInfo, hi, Builtin.lenOf, Builtin.firstCells]
    · simp [Builtin.append_, run_underlying Try.underlying22, sizeOf, typeInfo, hi, Builtin.lenOf, Builtin.firstCells, hnc, storeCells]
  · have hcells : ∀ j q, (l'.flatMap cellsL)[j]? = some q → w.cell? (ad.add j) = some q := by
      intro j q hq
      have hlt : j < (l'.flatMap cellsL).length := (List.getElem?_eq_some_iff.1 hq).1
      rw [flat_len] at hlt
      obtain ⟨b, o, e, _⟩ := hx.at_ (by have := hx.len; omega)
      have := RowS.flat hx e j q hq
      injection e with e
      subst e
      rw [Mem.add_none]
      exact this
    obtain ⟨s', w', hrun, h2, h3, -, h5⟩ := run_append_own_at (P := Try.prog) w base 22 22 32 i _ 5 40 Try.underlying22 hi hz0 hz1 hz2 rfl (by omega) s n _ hown.1 ad m c (l'.flatMap cellsL) (by rw [flat_len, hx.len]) hcells (flat_one l') (by unfold maxLen; omega) (by omega) hbase
    exact ⟨s', w', hrun, ⟨by rw [List.flatMap_append]; exact h2, by rw [List.length_append, hown.2, hx.len]⟩, h3, h5⟩
theorem wpList_append_l {w : World} {ops : Array Oper} {rest : List Oper} {o : Oper} {a : Act} {Q : Exit → Act → World → Prop} (hgd : o.guard = none) (s x : Operand)
    (ho : o.op = .call { callee := .builtin .append, args := #[s, x], argTypes := #[22, 22] }) (hty : o.type = 22)
    (base : Nat) (xv : Value) (n : Nat) (l : List Ex) (hs : a.eval s = xv) (hown : OwnsL base w xv n l) (A : Option Addr) (m c : Nat) (l' : List Ex) (hx : a.eval x = .slice A m c) (h : RowL w A m c l')
    (hbig : n + m ≤ 1099511627776) (hbase : base ≤ w.heap.size)
    (hk : ∀ A' c' w', OwnsL base w' (.slice A' (n + m) c') (n + m) (l ++ l') → w.grownBy w' xv.ownBlock → ((Value.slice A' (n + m) c').ownBlock = xv.ownBlock ∨ (Value.slice A' (n + m) c').ownBlock = some w.heap.size) → wpList Try.prog ops Q rest (a.put o.dst (.slice A' (n + m) c')) w') :
    wpList Try.prog ops Q (o :: rest) a w := by
  refine wpList_plain hgd fun K hK => ?_
  obtain ⟨s', w', hrun, h2, h3, h4⟩ := run_append_l w base xv n l hown A m c l' h hbig hbase
  obtain ⟨A', c', rfl⟩ := h2.slice
  unfold Oper.wp execOp
  simp only [ho, hty, resolve, invoke, builtin, Sem.run_bind, Sem.run_pure, Result.andThen_ok, List.map_toArray, List.map_cons, List.map_nil, hs, hx, hrun]
  exact hK _ _ (hk A' c' w' h2 h3 h4)
/-- One extent in a block of its own is a row of one. -/
theorem RowS.one {w : World} {q : Nat} {x : Ex} (h : LBox w q x) : RowL w (some ⟨q, 0, none⟩) 1 1 [x] := by
  refine ⟨rfl, by omega, by omega, fun _ => ⟨_, _, rfl, Cells.lt h, fun i y hy j u hu => ?_⟩⟩
  have hi : i = 0 := by have := (List.getElem?_eq_some_iff.1 hy).1; simpa using this
  subst hi
  simp at hy
  subst hy
  rw [show 0 + 0 * 5 + j = j by omega, Cells.cell h]
  simpa [cellsL] using hu

/-! ### Results that lie in cells -/
theorem results_c1 {P : Program} {fn : Func} {p u : Tmp} {ty : TypeId} (h : fn.results = #[.cell p ty, .tmp u]) (tmps : Array Value) (w : World) (g : Nat) (t : TypeId) (cs : Array Value) (fr : Nat × Nat) (d : TypeDesc)
    (hp : tmps.getD p undef = .pointer (some ⟨g, 0, none⟩)) (hg : w.heap[g]? = some (.cells cs t fr))
    (hu : P.underlying ty = some d) (hd : (match d with | .struct _ | .array _ _ => true | _ => false) = true) (hi : (P.info? ty).map (·.size) = some cs.size) :
    (results fn tmps).run P w = .ok (.tuple #[.agg cs, tmps.getD u undef]) w := by
  have hp' : tmps[p]?.getD undef = .pointer (some ⟨g, 0, none⟩) := by simpa using hp
  simp [results, h, hp', asAddr, Result.andThen, run_loadVar_row w g t ty cs fr d hg hu hd hi]
theorem results_c0 {P : Program} {fn : Func} {p : Tmp} {ty : TypeId} (h : fn.results = #[.cell p ty]) (tmps : Array Value) (w : World) (g : Nat) (t : TypeId) (cs : Array Value) (fr : Nat × Nat) (d : TypeDesc)
    (hp : tmps.getD p undef = .pointer (some ⟨g, 0, none⟩)) (hg : w.heap[g]? = some (.cells cs t fr))
    (hu : P.underlying ty = some d) (hd : (match d with | .struct _ | .array _ _ => true | _ => false) = true) (hi : (P.info? ty).map (·.size) = some cs.size) :
    (results fn tmps).run P w = .ok (.agg cs) w := by
  have hp' : tmps[p]?.getD undef = .pointer (some ⟨g, 0, none⟩) := by simpa using hp
  simp [results, h, hp', asAddr, run_loadVar_row w g t ty cs fr d hg hu hd hi]
theorem results_c2 {P : Program} {fn : Func} {p u v : Tmp} {ty : TypeId} (h : fn.results = #[.cell p ty, .tmp u, .tmp v]) (tmps : Array Value) (w : World) (g : Nat) (t : TypeId) (cs : Array Value) (fr : Nat × Nat) (d : TypeDesc)
    (hp : tmps.getD p undef = .pointer (some ⟨g, 0, none⟩)) (hg : w.heap[g]? = some (.cells cs t fr))
    (hu : P.underlying ty = some d) (hd : (match d with | .struct _ | .array _ _ => true | _ => false) = true) (hi : (P.info? ty).map (·.size) = some cs.size) :
    (results fn tmps).run P w = .ok (.tuple #[.agg cs, tmps.getD u undef, tmps.getD v undef]) w := by
  have hp' : tmps[p]?.getD undef = .pointer (some ⟨g, 0, none⟩) := by simpa using hp
  simp [results, h, hp', asAddr, Result.andThen, run_loadVar_row w g t ty cs fr d hg hu hd hi]
theorem results_cc1 {P : Program} {fn : Func} {p u v : Tmp} {ty ty2 : TypeId} (h : fn.results = #[.cell p ty, .cell u ty2, .tmp v]) (tmps : Array Value) (w : World) (g g2 : Nat) (t t2 : TypeId) (cs cs2 : Array Value) (fr fr2 : Nat × Nat) (d d2 : TypeDesc)
    (hp : tmps.getD p undef = .pointer (some ⟨g, 0, none⟩)) (hg : w.heap[g]? = some (.cells cs t fr))
    (hu : P.underlying ty = some d) (hd : (match d with | .struct _ | .array _ _ => true | _ => false) = true) (hi : (P.info? ty).map (·.size) = some cs.size)
    (hp2 : tmps.getD u undef = .pointer (some ⟨g2, 0, none⟩)) (hg2 : w.heap[g2]? = some (.cells cs2 t2 fr2))
    (hu2 : P.underlying ty2 = some d2) (hd2 : (match d2 with | .struct _ | .array _ _ => true | _ => false) = true) (hi2 : (P.info? ty2).map (·.size) = some cs2.size) :
    (results fn tmps).run P w = .ok (.tuple #[.agg cs, .agg cs2, tmps.getD v undef]) w := by
  have hp' : tmps[p]?.getD undef = .pointer (some ⟨g, 0, none⟩) := by simpa using hp
  have hp2' : tmps[u]?.getD undef = .pointer (some ⟨g2, 0, none⟩) := by simpa using hp2
  simp [results, h, hp', hp2', asAddr, Result.andThen, run_loadVar_row w g t ty cs fr d hg hu hd hi, run_loadVar_row w g2 t2 ty2 cs2 fr2 d2 hg2 hu2 hd2 hi2]

/-! ### What calls give -/
end Ext
end Go.Proofs.Ytnnphpfobdcmbaa
