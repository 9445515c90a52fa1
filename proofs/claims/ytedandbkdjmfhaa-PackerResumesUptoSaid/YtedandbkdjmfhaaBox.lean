/-
  BLOCKS OF THEIR OWN, in one for all programs: what lies in a block; block g alone may have changed; the blocks of a list alone may have changed.
-/
import Derived.Test.YtedandbkdjmfhaaRowS
import Derived.Lib.Hide
namespace Go.Proofs.Ytedandbkdjmfhaa
open Go.RowKit Mem
namespace Box

theorem frozen_of {w : World} {g : Nat} {cs : Array Value} {t : TypeId} (h : w.heap[g]? = some (.cells cs t (0, 0))) (i : Nat) : w.frozen? ⟨g, i, none⟩ = false := by simp [World.frozen?, h]
theorem heap_set {w : World} {g : Nat} {cs : Array Value} {e : TypeId} (h : w.heap[g]? = some (.cells cs e (0, 0))) (i : Nat) (v : Value) : (w.setCell ⟨g, i, none⟩ v).heap[g]? = some (.cells (cs.setIfInBounds i v) e (0, 0)) := by
  simp [World.setCell, Array.getElem?_modify, h]
/-- What lies in a block. -/
def Cells (w : World) (g : Nat) (t : TypeId) (cs : Array Value) : Prop := w.heap[g]? = some (.cells cs t (0, 0))
section
variable {w w' : World} {g : Nat} {t : TypeId} {cs : Array Value}
theorem Cells.below (h : Cells w g t cs) (hb : Below w.heap.size w w') : Cells w' g t cs := (hb.block _ (Array.getElem?_eq_some_iff.1 h).1).trans h
theorem Cells.lt (h : Cells w g t cs) : g < w.heap.size := (Array.getElem?_eq_some_iff.1 h).1
theorem Cells.cell (h : Cells w g t cs) (i : Nat) : w.cell? ⟨g, i, none⟩ = cs[i]? := cell_of_row _ _ _ _ _ _ h
theorem Cells.frozen (h : Cells w g t cs) (i : Nat) : w.frozen? ⟨g, i, none⟩ = false := frozen_of h i
theorem Cells.set_ (h : Cells w g t cs) (i : Nat) (v : Value) : Cells (w.setCell ⟨g, i, none⟩ v) g t (cs.setIfInBounds i v) := heap_set h i v
theorem Cells.set_other {g' : Nat} (h : Cells w g t cs) (hne : g' ≠ g) (i : Nat) (v : Value) : Cells (w.setCell ⟨g', i, none⟩ v) g t cs := (Below.heap_setCell _ _ _ _ (Ne.symm hne)).trans h
theorem Cells.new (w : World) (cs : Array Value) (t : TypeId) : Cells (w.alloc (.cells cs t)) w.heap.size t cs := heap_alloc_new w _
theorem Cells.alloc (h : Cells w g t cs) (o : Obj) : Cells (w.alloc o) g t cs := h.below ((Below.refl _ w).alloc (Nat.le_refl _) o)
theorem Cells.low {b : Nat} (h : Cells w g t cs) (hg : g < b) (hb : Below b w w') : Cells w' g t cs := (hb.block _ hg).trans h
theorem Cells.drew (h : Cells w g t cs) : Cells w.drew g t cs := h
theorem Cells.ne {g' : Nat} {t' : TypeId} {cs' : Array Value} (h : Cells w g t cs) (h' : Cells w g' t' cs') (hn : t ≠ t') : g ≠ g' := by
  rintro rfl
  have := h.symm.trans h'
  injection this with this
  injection this with _ h2
  exact hn h2
end

/-! ### The blocks of S alone may have changed -/
structure Mov (S : List Nat) (w w' : World) : Prop where
  os : w'.os = w.os
  tape : w'.tape = w.tape
  output : w'.output = w.output
  size : w.heap.size ≤ w'.heap.size
  block : ∀ k, k < w.heap.size → k ∉ S → w'.heap[k]? = w.heap[k]?
section
variable {S T : List Nat} {w w' w'' : World}
theorem Mov.refl (S : List Nat) (w : World) : Mov S w w := ⟨rfl, rfl, rfl, Nat.le_refl _, fun _ _ _ => rfl⟩
theorem Mov.trans (h : Mov S w w') (k : Mov T w' w'') (hs : ∀ x ∈ T, x ∈ S ∨ w.heap.size ≤ x) : Mov S w w'' :=
  ⟨k.os.trans h.os, k.tape.trans h.tape, k.output.trans h.output, Nat.le_trans h.size k.size, fun i hi hn => by
    refine (k.block i (Nat.lt_of_lt_of_le hi h.size) fun hT => ?_).trans (h.block i hi hn)
    rcases hs i hT with h1 | h1
    · exact hn h1
    · omega⟩
theorem Mov.mono (h : Mov S w w') (hs : ∀ x ∈ S, x ∈ T ∨ w.heap.size ≤ x) : Mov T w w' := (Mov.refl T w).trans h hs
theorem Mov.of_below (S : List Nat) (h : Below w.heap.size w w') : Mov S w w' := ⟨h.os, h.tape, h.output, h.size, fun i hi _ => h.block i hi⟩
theorem Mov.below (h : Mov S w w') {b : Nat} (hb : b ≤ w.heap.size) (hS : ∀ x ∈ S, b ≤ x) : Below b w w' :=
  ⟨h.os, h.tape, h.output, h.size, fun i hi => h.block i (Nat.lt_of_lt_of_le hi hb) fun hm => by have := hS i hm; omega⟩
theorem Mov.set1 (w : World) {S : List Nat} {q : Nat} (hq : q ∈ S) (i : Nat) (v : Value) : Mov S w (w.setCell ⟨q, i, none⟩ v) :=
  ⟨rfl, rfl, rfl, by simp, fun b _ hn => Below.heap_setCell _ _ _ _ (fun e => hn (by rw [e]; exact hq))⟩
theorem Mov.alloc (S : List Nat) (w : World) (o : Obj) : Mov S w (w.alloc o) := Mov.of_below S ((Below.refl _ w).alloc (Nat.le_refl _) o)
theorem Mov.drew (S : List Nat) (w : World) : Mov S w w.drew := Mov.of_below S (Below.refl _ w).drew
theorem Cells.mov {g : Nat} {t : TypeId} {cs : Array Value} (hc : Cells w g t cs) (h : Mov S w w') (hn : g ∉ S) : Cells w' g t cs := (h.block _ hc.lt hn).trans hc
theorem Mov.grown {row : Option Nat} (h : w.grownBy w' row) (hr : ∀ j, row = some j → j ∈ S ∨ w.heap.size ≤ j) : Mov S w w' :=
  ⟨h.os, h.tape, h.output, h.size, fun i hi hn => h.block i hi fun e => by
    rcases hr i e.symm with h1 | h1
    · exact hn h1
    · omega⟩
end

theorem RowS.keep {α : Type} {cells : α → List Value} {k : Nat} {w w' : World} {A : Option Addr} {n c : Nat} {xs : List α} (h : RowS cells k w A n c xs) (hs : w.heap.size ≤ w'.heap.size) (hn : ∀ q o, A = some ⟨q, o, none⟩ → 0 < n → w'.heap[q]? = w.heap[q]?) : RowS cells k w' A n c xs := by
  refine ⟨h.len, h.cap, h.big, fun h0 => ?_⟩
  obtain ⟨q, o, e, hq, hcell⟩ := h.at_ h0
  refine ⟨q, o, e, Nat.lt_of_lt_of_le hq hs, fun i x hi j u hu => ?_⟩
  rw [World.cell?_of_block (w := w) (hn q o e h0)]
  exact hcell i x hi j u hu
theorem RowS.drew {α : Type} {cells : α → List Value} {k : Nat} {w : World} {A : Option Addr} {n c : Nat} {xs : List α} (h : RowS cells k w A n c xs) : RowS cells k w.drew A n c xs := h.below (Below.refl _ w).drew
theorem RowS.alloc {α : Type} {cells : α → List Value} {k : Nat} {w : World} {A : Option Addr} {n c : Nat} {xs : List α} (h : RowS cells k w A n c xs) (o : Obj) : RowS cells k (w.alloc o) A n c xs := h.below ((Below.refl _ w).alloc (Nat.le_refl _) o)
end Box
end Go.Proofs.Ytedandbkdjmfhaa
