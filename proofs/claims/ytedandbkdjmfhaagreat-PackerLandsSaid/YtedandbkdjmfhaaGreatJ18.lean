/-
  SEVERAL TEXTS IN ONE FILE: Box, Res, OwnW, OwnB, RegK, PkMem.
-/
import Derived.Test.YtedandbkdjmfhaaGreatJ03
import Derived.Lib.Hide
import Derived.WalkKit
import Derived.Deep.DeepCutAuto
import Derived.Lib.LazyBuf
import Derived.Test.YtedandbkdjmfhaaGreatJ17
import Derived.Deep.RegionHeld3
set_option linter.unusedSimpArgs false
set_option linter.unusedVariables false
/-
  BLOCKS OF THEIR OWN, in one for all programs: what lies in a block; block g alone may have changed; the blocks of a list alone may have changed.
-/
namespace Go.Proofs.YtedandbkdjmfhaaGreat
open Go.RowKit Mem
namespace Box

theorem frozen_of {w : World} {g : Nat} {cs : Array Value} {t : TypeId} (h : w.heap[g]? = some (.cells cs t (0, 0))) (i : Nat) : w.frozen? ⟨g, i, none⟩ = false := by simp [World.frozen?, h]
theorem heap_set {w : World} {g : Nat} {cs : Array Value} {e : TypeId} (h : w.heap[g]? = some (.cells cs e (0, 0))) (i : Nat) (v : Value) : (w.setCell ⟨g, i, none⟩ v).heap[g]? = some (.cells (cs.setIfInBounds i v) e (0, 0)) := by
  simp [World.setCell, Array.getElem?_modify, h]
/-- What lies in a block. -/
def Cells (w : World) (g : Nat) (t : TypeId) (cs : Array Value) : Prop := w.heap[g]? = some (.cells cs t (0, 0))
section
variable {w w' : World} {g : Nat} {t : TypeId} {cs : Array Value}
theorem Cells.below (h : Cells w g t cs) (hb : Below w.heap.size w w') : Cells w' g t cs := (hb.block _ (Array.getElem?_eq_some_iff.1 h).1).trans h
theorem Cells.lt (h : Cells w g t cs) : g < w.heap.size := (Array.getElem?_eq_some_iff.1 h).1
theorem Cells.cell (h : Cells w g t cs) (i : Nat) : w.cell? ⟨g, i, none⟩ = cs[i]? := cell_of_row _ _ _ _ _ _ h
theorem Cells.frozen (h : Cells w g t cs) (i : Nat) : w.frozen? ⟨g, i, none⟩ = false := frozen_of h i
theorem Cells.set_ (h : Cells w g t cs) (i : Nat) (v : Value) : Cells (w.setCell ⟨g, i, none⟩ v) g t (cs.setIfInBounds i v) := heap_set h i v
theorem Cells.set_other {g' : Nat} (h : Cells w g t cs) (hne : g' ≠ g) (i : Nat) (v : Value) : Cells (w.setCell ⟨g', i, none⟩ v) g t cs := (Below.heap_setCell _ _ _ _ (Ne.symm hne)).trans h
theorem Cells.new (w : World) (cs : Array Value) (t : TypeId) : Cells (w.alloc (.cells cs t)) w.heap.size t cs := heap_alloc_new w _
theorem Cells.alloc (h : Cells w g t cs) (o : Obj) : Cells (w.alloc o) g t cs := h.below ((Below.refl _ w).alloc (Nat.le_refl _) o)
theorem Cells.low {b : Nat} (h : Cells w g t cs) (hg : g < b) (hb : Below b w w') : Cells w' g t cs := (hb.block _ hg).trans h
theorem Cells.drew (h : Cells w g t cs) : Cells w.drew g t cs := h
theorem Cells.ne {g' : Nat} {t' : TypeId} {cs' : Array Value} (h : Cells w g t cs) (h' : Cells w g' t' cs') (hn : t ≠ t') : g ≠ g' := by
  rintro rfl
  have := h.symm.trans h'
  injection this with this
  injection this with _ h2
  exact hn h2
end

/-! ### The blocks of S alone may have changed -/
structure Mov (S : List Nat) (w w' : World) : Prop where
  os : w'.os = w.os
  tape : w'.tape = w.tape
  output : w'.output = w.output
  size : w.heap.size ≤ w'.heap.size
  block : ∀ k, k < w.heap.size → k ∉ S → w'.heap[k]? = w.heap[k]?
section
variable {S T : List Nat} {w w' w'' : World}
theorem Mov.refl (S : List Nat) (w : World) : Mov S w w := ⟨rfl, rfl, rfl, Nat.le_refl _, fun _ _ _ => rfl⟩
theorem Mov.trans (h : Mov S w w') (k : Mov T w' w'') (hs : ∀ x ∈ T, x ∈ S ∨ w.heap.size ≤ x) : Mov S w w'' :=
  ⟨k.os.trans h.os, k.tape.trans h.tape, k.output.trans h.output, Nat.le_trans h.size k.size, fun i hi hn => by
    refine (k.block i (Nat.lt_of_lt_of_le hi h.size) fun hT => ?_).trans (h.block i hi hn)
    rcases hs i hT with h1 | h1
    · exact hn h1
    · omega⟩
theorem Mov.mono (h : Mov S w w') (hs : ∀ x ∈ S, x ∈ T ∨ w.heap.size ≤ x) : Mov T w w' := (Mov.refl T w).trans h hs
theorem Mov.of_below (S : List Nat) (h : Below w.heap.size w w') : Mov S w w' := ⟨h.os, h.tape, h.output, h.size, fun i hi _ => h.block i hi⟩
theorem Mov.below (h : Mov S w w') {b : Nat} (hb : b ≤ w.heap.size) (hS : ∀ x ∈ S, b ≤ x) : Below b w w' :=
  ⟨h.os, h.tape, h.output, h.size, fun i hi => h.block i (Nat.lt_of_lt_of_le hi hb) fun hm => by have := hS i hm; omega⟩
theorem Mov.set1 (w : World) {S : List Nat} {q : Nat} (hq : q ∈ S) (i : Nat) (v : Value) : Mov S w (w.setCell ⟨q, i, none⟩ v) :=
  ⟨rfl, rfl, rfl, by simp, fun b _ hn => Below.heap_setCell _ _ _ _ (fun e => hn (by rw [e]; exact hq))⟩
theorem Mov.alloc (S : List Nat) (w : World) (o : Obj) : Mov S w (w.alloc o) := Mov.of_below S ((Below.refl _ w).alloc (Nat.le_refl _) o)
theorem Mov.drew (S : List Nat) (w : World) : Mov S w w.drew := Mov.of_below S (Below.refl _ w).drew
theorem Cells.mov {g : Nat} {t : TypeId} {cs : Array Value} (hc : Cells w g t cs) (h : Mov S w w') (hn : g ∉ S) : Cells w' g t cs := (h.block _ hc.lt hn).trans hc
theorem Mov.grown {row : Option Nat} (h : w.grownBy w' row) (hr : ∀ j, row = some j → j ∈ S ∨ w.heap.size ≤ j) : Mov S w w' :=
  ⟨h.os, h.tape, h.output, h.size, fun i hi hn => h.block i hi fun e => by
    rcases hr i e.symm with h1 | h1
    · exact hn h1
    · omega⟩
end

theorem RowS.keep {α : Type} {cells : α → List Value} {k : Nat} {w w' : World} {A : Option Addr} {n c : Nat} {xs : List α} (h : RowS cells k w A n c xs) (hs : w.heap.size ≤ w'.heap.size) (hn : ∀ q o, A = some ⟨q, o, none⟩ → 0 < n → w'.heap[q]? = w.heap[q]?) : RowS cells k w' A n c xs := by
  refine ⟨h.len, h.cap, h.big, fun h0 => ?_⟩
  obtain ⟨q, o, e, hq, hcell⟩ := h.at_ h0
  refine ⟨q, o, e, Nat.lt_of_lt_of_le hq hs, fun i x hi j u hu => ?_⟩
  rw [World.cell?_of_block (w := w) (hn q o e h0)]
  exact hcell i x hi j u hu
theorem RowS.drew {α : Type} {cells : α → List Value} {k : Nat} {w : World} {A : Option Addr} {n c : Nat} {xs : List α} (h : RowS cells k w A n c xs) : RowS cells k w.drew A n c xs := h.below (Below.refl _ w).drew
theorem RowS.alloc {α : Type} {cells : α → List Value} {k : Nat} {w : World} {A : Option Addr} {n c : Nat} {xs : List α} (h : RowS cells k w A n c xs) (o : Obj) : RowS cells k (w.alloc o) A n c xs := h.below ((Below.refl _ w).alloc (Nat.le_refl _) o)
end Box
end Go.Proofs.YtedandbkdjmfhaaGreat
/-
  STRUCTS IN BLOCKS OF THEIR OWN: written whole; as results. (Program-free.)
-/
namespace Go.Proofs.YtedandbkdjmfhaaGreat
open Go.RowKit Mem
namespace Box
theorem results_c1 {P : Program} {fn : Func} {p u : Tmp} {ty : TypeId} (h : fn.results = #[.cell p ty, .tmp u]) (tmps : Array Value) (w : World) (g : Nat) (t : TypeId) (cs : Array Value) (fr : Nat × Nat) (d : TypeDesc)
    (hp : tmps.getD p undef = .pointer (some ⟨g, 0, none⟩)) (hg : w.heap[g]? = some (.cells cs t fr))
    (hu : P.underlying ty = some d) (hd : (match d with | .struct _ | .array _ _ => true | _ => false) = true) (hi : (P.info? ty).map (·.size) = some cs.size) :
    (results fn tmps).run P w = .ok (.tuple #[.agg cs, tmps.getD u undef]) w := by
  have hp' : tmps[p]?.getD undef = .pointer (some ⟨g, 0, none⟩) := by simpa using hp
  simp [results, h, hp', asAddr, Result.andThen, run_loadVar_row w g t ty cs fr d hg hu hd hi]
theorem results_c0 {P : Program} {fn : Func} {p : Tmp} {ty : TypeId} (h : fn.results = #[.cell p ty]) (tmps : Array Value) (w : World) (g : Nat) (t : TypeId) (cs : Array Value) (fr : Nat × Nat) (d : TypeDesc)
    (hp : tmps.getD p undef = .pointer (some ⟨g, 0, none⟩)) (hg : w.heap[g]? = some (.cells cs t fr))
    (hu : P.underlying ty = some d) (hd : (match d with | .struct _ | .array _ _ => true | _ => false) = true) (hi : (P.info? ty).map (·.size) = some cs.size) :
    (results fn tmps).run P w = .ok (.agg cs) w := by
  have hp' : tmps[p]?.getD undef = .pointer (some ⟨g, 0, none⟩) := by simpa using hp
  simp [results, h, hp', asAddr, run_loadVar_row w g t ty cs fr d hg hu hd hi]
theorem results_c2 {P : Program} {fn : Func} {p u v : Tmp} {ty : TypeId} (h : fn.results = #[.cell p ty, .tmp u, .tmp v]) (tmps : Array Value) (w : World) (g : Nat) (t : TypeId) (cs : Array Value) (fr : Nat × Nat) (d : TypeDesc)
    (hp : tmps.getD p undef = .pointer (some ⟨g, 0, none⟩)) (hg : w.heap[g]? = some (.cells cs t fr))
    (hu : P.underlying ty = some d) (hd : (match d with | .struct _ | .array _ _ => true | _ => false) = true) (hi : (P.info? ty).map (·.size) = some cs.size) :
    (results fn tmps).run P w = .ok (.tuple #[.agg cs, tmps.getD u undef, tmps.getD v undef]) w := by
  have hp' : tmps[p]?.getD undef = .pointer (some ⟨g, 0, none⟩) := by simpa using hp
  simp [results, h, hp', asAddr, Result.andThen, run_loadVar_row w g t ty cs fr d hg hu hd hi]
theorem results_cc1 {P : Program} {fn : Func} {p u v : Tmp} {ty ty2 : TypeId} (h : fn.results = #[.cell p ty, .cell u ty2, .tmp v]) (tmps : Array Value) (w : World) (g g2 : Nat) (t t2 : TypeId) (cs cs2 : Array Value) (fr fr2 : Nat × Nat) (d d2 : TypeDesc)
    (hp : tmps.getD p undef = .pointer (some ⟨g, 0, none⟩)) (hg : w.heap[g]? = some (.cells cs t fr))
    (hu : P.underlying ty = some d) (hd : (match d with | .struct _ | .array _ _ => true | _ => false) = true) (hi : (P.info? ty).map (·.size) = some cs.size)
    (hp2 : tmps.getD u undef = .pointer (some ⟨g2, 0, none⟩)) (hg2 : w.heap[g2]? = some (.cells cs2 t2 fr2))
    (hu2 : P.underlying ty2 = some d2) (hd2 : (match d2 with | .struct _ | .array _ _ => true | _ => false) = true) (hi2 : (P.info? ty2).map (·.size) = some cs2.size) :
    (results fn tmps).run P w = .ok (.tuple #[.agg cs, .agg cs2, tmps.getD v undef]) w := by
  have hp' : tmps[p]?.getD undef = .pointer (some ⟨g, 0, none⟩) := by simpa using hp
  have hp2' : tmps[u]?.getD undef = .pointer (some ⟨g2, 0, none⟩) := by simpa using hp2
  simp [results, h, hp', hp2', asAddr, Result.andThen, run_loadVar_row w g t ty cs fr d hg hu hd hi, run_loadVar_row w g2 t2 ty2 cs2 fr2 d2 hg2 hu2 hd2 hi2]

theorem Cells.set2 {w : World} {g : Nat} {t : TypeId} {a b : Value} (h : Cells w g t #[a, b]) (x y : Value) : Cells ((w.setCell ⟨g, 0, none⟩ x).setCell ⟨g, 1, none⟩ y) g t #[x, y] := by
  simpa using (h.set_ 0 x).set_ 1 y
theorem Cells.set6 {w : World} {g : Nat} {t : TypeId} {a b c d e f : Value} (h : Cells w g t #[a, b, c, d, e, f]) (x y z u v q : Value) :
    Cells ((((((w.setCell ⟨g, 0, none⟩ x).setCell ⟨g, 1, none⟩ y).setCell ⟨g, 2, none⟩ z).setCell ⟨g, 3, none⟩ u).setCell ⟨g, 4, none⟩ v).setCell ⟨g, 5, none⟩ q) g t #[x, y, z, u, v, q] := by
  have h1 : Cells (w.setCell ⟨g, 0, none⟩ x) g t #[x, b, c, d, e, f] := by simpa using h.set_ 0 x
  have h2 : Cells ((w.setCell ⟨g, 0, none⟩ x).setCell ⟨g, 1, none⟩ y) g t #[x, y, c, d, e, f] := by simpa using h1.set_ 1 y
  have h3 : Cells (((w.setCell ⟨g, 0, none⟩ x).setCell ⟨g, 1, none⟩ y).setCell ⟨g, 2, none⟩ z) g t #[x, y, z, d, e, f] := by simpa using h2.set_ 2 z
  have h4 : Cells ((((w.setCell ⟨g, 0, none⟩ x).setCell ⟨g, 1, none⟩ y).setCell ⟨g, 2, none⟩ z).setCell ⟨g, 3, none⟩ u) g t #[x, y, z, u, e, f] := by simpa using h3.set_ 3 u
  have h5 : Cells (((((w.setCell ⟨g, 0, none⟩ x).setCell ⟨g, 1, none⟩ y).setCell ⟨g, 2, none⟩ z).setCell ⟨g, 3, none⟩ u).setCell ⟨g, 4, none⟩ v) g t #[x, y, z, u, v, f] := by simpa using h4.set_ 4 v
  simpa using h5.set_ 5 q
/-- Six cells that are written one behind the other: each may be. -/
theorem six_steps {w : World} {g : Nat} {t : TypeId} {a b c d e f : Value} (h : Cells w g t #[a, b, c, d, e, f]) (x y z u v : Value) :
    w.cell? ⟨g, 0, none⟩ = some a ∧ w.frozen? ⟨g, 0, none⟩ = false ∧ (w.setCell ⟨g, 0, none⟩ x).cell? ⟨g, 1, none⟩ = some b ∧ (w.setCell ⟨g, 0, none⟩ x).frozen? ⟨g, 1, none⟩ = false ∧ ((w.setCell ⟨g, 0, none⟩ x).setCell ⟨g, 1, none⟩ y).cell? ⟨g, 2, none⟩ = some c ∧ ((w.setCell ⟨g, 0, none⟩ x).setCell ⟨g, 1, none⟩ y).frozen? ⟨g, 2, none⟩ = false ∧ (((w.setCell ⟨g, 0, none⟩ x).setCell ⟨g, 1, none⟩ y).setCell ⟨g, 2, none⟩ z).cell? ⟨g, 3, none⟩ = some d ∧ (((w.setCell ⟨g, 0, none⟩ x).setCell ⟨g, 1, none⟩ y).setCell ⟨g, 2, none⟩ z).frozen? ⟨g, 3, none⟩ = false ∧ ((((w.setCell ⟨g, 0, none⟩ x).setCell ⟨g, 1, none⟩ y).setCell ⟨g, 2, none⟩ z).setCell ⟨g, 3, none⟩ u).cell? ⟨g, 4, none⟩ = some e ∧ ((((w.setCell ⟨g, 0, none⟩ x).setCell ⟨g, 1, none⟩ y).setCell ⟨g, 2, none⟩ z).setCell ⟨g, 3, none⟩ u).frozen? ⟨g, 4, none⟩ = false ∧ (((((w.setCell ⟨g, 0, none⟩ x).setCell ⟨g, 1, none⟩ y).setCell ⟨g, 2, none⟩ z).setCell ⟨g, 3, none⟩ u).setCell ⟨g, 4, none⟩ v).cell? ⟨g, 5, none⟩ = some f ∧ (((((w.setCell ⟨g, 0, none⟩ x).setCell ⟨g, 1, none⟩ y).setCell ⟨g, 2, none⟩ z).setCell ⟨g, 3, none⟩ u).setCell ⟨g, 4, none⟩ v).frozen? ⟨g, 5, none⟩ = false := by
  have h1 : Cells (w.setCell ⟨g, 0, none⟩ x) g t #[x, b, c, d, e, f] := by simpa using h.set_ 0 x
  have h2 : Cells ((w.setCell ⟨g, 0, none⟩ x).setCell ⟨g, 1, none⟩ y) g t #[x, y, c, d, e, f] := by simpa using h1.set_ 1 y
  have h3 : Cells (((w.setCell ⟨g, 0, none⟩ x).setCell ⟨g, 1, none⟩ y).setCell ⟨g, 2, none⟩ z) g t #[x, y, z, d, e, f] := by simpa using h2.set_ 2 z
  have h4 : Cells ((((w.setCell ⟨g, 0, none⟩ x).setCell ⟨g, 1, none⟩ y).setCell ⟨g, 2, none⟩ z).setCell ⟨g, 3, none⟩ u) g t #[x, y, z, u, e, f] := by simpa using h3.set_ 3 u
  have h5 : Cells (((((w.setCell ⟨g, 0, none⟩ x).setCell ⟨g, 1, none⟩ y).setCell ⟨g, 2, none⟩ z).setCell ⟨g, 3, none⟩ u).setCell ⟨g, 4, none⟩ v) g t #[x, y, z, u, v, f] := by simpa using h4.set_ 4 v
  exact ⟨h.cell 0, h.frozen 0, h1.cell 1, h1.frozen 1, h2.cell 2, h2.frozen 2, h3.cell 3, h3.frozen 3, h4.cell 4, h4.frozen 4, h5.cell 5, h5.frozen 5⟩
theorem Mov.set2 (w : World) (g : Nat) (x y : Value) : Mov [g] w ((w.setCell ⟨g, 0, none⟩ x).setCell ⟨g, 1, none⟩ y) :=
  (Mov.set1 w (by simp) 0 x).trans (Mov.set1 _ (by simp) 1 y) (fun _ h => .inl h)
theorem Mov.set6 (w : World) (g : Nat) (x y z u v q : Value) : Mov [g] w ((((((w.setCell ⟨g, 0, none⟩ x).setCell ⟨g, 1, none⟩ y).setCell ⟨g, 2, none⟩ z).setCell ⟨g, 3, none⟩ u).setCell ⟨g, 4, none⟩ v).setCell ⟨g, 5, none⟩ q) :=
  (((((Mov.set1 w (by simp) 0 x).trans (Mov.set1 _ (by simp) 1 y) (fun _ h => .inl h)).trans (Mov.set1 _ (by simp) 2 z) (fun _ h => .inl h)).trans (Mov.set1 _ (by simp) 3 u) (fun _ h => .inl h)).trans (Mov.set1 _ (by simp) 4 v) (fun _ h => .inl h)).trans (Mov.set1 _ (by simp) 5 q) (fun _ h => .inl h)
/-- Behind writes into a block beyond base. -/
theorem Mov.up {w w' : World} {g b : Nat} (h : Mov [g] w w') (hb : b ≤ w.heap.size) (hg : b ≤ g) : Below b w w' := h.below hb (by simpa using hg)
/-- Two structs written one behind the other, beside a third. -/
theorem two_six {w : World} {g q z : Nat} {t : TypeId} {a b c d : Value} (hx : Cells w g t #[a, b]) (hz : Cells w z t #[c, d]) (hgq : g ≠ q) (hzg : z ≠ g) (hzq : z ≠ q) (v0 v1 m0 m1 m2 m3 m4 m5 : Value) {base : Nat} (hb : base ≤ w.heap.size) (h1 : base ≤ g) (h2 : base ≤ q) :
    ∃ w1, Mov [g] w w1 ∧ Mov [q] w1 ((((((((w.setCell ⟨g, 0, none⟩ v0).setCell ⟨g, 1, none⟩ v1).setCell ⟨q, 0, none⟩ m0).setCell ⟨q, 1, none⟩ m1).setCell ⟨q, 2, none⟩ m2).setCell ⟨q, 3, none⟩ m3).setCell ⟨q, 4, none⟩ m4).setCell ⟨q, 5, none⟩ m5) ∧ Cells ((((((((w.setCell ⟨g, 0, none⟩ v0).setCell ⟨g, 1, none⟩ v1).setCell ⟨q, 0, none⟩ m0).setCell ⟨q, 1, none⟩ m1).setCell ⟨q, 2, none⟩ m2).setCell ⟨q, 3, none⟩ m3).setCell ⟨q, 4, none⟩ m4).setCell ⟨q, 5, none⟩ m5) g t #[v0, v1] ∧ Cells ((((((((w.setCell ⟨g, 0, none⟩ v0).setCell ⟨g, 1, none⟩ v1).setCell ⟨q, 0, none⟩ m0).setCell ⟨q, 1, none⟩ m1).setCell ⟨q, 2, none⟩ m2).setCell ⟨q, 3, none⟩ m3).setCell ⟨q, 4, none⟩ m4).setCell ⟨q, 5, none⟩ m5) z t #[c, d] ∧ Below base w ((((((((w.setCell ⟨g, 0, none⟩ v0).setCell ⟨g, 1, none⟩ v1).setCell ⟨q, 0, none⟩ m0).setCell ⟨q, 1, none⟩ m1).setCell ⟨q, 2, none⟩ m2).setCell ⟨q, 3, none⟩ m3).setCell ⟨q, 4, none⟩ m4).setCell ⟨q, 5, none⟩ m5) := by
  have b1 : Mov [g] w ((w.setCell ⟨g, 0, none⟩ v0).setCell ⟨g, 1, none⟩ v1) := Mov.set2 w g v0 v1
  have x1 : Cells ((w.setCell ⟨g, 0, none⟩ v0).setCell ⟨g, 1, none⟩ v1) g t #[v0, v1] := Cells.set2 hx v0 v1
  have z1 : Cells ((w.setCell ⟨g, 0, none⟩ v0).setCell ⟨g, 1, none⟩ v1) z t #[c, d] := Cells.mov hz b1 (by simpa using hzg)
  have l1 := b1.up hb h1
  generalize ((w.setCell ⟨g, 0, none⟩ v0).setCell ⟨g, 1, none⟩ v1) = w1 at *
  have b2 : Mov [q] w1 _ := Mov.set6 w1 q m0 m1 m2 m3 m4 m5
  exact ⟨w1, b1, b2, Cells.mov x1 b2 (by simpa using hgq), Cells.mov z1 b2 (by simpa using hzq), l1.trans (b2.up (Nat.le_trans hb b1.size) h2)⟩
end Box
end Go.Proofs.YtedandbkdjmfhaaGreat
/-
  ROWS OF STRUCTS OF ONE'S OWN, WRITTEN, for any element: one cell, whole elements; who stays where another's block changes. (Program-free.)
-/
namespace Go.Proofs.YtedandbkdjmfhaaGreat
open Go.RowKit Mem Box
namespace OwnS
variable {α : Type} {cells : α → List Value} {k : Nat} {e : TypeId} {base : Nat} {w w' : World} {n c : Nat} {l : List α}

/-- Where a row of one's own lies, if there is anything in it. -/
theorem Owns.place {A : Option Addr} (h : Owns cells k e base w (.slice A n c) n l) (h0 : 0 < n) : ∃ g cur, A = some ⟨g, 0, none⟩ ∧ base ≤ g ∧ Cells w g e cur ∧ n ≤ c ∧ c ≤ maxLen ∧ cur.size = c * k ∧ cur.toList.take (n * k) = l.flatMap cells := by
  rcases h.1.2 with ⟨-, h1⟩ | ⟨g, cap, cur, e1, hb, hg, hnc, hcm, hs, ht⟩
  · omega
  · injection e1 with e1 _ e3
    subst e1 e3
    exact ⟨g, cur, rfl, hb, hg, hnc, hcm, hs, ht⟩
theorem Owns.of_cells (F : Fit cells k) {g : Nat} {cur : List Value} (hg : Cells w g e cur.toArray) (hb : base ≤ g) (hnc : n ≤ c) (hcm : c ≤ maxLen) (hs : cur.length = c * k) (ht : cur.take (n * k) = l.flatMap cells) (hl : l.length = n) : Owns cells k e base w (.slice (some ⟨g, 0, none⟩) n c) n l :=
  ⟨⟨by rw [flat_len F, hl], .inr ⟨g, c, cur.toArray, rfl, hb, hg, hnc, hcm, by simpa using hs, by simpa using ht⟩⟩, hl⟩
theorem Owns.mono {s : Value} {base' : Nat} (h : Owns cells k e base w s n l) (hb : base' ≤ base) : Owns cells k e base' w s n l := ⟨⟨h.1.1, by
  rcases h.1.2 with hn | ⟨g, cap, cur, e', hbg, r⟩
  · exact .inl hn
  · exact .inr ⟨g, cap, cur, e', Nat.le_trans hb hbg, r⟩⟩, h.2⟩
theorem flat_set (F : Fit cells k) {i j : Nat} {x y : α} {v : Value} (hx : l[i]? = some x) (hj : j < k) (hy : cells y = (cells x).set j v) : (l.flatMap cells).set (i * k + j) v = (l.set i y).flatMap cells := by
  have hi := (List.getElem?_eq_some_iff.1 hx).1
  apply List.ext_getElem?
  intro q
  rw [List.getElem?_set, flat_len F]
  have hl4 : ((l.set i y).flatMap cells).length = l.length * k := by rw [flat_len F, List.length_set]
  have hlt : i * k + j < l.length * k := Nat.lt_of_lt_of_le (show i * k + j < (i + 1) * k by rw [Nat.succ_mul]; omega) (Nat.mul_le_mul_right k hi)
  by_cases hq : i * k + j = q
  · subst hq
    rw [if_pos rfl, if_pos hlt]
    exact (flat_get F _ i j y _ (by simp [hi]) (by rw [hy, List.getElem?_set, if_pos rfl, if_pos (by rw [F.len]; exact hj)])).symm
  · rw [if_neg hq]
    rcases Nat.lt_or_ge q (l.length * k) with h1 | h1
    · obtain ⟨u, hu⟩ : ∃ u, (l.flatMap cells)[q]? = some u := ⟨_, List.getElem?_eq_getElem (by rw [flat_len F]; exact h1)⟩
      obtain ⟨z, hz, hzu⟩ := flat_inv F l q u hu
      rw [hu]
      have hdm : q / k * k + q % k = q := by rw [Nat.mul_comm]; exact Nat.div_add_mod q k
      by_cases hik : i = q / k
      · subst hik
        have hxz := hx.symm.trans hz
        injection hxz with hxz
        subst hxz
        have := flat_get F (l.set (q / k) y) (q / k) (q % k) y u (by simp [hi]) (by
          rw [hy, List.getElem?_set, if_neg (by intro e2; rw [e2] at hq; exact hq hdm)]; exact hzu)
        rw [hdm] at this
        exact this.symm
      · have := flat_get F (l.set i y) (q / k) (q % k) z u (by rw [List.getElem?_set, if_neg hik]; exact hz) hzu
        rw [hdm] at this
        exact this.symm
    · rw [List.getElem?_eq_none (by rw [flat_len F]; exact h1), List.getElem?_eq_none (by rw [hl4]; exact h1)]
/-- One cell of one element is written. -/
theorem Owns.put (F : Fit cells k) {g : Nat} (h : Owns cells k e base w (.slice (some ⟨g, 0, none⟩) n c) n l) {i : Nat} {x : α} (hx : l[i]? = some x) (j : Nat) (v : Value) (y : α) (hj : j < k) (hy : cells y = (cells x).set j v) :
    Owns cells k e base (w.setCell ⟨g, i * k + j, none⟩ v) (.slice (some ⟨g, 0, none⟩) n c) n (l.set i y) := by
  refine ⟨?_, by rw [List.length_set]; exact h.2⟩
  have hst := (World.ownsRow.stored h.1 (i * k + j) v).1
  rw [flat_set F hx hj hy] at hst
  exact hst
/-- What lies in it. -/
theorem Owns.cell (F : Fit cells k) {g : Nat} (h : Owns cells k e base w (.slice (some ⟨g, 0, none⟩) n c) n l) {i : Nat} {x : α} (hx : l[i]? = some x) (j : Nat) (u : Value) (hu : (cells x)[j]? = some u) : w.cell? ⟨g, i * k + j, none⟩ = some u := by
  have := World.ownsRow.cells (g := g) h.1 rfl (i * k + j) u (flat_get F l i j x u hx hu)
  rwa [Mem.add_none, Nat.zero_add] at this
theorem Owns.free {g : Nat} (h : Owns cells k e base w (.slice (some ⟨g, 0, none⟩) n c) n l) (h0 : 0 < n) (i : Nat) : w.frozen? ⟨g, i, none⟩ = false := by
  obtain ⟨g', cur, e1, -, hg, -⟩ := h.place h0
  injection e1 with e1
  injection e1 with e1
  subst e1
  exact hg.frozen i
theorem Owns.set_at {i : Nat} (h : i < l.length) (y : α) : (l.set i y)[i]? = some y := by simp [h]
/-- The block of a row of one's own. -/
theorem Owns.block {A : Option Addr} (h : Owns cells k e base w (.slice A n c) n l) {g : Nat} (hg : (Value.slice A n c).ownBlock = some g) : ∃ cur, Cells w g e cur ∧ base ≤ g := by
  rcases h.1.2 with ⟨e1, -⟩ | ⟨q, cap, cur, e1, hb, hq, -⟩
  · rw [e1] at hg; simp [Value.ownBlock] at hg
  · rw [e1] at hg
    have e2 : q = g := by simpa [Value.ownBlock] using hg
    subst e2
    exact ⟨cur, hq, hb⟩
end OwnS

/-! ### One block, of type t, alone may have changed -/
/-- Block r alone may have changed, and it holds what is of type t. -/
structure Chg (t : TypeId) (r : Option Nat) (w w' : World) : Prop where
  by_ : w.grownBy w' r
  is_ : ∀ g, r = some g → ∃ cur, Cells w g t cur
namespace Chg
variable {t : TypeId} {r : Option Nat} {w w' : World}
theorem of_below (h : Below w.heap.size w w') (hi : ∀ g, r = some g → ∃ cur, Cells w g t cur) : Chg t r w w' := ⟨⟨h.os, h.tape, h.output, h.size, fun k hk _ => h.block k hk⟩, hi⟩
theorem none_ (h : Below w.heap.size w w') : Chg t none w w' := of_below h (fun g hg => by cases hg)
theorem set1 {g : Nat} {cur : Array Value} (h : Cells w g t cur) (i : Nat) (v : Value) : Chg t (some g) w (w.setCell ⟨g, i, none⟩ v) :=
  ⟨⟨rfl, rfl, rfl, by simp, fun b _ hn => Below.heap_setCell _ _ _ _ (fun e => hn (by rw [e]))⟩, fun q hq => by injection hq with hq; subst hq; exact ⟨_, h⟩⟩
theorem mov {g : Nat} {cur : Array Value} (h : Cells w g t cur) (hm : Mov [g] w w') : Chg t (some g) w w' :=
  ⟨⟨hm.os, hm.tape, hm.output, hm.size, fun b hb hn => hm.block b hb (by simpa using fun e => hn (by rw [e]))⟩, fun q hq => by injection hq with hq; subst hq; exact ⟨_, h⟩⟩
theorem own {α : Type} {cells : α → List Value} {k base n c : Nat} {A : Option Addr} {l : List α} (h : OwnS.Owns cells k t base w (.slice A n c) n l) (hg : w.grownBy w' (Value.slice A n c).ownBlock) : Chg t (Value.slice A n c).ownBlock w w' :=
  ⟨hg, fun _ hq => (h.block hq).imp fun _ hh => hh.1⟩
/-- A box of another type stays. -/
theorem cells {g : Nat} {u : TypeId} {cs : Array Value} (h : Chg t r w w') (hc : Cells w g u cs) (hn : u ≠ t) : Cells w' g u cs := by
  refine (h.by_.block g hc.lt fun e => ?_).trans hc
  obtain ⟨cur, hcur⟩ := h.is_ g e.symm
  exact Cells.ne hc hcur hn rfl
theorem cells_ne {g : Nat} {u : TypeId} {cs : Array Value} (h : Chg t r w w') (hc : Cells w g u cs) (hn : r ≠ some g) : Cells w' g u cs := (h.by_.block g hc.lt fun e => hn e.symm).trans hc
/-- A row of one's own of another type stays. -/
theorem owns {α : Type} {cells : α → List Value} {k base n : Nat} {s : Value} {u : TypeId} {l : List α} (h : Chg t r w w') (ho : OwnS.Owns cells k u base w s n l) (hn : u ≠ t) : OwnS.Owns cells k u base w' s n l := by
  refine ⟨⟨ho.1.1, ?_⟩, ho.2⟩
  rcases ho.1.2 with h0 | ⟨q, cap, cur, e', hbg, hq, rr⟩
  · exact .inl h0
  · exact .inr ⟨q, cap, cur, e', hbg, h.cells (g := q) (u := u) (cs := cur) hq hn, rr⟩
theorem owns_ne {α : Type} {cells : α → List Value} {k base n : Nat} {s : Value} {u : TypeId} {l : List α} (h : Chg t r w w') (ho : OwnS.Owns cells k u base w s n l) (hn : s.ownBlock = none ∨ s.ownBlock ≠ r) : OwnS.Owns cells k u base w' s n l := ho.kept h.by_ hn
theorem ownI {α : Type} {f : α → Value} {base n : Nat} {s : Value} {u : TypeId} {l : List α} (h : Chg t r w w') (ho : Mem.Owns f u base w s n l) (hn : u ≠ t) : Mem.Owns f u base w' s n l := by
  refine ⟨ho.1, ?_⟩
  rcases ho.2 with h0 | ⟨q, cap, cur, e', hbg, hq, rr⟩
  · exact .inl h0
  · exact .inr ⟨q, cap, cur, e', hbg, h.cells (g := q) (u := u) (cs := cur) hq hn, rr⟩
theorem below {b : Nat} (h : Chg t r w w') (hb : b ≤ w.heap.size) (hr : ∀ g, r = some g → b ≤ g) : Below b w w' := (Below.refl b w).grown h.by_ hb hr
end Chg
end Go.Proofs.YtedandbkdjmfhaaGreat
/-
  ROWS OF ONE'S OWN WHOSE ELEMENTS HAVE ONE CELL: as rows of structs of one cell, where it must be known which block grew. (Program-free.)
-/
namespace Go.Proofs.YtedandbkdjmfhaaGreat
open Go.RowKit Mem
namespace OwnB
variable {α : Type} {f : α → Value}
theorem fit1 (hf : ∀ x, (f x).oneCell' = true) : OwnS.Fit (fun x => [f x]) 1 := ⟨by omega, fun _ => rfl, fun x u hu => by
  obtain rfl := List.mem_singleton.1 hu
  exact hf x⟩
theorem flat_one (l : List α) : l.flatMap (fun x => [f x]) = l.map f := by
  induction l with
  | nil => rfl
  | cons x l ih => rw [List.flatMap_cons, ih]; rfl
theorem toS {e : TypeId} {base : Nat} {w : World} {s : Value} {n : Nat} {l : List α} (h : Mem.Owns f e base w s n l) : OwnS.Owns (fun x => [f x]) 1 e base w s n l := ⟨by rw [flat_one]; exact h, h.len⟩
theorem back {e : TypeId} {base : Nat} {w : World} {s : Value} {n : Nat} {l : List α} (h : OwnS.Owns (fun x => [f x]) 1 e base w s n l) : Mem.Owns f e base w s n l := by
  have := h.1
  rw [flat_one] at this
  exact this
theorem row_to {w : World} {A : Option Addr} {n c : Nat} {l : List α} (h : Row f w A n c l) : RowS (fun x => [f x]) 1 w A n c l := by
  refine ⟨h.len, h.cap, h.big, fun h0 => ?_⟩
  obtain ⟨b, o, e, hb, hc⟩ := h.at_ h0
  refine ⟨b, o, e, hb, fun i x hx j u hu => ?_⟩
  have hj : j = 0 := by have := (List.getElem?_eq_some_iff.1 hu).1; simpa using this
  subst hj
  simp at hu
  subst hu
  rw [Nat.mul_one, Nat.add_zero]
  exact hc i x hx
theorem row_back {w : World} {A : Option Addr} {n c : Nat} {l : List α} (h : RowS (fun x => [f x]) 1 w A n c l) : Row f w A n c l := by
  refine ⟨h.len, h.cap, h.big, fun h0 => ?_⟩
  obtain ⟨b, o, e, hb, hc⟩ := h.at_ h0
  refine ⟨b, o, e, hb, fun i x hx => ?_⟩
  have := hc i x hx 0 _ rfl
  rwa [Nat.mul_one, Nat.add_zero] at this
/-- An append of which it is known which block grew. -/
theorem wpList_append {P : Program} (hf : ∀ x, (f x).oneCell' = true) {t e : TypeId} (ht : P.underlying t = some (.slice e)) {z : Value} {bytes : Nat} (hinfo : (P.info? e).map (fun i => (i.zero, i.size, i.bytes)) = some (some z, 1, bytes)) (hzs : z.cells.size = 1) (hb1 : bytes ≤ 256)
    {w : World} {ops : Array Oper} {rest : List Oper} {o : Oper} {a : Act} {Q : Exit → Act → World → Prop} (hgd : o.guard = none) (s x : Operand)
    (ho : o.op = .call { callee := .builtin .append, args := #[s, x], argTypes := #[t, t] }) (hty : o.type = t)
    (base : Nat) (sv : Value) (n : Nat) (l : List α) (hs : a.eval s = sv) (hown : Mem.Owns f e base w sv n l) (A : Option Addr) (m c : Nat) (l' : List α) (hx : a.eval x = .slice A m c) (h : Row f w A m c l')
    (hbig : n + m ≤ 1099511627) (hbase : base ≤ w.heap.size)
    (hk : ∀ A' c' w', Mem.Owns f e base w' (.slice A' (n + m) c') (n + m) (l ++ l') → w.grownBy w' sv.ownBlock → ((Value.slice A' (n + m) c').ownBlock = sv.ownBlock ∨ (Value.slice A' (n + m) c').ownBlock = some w.heap.size) → wpList P ops Q rest (a.put o.dst (.slice A' (n + m) c')) w') :
    wpList P ops Q (o :: rest) a w :=
  OwnS.wpList_append (fit1 hf) ht hinfo hzs hb1 hgd s x ho hty base sv n l hs (OwnB.toS hown) A m c l' hx (row_to h) hbig hbase fun A' c' w' h1 h2 h3 => hk A' c' w' (back h1) h2 h3
/-- A row stays where another block grew. -/
theorem row_grown {w w' : World} {A : Option Addr} {n c : Nat} {l : List α} (h : Row f w A n c l) {r : Option Nat} (hg : w.grownBy w' r) (hn : ∀ q o, 0 < n → A = some ⟨q, o, none⟩ → r ≠ some q) : Row f w' A n c l := by
  refine ⟨h.len, h.cap, h.big, fun h0 => ?_⟩
  obtain ⟨b, o, e, hb, hc⟩ := h.at_ h0
  refine ⟨b, o, e, Nat.lt_of_lt_of_le hb hg.size, fun i x hi => ?_⟩
  rw [World.cell?_of_block (w := w) (hg.block b hb (fun e1 => hn b o h0 e e1.symm))]
  exact hc i x hi
theorem owns_lt {e : TypeId} {base : Nat} {w : World} {s : Value} {n : Nat} {l : List α} (h : Mem.Owns f e base w s n l) : ∀ q, s.ownBlock = some q → base ≤ q ∧ q < w.heap.size := (OwnB.toS h).lt
theorem below_row {e : TypeId} {base : Nat} {w w' : World} {s : Value} {n : Nat} {l : List α} (h : Mem.Owns f e base w s n l) (hg : w.grownBy w' s.ownBlock) (hb : base ≤ w.heap.size) : Below base w w' := OwnS.below_row (OwnB.toS h) hg hb
end OwnB
end Go.Proofs.YtedandbkdjmfhaaGreat
/-
  A REGION THAT DRAWS ITS ORDER AND WHOSE LAST STORE OVERWRITES WHAT ITS LOADS READ: S need not hold behind operation k0; an operation may be taken first as long as a chain of waits leads from k0 to it. (My own; no program is named here.)
-/
namespace Go.Proofs.YtedandbkdjmfhaaGreat
open Go
namespace RegK
variable {P : Program} {ops : Array Oper} {Q : Exit → Act → World → Prop} {S : World → Prop} {md : Region.Mode} {k0 : Nat}

/-- Whatever comes up, S holds behind it, but for k0. -/
def Held (P : Program) (md : Region.Mode) (ops : Array Oper) (Q : Exit → Act → World → Prop) (S : World → Prop) (k0 : Nat) : Nat → Array Bool → Act → World → Prop
  | 0 => fun listed a w => Region.ready md ops listed = [] ∧ Q .normal a w
  | f + 1 => fun listed a w => (Region.ready md ops listed = [] → Q .normal a w) ∧
      ∀ i ∈ Region.ready md ops listed, wpOp P ops Q i (fun b v => (i ≠ k0 → S v) ∧ Held P md ops Q S k0 f (listed.setIfInBounds i true) b v) a w

theorem any : ∀ (f : Nat) (listed : Array Bool) (a : Act) (w : World), Held P md ops Q S k0 f listed a w → wpAny P md ops Q f listed a w := by
  intro f
  induction f with
  | zero => intro listed a w h; exact h
  | succ f ih => intro listed a w h; exact ⟨h.1, fun i hi => wpOp_mono (fun b v hb => ih _ b v hb.2) (h.2 i hi)⟩

/-- The beginning. -/
theorem start (k0 : Nat) {id : Nat} {a : Act} {w : World} (hm : P.follows .mixedOrders = true) (hS : S w.drew)
    (h : S w.drew → Held P .any ops Q S k0 ops.size (Array.replicate ops.size false) a w.drew) : (Code.region id ops true).wp P Q a w :=
  wp_region_any hm (any _ _ _ _ (h hS))

/-- Each waits for the next one. -/
def chain (md : Region.Mode) (ops : Array Oper) : List Nat → Bool
  | [] => true
  | [_] => true
  | u :: v :: r => (match ops[u]? with | some o => o.after.any fun e => Region.binds md e && e.on == v | none => false) && chain md ops (v :: r)
/-- Those of a chain whose next one has not come up may not come up. -/
theorem chain_not {listed : Array Bool} : ∀ {p : List Nat}, chain md ops p = true → (∀ u ∈ p, listed.getD u true = false) → ∀ u ∈ p.dropLast, u ∉ Region.ready md ops listed
  | [], _, _, u, hu => by cases hu
  | [_], _, _, u, hu => by cases hu
  | x :: y :: r, hc, hl, u, hu => by
    rw [chain, Bool.and_eq_true] at hc
    rw [List.dropLast_cons_cons] at hu
    rcases List.mem_cons.1 hu with rfl | hu
    · intro hr
      obtain ⟨-, o, ho, hall⟩ := mem_ready.1 hr
      rw [ho] at hc
      obtain ⟨e, he, hb⟩ := Array.any_eq_true'.1 hc.1
      rw [Bool.and_eq_true, beq_iff_eq] at hb
      have h1 := hall e he hb.1
      have h2 := hl y (List.mem_cons_of_mem _ List.mem_cons_self)
      rw [hb.2] at h1
      rcases Nat.lt_or_ge y listed.size with h' | h'
      · simp [h'] at h1 h2; rw [h1] at h2; cases h2
      · simp [Array.getElem?_eq_none h'] at h1
    · exact chain_not hc.2 (fun v hv => hl v (List.mem_cons_of_mem _ hv)) u hu

theorem first {i : Nat} {oi : Oper} {v : Value} (hi : ops[i]? = some oi) (hsel : ∀ (j : Nat) (o : Oper) cs b, ops[j]? = some o → o.op ≠ .select cs b)
    (hQ : ∀ c a w, Q (.panic c) (a.put oi.dst v) w → Q (.panic c) a w) (p : List Nat) (hp : chain md ops (p ++ [i]) = true) (hk : p.head? = some k0) :
    ∀ (f : Nat) (listed : Array Bool) (a : Act) (w : World),
      (∀ j oj, ops[j]? = some oj → j ≠ i → listed.getD j true = false → (∀ e ∈ oj.after, Region.binds md e = true → e.on ≠ i) → oi.apart ops oj = true) →
      i ∈ Region.ready md ops listed → (∀ u ∈ p ++ [i], listed.getD u true = false) → YieldsIf P ops S oi v a → S w →
      Held P md ops Q S k0 f (listed.setIfInBounds i true) (a.put oi.dst v) w → Held P md ops Q S k0 (f + 1) listed a w := by
  have hkp : k0 ∈ (p ++ [i]).dropLast := by
    rw [List.dropLast_concat]
    cases p with
    | nil => cases hk
    | cons x r => injection hk with hk; subst hk; exact List.mem_cons_self
  intro f
  induction f with
  | zero =>
    intro listed a w _ hr _ hy hS H
    refine ⟨fun h => (by rw [h] at hr; cases hr), fun j hj => ?_⟩
    by_cases hji : j = i
    · subst hji
      exact hy.wpOp hi hS ⟨fun _ => hS, H⟩
    · have h0 := ready_mono hj hji
      rw [H.1] at h0
      cases h0
  | succ f ih =>
    intro listed a w hfree hr hpl hy hS H
    have hnk := chain_not hp hpl
    refine ⟨fun h => (by rw [h] at hr; cases hr), fun j hj => ?_⟩
    by_cases hji : j = i
    · subst hji
      exact hy.wpOp hi hS ⟨fun _ => hS, H⟩
    · have hjk : j ≠ k0 := fun e => hnk k0 hkp (e ▸ hj)
      have hjp : j ∉ p ++ [i] := fun hm => by
        rcases List.mem_append.1 hm with hm | hm
        · exact hnk j (by rw [List.dropLast_concat]; exact hm) hj
        · exact hji (List.mem_singleton.1 hm)
      obtain ⟨hjun, oj, hoj, hall⟩ := mem_ready.1 hj
      have hnot : ∀ e ∈ oj.after, Region.binds md e = true → e.on ≠ i := fun e he hb heq => by
        have q1 := hall e he hb
        have q0 := hpl i (by simp)
        rw [heq] at q1
        rcases Nat.lt_or_ge i listed.size with h' | h'
        · simp [h'] at q0 q1; rw [q1] at q0; cases q0
        · simp [Array.getElem?_eq_none h'] at q1
      have h2 := wpOp_putIf hoj (hfree j oj hoj hji hjun hnot) (fun cs b => hsel i oi cs b hi) (fun cs b => hsel j oj cs b hoj) hQ hy (H.2 j (ready_mono hj hji))
      refine wpOp_mono (fun b v' h3 => ⟨h3.2.1, ih (listed.setIfInBounds j true) b v' ?_ (ready_mono hr (Ne.symm hji)) ?_ h3.1 (h3.2.1 hjk) ?_⟩) h2
      · intro k ok hk' hki hun hno
        refine hfree k ok hk' hki ?_ hno
        by_cases hjk2 : j = k
        · subst hjk2; exact hjun
        · rw [getD_set_ne true hjk2] at hun; exact hun
      · intro u hu
        by_cases hju : j = u
        · exact absurd (hju ▸ hu) hjp
        · rw [getD_set_ne true hju]; exact hpl u hu
      · rw [Array.setIfInBounds_comm _ _ hji]
        exact h3.2.2

/-- An operation, its parts written out, is taken first; p: the chain from k0 to it, without it. -/
theorem take (i : Nat) (p : List Nat) {d : Option Tmp} {op : Op} {ty : TypeId} {ps : String} {af : Array _} {g : Option _} {v : Value} {fuel : Nat} {listed : Array Bool} {a : Act} {w : World} (hi : ops[i]? = some { dst := d, op := op, type := ty, pos := ps, after := af, guard := g })
    (hs : Region.noSelect ops = true) (hf : Region.free md ops listed i = true) (hr : (Region.ready md ops listed).contains i = true)
    (hp : chain md ops (p ++ [i]) = true) (hk : p.head? = some k0) (hl : ((p ++ [i]).all fun u => !listed.getD u true) = true)
    (hQ : ∀ c a w, Q (.panic c) (a.put d v) w → Q (.panic c) a w) (hy : YieldsIf P ops S { dst := d, op := op, type := ty, pos := ps, after := af, guard := g } v a) (hS : S w)
    (h : Held P md ops Q S k0 fuel (listed.setIfInBounds i true) (a.put d v) w) : Held P md ops Q S k0 (fuel + 1) listed a w :=
  first hi (Region.noSelect_spec hs) hQ p hp hk fuel listed a w (Region.free_spec hi hf) (by simpa using hr) (fun u hu => by have := List.all_eq_true.1 hl u hu; simpa using this) hy hS h

/-- An operation is taken first: it yields v in every world that meets S, or does not come up. -/
theorem tk (i : Nat) (p : List Nat) {d : Option Tmp} {op : Op} {ty : TypeId} {ps : String} {af : Array _} {g : Option _} {v : Value} {fuel : Nat} {listed listed' : Array Bool} {a a' : Act} {w : World} (hi : ops[i]? = some { dst := d, op := op, type := ty, pos := ps, after := af, guard := g })
    (h : Held P md ops Q S k0 fuel listed' a' w)
    (hs : Region.noSelect ops = true := by kernel_rfl) (hf : Region.free md ops listed i = true := by kernel_rfl) (hr : (Region.ready md ops listed).contains i = true := by kernel_rfl)
    (hp : chain md ops (p ++ [i]) = true := by kernel_rfl) (hk : p.head? = some k0 := by rfl) (hl : ((p ++ [i]).all fun u => !listed.getD u true) = true := by kernel_rfl)
    (hQ : ∀ c a w, Q (.panic c) (a.put d v) w → Q (.panic c) a w := by exact fun _ _ _ h => h)
    (hy : YieldsIf P ops S { dst := d, op := op, type := ty, pos := ps, after := af, guard := g } v a := by
      first
        | (refine Or.inl ⟨by rfl, ?_⟩; intro W hSW; (try dsimp only at hSW); (try go_split_ands); go_simp; (try (with_reducible rfl)); done)
        | exact Or.inr ⟨by rfl, rfl⟩)
    (hS : S w := by assumption)
    (hp' : a.put d v = a' := by (try simp only [Act.put, List.setIfInBounds_toArray, List.set_cons_zero, List.set_cons_succ]); rfl)
    (hl' : listed.setIfInBounds i true = listed' := by (try simp only [List.setIfInBounds_toArray, List.set_cons_zero, List.set_cons_succ]); rfl) :
    Held P md ops Q S k0 (fuel + 1) listed a w := by
  subst hp' hl'
  exact take i p hi hs hf hr hp hk hl hQ hy hS h

/-- The one operation that may come up is walked. -/
theorem step (i : Nat) {d : Option Tmp} {op : Op} {ty : TypeId} {ps : String} {af : Array _} {g : Option _} {fuel : Nat} {listed : Array Bool} {a : Act} {w : World} (hi : ops[i]? = some { dst := d, op := op, type := ty, pos := ps, after := af, guard := g })
    (hr : Region.ready md ops listed = [i]) (hw : Region.wanted { dst := d, op := op, type := ty, pos := ps, after := af, guard := g } (yielded ops a.tmps) = true)
    (h : ∀ K' : Act → World → Prop, Shut (∀ a w, (i ≠ k0 → S w) → Held P md ops Q S k0 fuel (listed.setIfInBounds i true) a w → K' a w) → Oper.wp P { dst := d, op := op, type := ty, pos := ps, after := af, guard := g } a w K' Q) :
    Held P md ops Q S k0 (fuel + 1) listed a w :=
  ⟨(fun h0 => by rw [hr] at h0; cases h0), fun j hj => by
    rw [hr] at hj
    obtain rfl := List.mem_singleton.1 hj
    exact wpOp_step hi (fun K' hK => by rw [if_pos hw]; exact h K' (fun a w hS hW => hK a w ⟨hS, hW⟩))⟩

/-- All have come up. -/
theorem done {listed : Array Bool} {a : Act} {w : World} (hr : Region.ready md ops listed = []) (h : Q .normal a w) : ∀ f, Held P md ops Q S k0 f listed a w
  | 0 => ⟨hr, h⟩
  | _ + 1 => ⟨fun _ => h, fun i hi => by rw [hr] at hi; cases hi⟩
end RegK
end Go.Proofs.YtedandbkdjmfhaaGreat
/-
  PACKS IN MEMORY: any, of one's own, in a block of their own.
-/
namespace Go.Proofs.YtedandbkdjmfhaaGreat
open Go.RowKit Mem Box
namespace Pk
open Seg (Hdr Rc Rv cellsOf cellsOf_len RowR hdV recV fits nums hnums nn goods frame headX recX frames check recB headB)

/-- A pack as memory has it. -/
structure Px where
  p : Pp
  B : Option Addr
  bc : Nat
  L : Option Addr
  lc : Nat
  xs : List Rv
def pcells (x : Px) : Array Value := #[.int .i64 x.p.h.host, .int .i64 x.p.h.epoch, .int .i64 x.p.h.seq, .int .i64 x.p.zone, .int .i64 x.p.cap, .int .i64 x.p.at_, .slice x.B x.p.buf.length x.bc, .slice x.L x.p.l.length x.lc]
def pxv (x : Px) : Value := .agg #[.int .i64 x.p.h.host, .int .i64 x.p.h.epoch, .int .i64 x.p.h.seq, .int .i64 x.p.zone, .int .i64 x.p.cap, .int .i64 x.p.at_, .slice x.B x.p.buf.length x.bc, .slice x.L x.p.l.length x.lc]
abbrev PBox (w : World) (g : Nat) (x : Px) : Prop := Cells w g 35 #[.int .i64 x.p.h.host, .int .i64 x.p.h.epoch, .int .i64 x.p.h.seq, .int .i64 x.p.zone, .int .i64 x.p.cap, .int .i64 x.p.at_, .slice x.B x.p.buf.length x.bc, .slice x.L x.p.l.length x.lc]
abbrev ZBox (w : World) (g : Nat) : Prop := Cells w g 35 #[.int .i64 0, .int .i64 0, .int .i64 0, .int .i64 0, .int .i64 0, .int .i64 0, .slice none 0 0, .slice none 0 0]
abbrev ZRec (w : World) (g : Nat) : Prop := Cells w g 57 #[.int .i64 0, .int .i64 0, .int .i64 0, .int .i64 0, .int .i64 0, .int .i64 0, .slice none 0 0]
abbrev RBox (w : World) (g : Nat) (y : Rv) : Prop := Cells w g 57 #[.int .i64 y.r.kind, .int .i64 y.r.lba, .int .i64 y.r.n, .int .i64 y.r.ver, .int .i64 y.r.zone, .int .i64 y.r.off, .slice y.D y.r.data.length y.c]
def rvV (y : Rv) : Value := .agg #[.int .i64 y.r.kind, .int .i64 y.r.lba, .int .i64 y.r.n, .int .i64 y.r.ver, .int .i64 y.r.zone, .int .i64 y.r.off, .slice y.D y.r.data.length y.c]
theorem fitR : OwnS.Fit cellsOf 7 := ⟨by omega, fun _ => rfl, fun x u hu => by
  simp [cellsOf] at hu
  rcases hu with rfl | rfl | rfl | rfl | rfl | rfl | rfl <;> rfl⟩
theorem info_recP : (Tryz.prog.info? 57).map (fun i => (i.zero, i.size, i.bytes)) = some (some (.agg #[.int .i64 0, .int .i64 0, .int .i64 0, .int .i64 0, .int .i64 0, .int .i64 0, .slice none 0 0]), 7, 72) := by kernel_rfl

section
variable {w w' : World} {A : Option Addr} {n c : Nat} {xs : List Rv}
theorem rowS_of (h : RowR w A n c xs) : RowS cellsOf 7 w A n c xs := by
  refine ⟨h.len, h.cap, Nat.le_trans h.big (by omega), fun h0 => ?_⟩
  obtain ⟨b, o, e, hb, hc⟩ := h.at_ h0
  exact ⟨b, o, e, hb, fun i x hi j u hu => by rw [Nat.add_assoc]; exact hc i x hi j u hu⟩
theorem rowR_of (h : RowS cellsOf 7 w A n c xs) (hn : n ≤ 1954687338211) (hd : ∀ x ∈ xs, Row cb w x.D x.r.data.length x.c x.r.data) : RowR w A n c xs := by
  refine ⟨h.len, h.cap, hn, fun h0 => ?_, hd⟩
  obtain ⟨b, o, e, hb, hc⟩ := h.at_ h0
  exact ⟨b, o, e, hb, fun i x hi j u hu => by rw [← Nat.add_assoc]; exact hc i x hi j u hu⟩
end

/-! ### Any -/
structure PackAt (w : World) (x : Px) : Prop where
  buf : Row cb w x.B x.p.buf.length x.bc x.p.buf
  recs : RowR w x.L x.p.l.length x.lc x.xs
  eq : x.xs.map Rv.r = x.p.l
theorem PackAt.below {w w' : World} {x : Px} (h : PackAt w x) (hb : Below w.heap.size w w') : PackAt w' x := ⟨h.buf.below hb, h.recs.below hb, h.eq⟩
/-! ### Of one's own -/
abbrev OwnB1 (base : Nat) (w : World) (B : Option Addr) (c : Nat) (l : List (BitVec 8)) : Prop := Mem.Owns cb 5 base w (.slice B l.length c) l.length l
abbrev OwnRs (base : Nat) (w : World) (L : Option Addr) (n c : Nat) (xs : List Rv) : Prop := OwnS.Owns cellsOf 7 57 base w (.slice L n c) n xs
def Off (y : Rv) (B : Option Addr) (n c : Nat) : Prop := (Value.slice y.D y.r.data.length y.c).ownBlock = none ∨ (Value.slice y.D y.r.data.length y.c).ownBlock ≠ (Value.slice B n c).ownBlock
structure OwnP (base : Nat) (w : World) (x : Px) : Prop where
  buf : OwnB1 base w x.B x.bc x.p.buf
  recs : OwnRs base w x.L x.p.l.length x.lc x.xs
  data : ∀ y ∈ x.xs, OwnB1 base w y.D y.c y.r.data
  off : ∀ y ∈ x.xs, Off y x.B x.p.buf.length x.bc
  eq : x.xs.map Rv.r = x.p.l
section
variable {base : Nat} {w w' : World} {x : Px}
theorem OwnP.below (h : OwnP base w x) (hb : Below w.heap.size w w') : OwnP base w' x := ⟨h.buf.below hb, h.recs.below hb, fun y hy => (h.data y hy).below hb, h.off, h.eq⟩
theorem OwnP.mono {base' : Nat} (h : OwnP base w x) (hb : base' ≤ base) : OwnP base' w x := ⟨h.buf.mono hb, h.recs.mono hb, fun y hy => (h.data y hy).mono hb, h.off, h.eq⟩
/-- What is of another type is written to. -/
theorem OwnP.chg {t : TypeId} {r : Option Nat} (h : OwnP base w x) (hc : Chg t r w w') (h1 : 5 ≠ t) (h2 : 57 ≠ t) : OwnP base w' x := ⟨hc.ownI h.buf h1, hc.owns h.recs h2, fun y hy => hc.ownI (h.data y hy) h1, h.off, h.eq⟩
theorem OwnP.any (h : OwnP base w x) (ho : OkP x.p) : PackAt w x := by
  have hl := ho.l_le
  have hb := ho.buf_le
  refine ⟨(Wire.gave_row h.buf (by omega)).1, rowR_of (h.recs.row fitR (by omega)) (by omega) (fun y hy => (Wire.gave_row (h.data y hy) ?_).1), h.eq⟩
  have hm : y.r ∈ x.p.l := by rw [← h.eq]; exact List.mem_map_of_mem hy
  have := (Seg.check_ok (ho.data _ hm)).2
  omega
theorem OwnP.nil (base : Nat) (w : World) (h : Hdr) (z c a : Int) : OwnP base w ⟨⟨h, z, c, a, [], []⟩, none, 0, none, 0, []⟩ := ⟨Mem.Owns.nil _ _ _ _, OwnS.Owns.nil _ _ _ _ _, by simp, by simp, rfl⟩
theorem OwnP.zero (base : Nat) (w : World) : OwnP base w ⟨zeroP, none, 0, none, 0, []⟩ := OwnP.nil base w _ _ _ _
end
/-! ### Boxes -/
def eightC (w : World) (g : Nat) (a b c d e f h i : Value) : Prop :=
  w.cell? ⟨g, 0, none⟩ = some a ∧ w.cell? ⟨g, 1, none⟩ = some b ∧ w.cell? ⟨g, 2, none⟩ = some c ∧ w.cell? ⟨g, 3, none⟩ = some d ∧ w.cell? ⟨g, 4, none⟩ = some e ∧ w.cell? ⟨g, 5, none⟩ = some f ∧ w.cell? ⟨g, 6, none⟩ = some h ∧ w.cell? ⟨g, 7, none⟩ = some i
section
variable {w : World} {g : Nat} {t : TypeId}
theorem eight_cells {a b c d e f h i : Value} (hc : Cells w g t #[a, b, c, d, e, f, h, i]) : eightC w g a b c d e f h i := ⟨hc.cell 0, hc.cell 1, hc.cell 2, hc.cell 3, hc.cell 4, hc.cell 5, hc.cell 6, hc.cell 7⟩
theorem eight_free {cs : Array Value} (h : Cells w g t cs) : w.frozen? ⟨g, 0, none⟩ = false ∧ w.frozen? ⟨g, 1, none⟩ = false ∧ w.frozen? ⟨g, 2, none⟩ = false ∧ w.frozen? ⟨g, 3, none⟩ = false ∧ w.frozen? ⟨g, 4, none⟩ = false ∧ w.frozen? ⟨g, 5, none⟩ = false ∧ w.frozen? ⟨g, 6, none⟩ = false ∧ w.frozen? ⟨g, 7, none⟩ = false := ⟨h.frozen 0, h.frozen 1, h.frozen 2, h.frozen 3, h.frozen 4, h.frozen 5, h.frozen 6, h.frozen 7⟩
def set8W (w : World) (g : Nat) (a b c d e f h i : Value) : World := (((((((w.setCell ⟨g, 0, none⟩ a).setCell ⟨g, 1, none⟩ b).setCell ⟨g, 2, none⟩ c).setCell ⟨g, 3, none⟩ d).setCell ⟨g, 4, none⟩ e).setCell ⟨g, 5, none⟩ f).setCell ⟨g, 6, none⟩ h).setCell ⟨g, 7, none⟩ i
theorem set8 {a b c d e f h i : Value} (hc : Cells w g t #[a, b, c, d, e, f, h, i]) (a' b' c' d' e' f' h' i' : Value) : Cells (set8W w g a' b' c' d' e' f' h' i') g t #[a', b', c', d', e', f', h', i'] := by
  unfold set8W
  have h1 : Cells (w.setCell ⟨g, 0, none⟩ a') g t #[a', b, c, d, e, f, h, i] := by simpa using hc.set_ 0 a'
  generalize w.setCell ⟨g, 0, none⟩ a' = w1 at *
  have h2 : Cells (w1.setCell ⟨g, 1, none⟩ b') g t #[a', b', c, d, e, f, h, i] := by simpa using h1.set_ 1 b'
  generalize w1.setCell ⟨g, 1, none⟩ b' = w2 at *
  have h3 : Cells (w2.setCell ⟨g, 2, none⟩ c') g t #[a', b', c', d, e, f, h, i] := by simpa using h2.set_ 2 c'
  generalize w2.setCell ⟨g, 2, none⟩ c' = w3 at *
  have h4 : Cells (w3.setCell ⟨g, 3, none⟩ d') g t #[a', b', c', d', e, f, h, i] := by simpa using h3.set_ 3 d'
  generalize w3.setCell ⟨g, 3, none⟩ d' = w4 at *
  have h5 : Cells (w4.setCell ⟨g, 4, none⟩ e') g t #[a', b', c', d', e', f, h, i] := by simpa using h4.set_ 4 e'
  generalize w4.setCell ⟨g, 4, none⟩ e' = w5 at *
  have h6 : Cells (w5.setCell ⟨g, 5, none⟩ f') g t #[a', b', c', d', e', f', h, i] := by simpa using h5.set_ 5 f'
  generalize w5.setCell ⟨g, 5, none⟩ f' = w6 at *
  have h7 : Cells (w6.setCell ⟨g, 6, none⟩ h') g t #[a', b', c', d', e', f', h', i] := by simpa using h6.set_ 6 h'
  generalize w6.setCell ⟨g, 6, none⟩ h' = w7 at *
  simpa using h7.set_ 7 i'
theorem mov8 (w : World) (g : Nat) (a b c d e f h i : Value) : Mov [g] w (set8W w g a b c d e f h i) := by
  have s := fun (w : World) (i : Nat) (v : Value) => Mov.set1 w (S := [g]) (q := g) (by simp) i v
  have tr := fun {a b c : World} (h : Mov [g] a b) (k : Mov [g] b c) => h.trans k (fun _ h => .inl h)
  exact tr (tr (tr (tr (tr (tr (tr (s _ _ _) (s _ _ _)) (s _ _ _)) (s _ _ _)) (s _ _ _)) (s _ _ _)) (s _ _ _)) (s _ _ _)
def sevenC (w : World) (g : Nat) (a b c d e f h : Value) : Prop :=
  w.cell? ⟨g, 0, none⟩ = some a ∧ w.cell? ⟨g, 1, none⟩ = some b ∧ w.cell? ⟨g, 2, none⟩ = some c ∧ w.cell? ⟨g, 3, none⟩ = some d ∧ w.cell? ⟨g, 4, none⟩ = some e ∧ w.cell? ⟨g, 5, none⟩ = some f ∧ w.cell? ⟨g, 6, none⟩ = some h
theorem seven_cells {a b c d e f h : Value} (hc : Cells w g t #[a, b, c, d, e, f, h]) : sevenC w g a b c d e f h := ⟨hc.cell 0, hc.cell 1, hc.cell 2, hc.cell 3, hc.cell 4, hc.cell 5, hc.cell 6⟩
theorem seven_free {cs : Array Value} (h : Cells w g t cs) : w.frozen? ⟨g, 0, none⟩ = false ∧ w.frozen? ⟨g, 1, none⟩ = false ∧ w.frozen? ⟨g, 2, none⟩ = false ∧ w.frozen? ⟨g, 3, none⟩ = false ∧ w.frozen? ⟨g, 4, none⟩ = false ∧ w.frozen? ⟨g, 5, none⟩ = false ∧ w.frozen? ⟨g, 6, none⟩ = false := ⟨h.frozen 0, h.frozen 1, h.frozen 2, h.frozen 3, h.frozen 4, h.frozen 5, h.frozen 6⟩
def set7W (w : World) (g : Nat) (a b c d e f h : Value) : World := ((((((w.setCell ⟨g, 0, none⟩ a).setCell ⟨g, 1, none⟩ b).setCell ⟨g, 2, none⟩ c).setCell ⟨g, 3, none⟩ d).setCell ⟨g, 4, none⟩ e).setCell ⟨g, 5, none⟩ f).setCell ⟨g, 6, none⟩ h
theorem set7 {a b c d e f h : Value} (hc : Cells w g t #[a, b, c, d, e, f, h]) (a' b' c' d' e' f' h' : Value) : Cells (set7W w g a' b' c' d' e' f' h') g t #[a', b', c', d', e', f', h'] := by
  unfold set7W
  have h1 : Cells (w.setCell ⟨g, 0, none⟩ a') g t #[a', b, c, d, e, f, h] := by simpa using hc.set_ 0 a'
  generalize w.setCell ⟨g, 0, none⟩ a' = w1 at *
  have h2 : Cells (w1.setCell ⟨g, 1, none⟩ b') g t #[a', b', c, d, e, f, h] := by simpa using h1.set_ 1 b'
  generalize w1.setCell ⟨g, 1, none⟩ b' = w2 at *
  have h3 : Cells (w2.setCell ⟨g, 2, none⟩ c') g t #[a', b', c', d, e, f, h] := by simpa using h2.set_ 2 c'
  generalize w2.setCell ⟨g, 2, none⟩ c' = w3 at *
  have h4 : Cells (w3.setCell ⟨g, 3, none⟩ d') g t #[a', b', c', d', e, f, h] := by simpa using h3.set_ 3 d'
  generalize w3.setCell ⟨g, 3, none⟩ d' = w4 at *
  have h5 : Cells (w4.setCell ⟨g, 4, none⟩ e') g t #[a', b', c', d', e', f, h] := by simpa using h4.set_ 4 e'
  generalize w4.setCell ⟨g, 4, none⟩ e' = w5 at *
  have h6 : Cells (w5.setCell ⟨g, 5, none⟩ f') g t #[a', b', c', d', e', f', h] := by simpa using h5.set_ 5 f'
  generalize w5.setCell ⟨g, 5, none⟩ f' = w6 at *
  simpa using h6.set_ 6 h'
theorem mov7 (w : World) (g : Nat) (a b c d e f h : Value) : Mov [g] w (set7W w g a b c d e f h) := by
  have s := fun (w : World) (i : Nat) (v : Value) => Mov.set1 w (S := [g]) (q := g) (by simp) i v
  have tr := fun {a b c : World} (h : Mov [g] a b) (k : Mov [g] b c) => h.trans k (fun _ h => .inl h)
  exact tr (tr (tr (tr (tr (tr (s _ _ _) (s _ _ _)) (s _ _ _)) (s _ _ _)) (s _ _ _)) (s _ _ _)) (s _ _ _)
end
end Pk
end Go.Proofs.YtedandbkdjmfhaaGreat
