/-
  ZONES IN MEMORY; slices.Grow OF nil, slices.Concat AND bytes.Clone, OVER BYTES.
-/
import Derived.Test.YtnnphpfobdcmbaaZonMath
import Derived.Test.YtnnphpfobdcmbaaReg
import Derived.LoopTactic
import Derived.Deep.LoopGhost
import Derived.Deep.DeepCutAuto
import Derived.Lib.LazyBuf
import Derived.Lib.AppendZeros
import Derived.BigQuiet
import Derived.DeepKeys
import Derived.Deep.MidRow
namespace Go.Proofs.Ytnnphpfobdcmbaa
open Go.RowKit Mem
namespace Zon

/-- What a call gave: a row of the call's own. -/
def Gave {α : Type} (f : α → Value) (e : TypeId) (base : Nat) (w : World) (l : List α) (en : Ending) (w' : World) : Prop :=
  ∃ A k c, en = .returned (.slice A k c) ∧ Owns f e base w' (.slice A k c) k l ∧ Below base w w'
/-- A row and an error, as a call gave them. -/
def GaveE {α : Type} (f : α → Value) (e : TypeId) (base : Nat) (w : World) (l : List α) (er : Int) (en : Ending) (w' : World) : Prop :=
  ∃ A k c, en = .returned (.tuple #[.slice A k c, .int .i64 er]) ∧ Owns f e base w' (.slice A k c) k l ∧ Below base w w'
theorem gave_row {α : Type} {f : α → Value} {e : TypeId} {l : List α} {w' : World} {b : Nat} {X : Option Addr} {k c : Nat} (h : Owns f e b w' (.slice X k c) k l) (hn : l.length ≤ 140737488351232) : Row f w' X l.length c l ∧ k = l.length := by
  obtain rfl : l.length = k := h.len
  obtain ⟨A, c', e, hr⟩ := h.row hn
  injection e with e1 _ e3
  subst e1 e3
  exact ⟨hr, rfl⟩

theorem frozen_of {w : World} {g : Nat} {cs : Array Value} {t : TypeId} (h : w.heap[g]? = some (.cells cs t (0, 0))) (i : Nat) : w.frozen? ⟨g, i, none⟩ = false := by simp [World.frozen?, h]
theorem heap_set {w : World} {g : Nat} {cs : Array Value} {e : TypeId} (h : w.heap[g]? = some (.cells cs e (0, 0))) (i : Nat) (v : Value) : (w.setCell ⟨g, i, none⟩ v).heap[g]? = some (.cells (cs.setIfInBounds i v) e (0, 0)) := by
  simp [World.setCell, Array.getElem?_modify, h]
/-- A struct in a block of its own. -/
def Cells (w : World) (g : Nat) (t : TypeId) (cs : Array Value) : Prop := w.heap[g]? = some (.cells cs t (0, 0))
theorem Cells.below {w w' : World} {g : Nat} {t : TypeId} {cs : Array Value} (h : Cells w g t cs) (hb : Below w.heap.size w w') : Cells w' g t cs := (hb.block _ (Array.getElem?_eq_some_iff.1 h).1).trans h
theorem Cells.lt {w : World} {g : Nat} {t : TypeId} {cs : Array Value} (h : Cells w g t cs) : g < w.heap.size := (Array.getElem?_eq_some_iff.1 h).1
theorem Cells.cell {w : World} {g : Nat} {t : TypeId} {cs : Array Value} (h : Cells w g t cs) (i : Nat) : w.cell? ⟨g, i, none⟩ = cs[i]? := cell_of_row _ _ _ _ _ _ h
theorem Cells.frozen {w : World} {g : Nat} {t : TypeId} {cs : Array Value} (h : Cells w g t cs) (i : Nat) : w.frozen? ⟨g, i, none⟩ = false := frozen_of h i
theorem Cells.set_ {w : World} {g : Nat} {t : TypeId} {cs : Array Value} (h : Cells w g t cs) (i : Nat) (v : Value) : Cells (w.setCell ⟨g, i, none⟩ v) g t (cs.setIfInBounds i v) := heap_set h i v
theorem Cells.set_other {w : World} {g g' : Nat} {t : TypeId} {cs : Array Value} (h : Cells w g t cs) (hne : g' ≠ g) (i : Nat) (v : Value) : Cells (w.setCell ⟨g', i, none⟩ v) g t cs := (Below.heap_setCell _ _ _ _ (Ne.symm hne)).trans h
theorem Cells.new (w : World) (cs : Array Value) (t : TypeId) : Cells (w.alloc (.cells cs t)) w.heap.size t cs := heap_alloc_new w _

theorem head0 (A : Option Addr) (n c : Nat) (w : World) : (Instr.slice 44 (.slice A n c) none (some (.int .i64 0)) none).run Try.prog w = .ok (.slice A 0 c) w := run_head A n c 0 (by omega) w

/-- A piece: where it lies, how long it is, its capacity, what it reads as. -/
structure Piece where
  A : Option Addr
  n : Nat
  c : Nat
  l : List (BitVec 8)
def Piece.val (p : Piece) : Value := .slice p.A p.n p.c
theorem Piece.one (p : Piece) : (Piece.val p).oneCell' = true := rfl
def total (ps : List Piece) : Nat := (ps.map Piece.n).sum
def joined (ps : List Piece) : List (BitVec 8) := ps.flatMap Piece.l
theorem total_snoc (ps : List Piece) (p : Piece) : total (ps ++ [p]) = total ps + p.n := by simp [total]
theorem joined_snoc (ps : List Piece) (p : Piece) : joined (ps ++ [p]) = joined ps ++ p.l := by simp [joined]
theorem total_take_le (ps : List Piece) (k : Nat) : total (ps.take k) ≤ total ps := by
  conv => rhs; rw [← List.take_append_drop k ps]
  unfold total
  rw [List.map_append, List.sum_append]
  omega

theorem run_eql_nil (w : World) (A : Option Addr) (n c : Nat) : (binOp .eql 44 (.slice A n c) (.slice none 0 0)).run Try.prog w = .ok (.bool A.isNone) w :=
  Go.run_eql_slice_nil w _ _ A n c Try.underlying44

/-- Results of which the first is a struct in memory. -/
theorem results_zone_tmp {P : Program} {fn : Func} {p u : Tmp} {ty : TypeId} (h : fn.results = #[.cell p ty, .tmp u]) (tmps : Array Value) (w : World) (g : Nat) (t : TypeId) (cs : Array Value) (fr : Nat × Nat) (d : TypeDesc)
    (hp : tmps.getD p undef = .pointer (some ⟨g, 0, none⟩)) (hg : w.heap[g]? = some (.cells cs t fr))
    (hu : P.underlying ty = some d) (hd : (match d with | .struct _ | .array _ _ => true | _ => false) = true) (hi : (P.info? ty).map (·.size) = some cs.size) :
    (results fn tmps).run P w = .ok (.tuple #[.agg cs, tmps.getD u undef]) w := by
  have hp' : tmps[p]?.getD undef = .pointer (some ⟨g, 0, none⟩) := by simpa using hp
  simp [results, h, hp', asAddr, Result.andThen, run_loadVar_row w g t ty cs fr d hg hu hd hi]
theorem results_zone_tmp2 {P : Program} {fn : Func} {p u v : Tmp} {ty : TypeId} (h : fn.results = #[.cell p ty, .tmp u, .tmp v]) (tmps : Array Value) (w : World) (g : Nat) (t : TypeId) (cs : Array Value) (fr : Nat × Nat) (d : TypeDesc)
    (hp : tmps.getD p undef = .pointer (some ⟨g, 0, none⟩)) (hg : w.heap[g]? = some (.cells cs t fr))
    (hu : P.underlying ty = some d) (hd : (match d with | .struct _ | .array _ _ => true | _ => false) = true) (hi : (P.info? ty).map (·.size) = some cs.size) :
    (results fn tmps).run P w = .ok (.tuple #[.agg cs, tmps.getD u undef, tmps.getD v undef]) w := by
  have hp' : tmps[p]?.getD undef = .pointer (some ⟨g, 0, none⟩) := by simpa using hp
  simp [results, h, hp', asAddr, Result.andThen, run_loadVar_row w g t ty cs fr d hg hu hd hi]
end Zon
end Go.Proofs.Ytnnphpfobdcmbaa
