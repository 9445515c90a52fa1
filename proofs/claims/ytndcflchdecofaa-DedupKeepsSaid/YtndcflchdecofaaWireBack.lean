/-
  slices.Backward OVER BYTES: what it hands out, to a loop that writes into one block of its own.
-/
import Derived.Test.YtndcflchdecofaaMem
import Derived.RangeFuncNested
import Derived.RangeFuncBound
import Derived.RangeFuncCalls
import Derived.RangeFuncLeaves
import Derived.RangeFuncBox
import Derived.Shelf.Abstract
import Derived.OwnWalkIn
import Derived.TacticsInMore
import Derived.LoopNIn
import Derived.LoopIn
namespace Go.Proofs.Ytndcflchdecofaa
open Go.RowKit Go.Shelf Mem
attribute [local go_sem] Oper.semAt_some
namespace Wire

/-- All blocks below N but g lie as they lay. -/
structure Kept (N g : Nat) (W W' : World) : Prop where
  size : W.heap.size ≤ W'.heap.size
  block : ∀ k, k < N → k ≠ g → W'.heap[k]? = W.heap[k]?
theorem Kept.refl (N g : Nat) (W : World) : Kept N g W W := ⟨Nat.le_refl _, fun _ _ _ => rfl⟩
theorem Kept.trans {N g : Nat} {A B C : World} (h : Kept N g A B) (k : Kept N g B C) : Kept N g A C := ⟨Nat.le_trans h.size k.size, fun i h1 h2 => (k.block i h1 h2).trans (h.block i h1 h2)⟩
theorem Kept.of_below {N g : Nat} {W W' : World} (h : Below N W W') : Kept N g W W' := ⟨h.size, fun k hk _ => h.block k hk⟩
theorem Kept.setCell {N g : Nat} (W : World) (o : Nat) (v : Value) : Kept N g W (W.setCell ⟨g, o, none⟩ v) := ⟨by simp [World.setCell], fun k _ hg => Below.heap_setCell _ _ _ _ hg⟩
theorem kept_b {N g : Nat} {w : World} (hN : N ≤ w.heap.size) (W : World) (l : Nat) (o o' : Obj) (hl : w.heap.size ≤ l) (h : W.heap[l]? = some o) (hc : o.isCells = false) (hw : o.isWalk = false) : Kept N g W (W.putObj l o') :=
  Kept.of_below (belowK_b hN W l o o' hl h hc hw)
theorem Kept.cell {N g : Nat} {W W' : World} (h : Kept N g W W') {p : Addr} (hp : p.block < N) (hg : p.block ≠ g) : W'.cell? p = W.cell? p := World.cell?_of_block (h.block _ hp hg)

end Wire
end Go.Proofs.Ytndcflchdecofaa
