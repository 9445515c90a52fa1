/-
  WHAT STANDS OUTSIDE ONE BLOCK: kept while a row of one's own is written.
-/
import Derived.Test.YtnnphpfobdcmbaaZonHeld
namespace Go.Proofs.Ytnnphpfobdcmbaa
open Go.RowKit Mem
namespace Zon

/-- Block g alone may have changed. -/
structure But (g : Nat) (w w' : World) : Prop where
  by_ : w.grownBy w' (some g)
section
variable {g : Nat} {w w' w'' : World}
theorem But.refl (g : Nat) (w : World) : But g w w := ⟨⟨rfl, rfl, rfl, Nat.le_refl _, fun _ _ _ => rfl⟩⟩
theorem But.trans (h : But g w w') (k : But g w' w'') : But g w w'' :=
  ⟨⟨k.1.os.trans h.1.os, k.1.tape.trans h.1.tape, k.1.output.trans h.1.output, Nat.le_trans h.1.size k.1.size, fun i hi hn => (k.1.block i (Nat.lt_of_lt_of_le hi h.1.size) hn).trans (h.1.block i hi hn)⟩⟩
theorem But.block (h : But g w w') {k : Nat} (hk : k < w.heap.size) (hn : k ≠ g) : w'.heap[k]? = w.heap[k]? := h.1.block k hk (fun e => hn (by injection e))
theorem But.below (h : But g w w') {b : Nat} (hb : b ≤ w.heap.size) (hg : b ≤ g) : Below b w w' :=
  ⟨h.1.os, h.1.tape, h.1.output, h.1.size, fun _ hk => h.block (Nat.lt_of_lt_of_le hk hb) (Nat.ne_of_lt (Nat.lt_of_lt_of_le hk hg))⟩
theorem Cells.but {k : Nat} {t : TypeId} {cs : Array Value} (hc : Cells w k t cs) (h : But g w w') (hn : k ≠ g) : Cells w' k t cs := (h.block (Cells.lt hc) hn).trans hc
theorem Box.but {k : Nat} {z : Zn} {D : Option Addr} {c : Nat} (hc : Box w k z D c) (h : But g w w') (hn : k ≠ g) : Box w' k z D c := Cells.but hc h hn
theorem Owns.but {α : Type} {f : α → Value} {e : TypeId} {b : Nat} {s : Value} {n : Nat} {l : List α} (ho : Owns f e b w s n l) (h : But g w w') (hg : g < b ∨ w.heap.size ≤ g) : Owns f e b w' s n l := by
  refine ⟨ho.1, ?_⟩
  rcases ho.2 with hn | ⟨q, cap, cur, e1, hbg, hq, r⟩
  · exact .inl hn
  · have hlt := (Array.getElem?_eq_some_iff.1 hq).1
    exact .inr ⟨q, cap, cur, e1, hbg, (h.block hlt (by omega)).trans hq, r⟩
end

/-- Where a row of one's own lies: the block that may change while it is written. -/
theorem own_place {w : World} {b n : Nat} {A : Option Addr} {c : Nat} {l : List B8} (h : Owns cb 5 b w (.slice A n c) n l) :
    ∃ g, (0 < n → A = some ⟨g, 0, none⟩ ∧ b ≤ g ∧ g < w.heap.size) ∧ (n = 0 → g = w.heap.size) := by
  rcases Nat.eq_zero_or_pos n with h0 | h0
  · exact ⟨w.heap.size, fun h => by omega, fun _ => rfl⟩
  · rcases h.2 with ⟨-, hn⟩ | ⟨g, cap, cur, hs, hbg, hg, -⟩
    · omega
    · injection hs with e1 e2 e3
      exact ⟨g, fun _ => ⟨e1, hbg, (Array.getElem?_eq_some_iff.1 hg).1⟩, fun h => by omega⟩

/-- A byte more by one. -/
theorem inc_u (b : B8) : (u b + 1) % 256 = u (b + 1#8) := by
  unfold u
  rw [BitVec.toNat_add]
  have := b.isLt
  show _ = (((b.toNat + 1) % 256 : Nat) : Int)
  omega
/-- One byte of a row of one's own is written. -/
theorem own_write {w : World} {b n g : Nat} {c : Nat} {l : List B8} (h : Owns cb 5 b w (.slice (some ⟨g, 0, none⟩) n c) n l) (k : Nat) (x : B8) (v : Value) (hv : v = cb x) :
    Owns cb 5 b (w.setCell ⟨g, k, none⟩ v) (.slice (some ⟨g, 0, none⟩) n c) n (l.set k x) ∧ But g w (w.setCell ⟨g, k, none⟩ v) := by
  subst hv
  have h1 := World.ownsRow.stored (h : World.ownsRow w b 5 1 _ n (l.map cb)) k (cb x)
  refine ⟨?_, ⟨h1.2⟩⟩
  show World.ownsRow _ _ _ _ _ _ _
  rw [List.map_set]
  exact h1.1
theorem own_cell {w : World} {b n g : Nat} {c : Nat} {l : List B8} (h : Owns cb 5 b w (.slice (some ⟨g, 0, none⟩) n c) n l) {k : Nat} (hk : k < n) : ∃ x, w.cell? ⟨g, k, none⟩ = some (.int .u8 (u x)) ∧ w.frozen? ⟨g, k, none⟩ = false := by
  have h0 := (h : World.ownsRow w b 5 1 _ n (l.map cb))
  have hl := h.len
  have h1 := World.ownsRow.cellAt h0 k (by omega)
  rw [List.getElem?_map, List.getElem?_eq_getElem (by omega)] at h1
  exact ⟨_, h1, World.ownsRow.frozenAt h0 k⟩

/-! ### How long the answers are -/
theorem appRes_len (z : Zn) (most : Int) (b : List B8) : (appRes z most b).data.length ≤ z.data.length + b.length := by
  unfold appRes
  cases (appErr z most b.length == 0)
  · exact Nat.zero_le _
  · show (z.data ++ b).length ≤ _; simp
theorem tornZ_len (z : Zn) (most : Int) (b : List B8) (keep : Int) : (tornZ z most b keep).data.length ≤ z.data.length + b.length := by
  unfold tornZ
  cases (tornErr z most b keep == 0)
  · exact Nat.zero_le _
  · cases (keep == 0)
    · show (z.data ++ b.take keep.toNat).length ≤ _; simp; omega
    · exact Nat.le_add_right _ _
end Zon
end Go.Proofs.Ytnnphpfobdcmbaa
