/-
  ROWS OF EXTENTS OF ONE'S OWN, WRITTEN; parts of a row. (Written by gen_extcopy.py.)
-/
import Derived.Test.YtnnphpfobdcmbaaExtMem
namespace Go.Proofs.Ytnnphpfobdcmbaa
open Go.RowKit Mem
namespace Ext
theorem run_tailL (A : Option Addr) (n c k : Nat) (hk : k ≤ n) (w : World) : (Instr.slice 22 (.slice A n c) (some (.int .i64 (k : Int))) none none).run Try.prog w = .ok (.slice (if c = k then A else A.map (·.add (k * 5))) (n - k) (c - k)) w := by
  obtain ⟨i, hi, hz0, hz1, hz2⟩ := info_parts info_ext
  have h1 : (k : Int) ≤ (n : Int) := by omega
  have h0 : (0 : Int) ≤ (k : Int) := by omega
  simp [Instr.slice, Instr.sliceBounds, run_sliceBound, h0, h1, run_underlying Try.underlying22, sizeOf, typeInfo, hi, hz1]
theorem run_headL (A : Option Addr) (n c k : Nat) (h : k ≤ c) (w : World) : (Instr.slice 22 (.slice A n c) none (some (.int .i64 (k : Int))) none).run Try.prog w = .ok (.slice A k c) w := by
  obtain ⟨i, hi, hz0, hz1, hz2⟩ := info_parts info_ext
  have e : (if c = 0 then A else A.map (·.add 0)) = A := by
    split
    · rfl
    · cases A with
      | none => rfl
      | some x => simp [Addr.add]
  have h1 : (k : Int) ≤ (c : Int) := by omega
  have h0 : (0 : Int) ≤ (k : Int) := by omega
  simp [Instr.slice, Instr.sliceBounds, run_sliceBound, h0, h1, run_underlying Try.underlying22, sizeOf, typeInfo, hi, e]

/-- A piece: where it lies, how long it is, its capacity, what it reads as. -/
structure Piece where
  A : Option Addr
  n : Nat
  c : Nat
  l : List Ex
def Piece.val (p : Piece) : Value := .slice p.A p.n p.c
theorem RowS.head {w : World} {A : Option Addr} {n c : Nat} {l : List Ex} (h : RowL w A n c l) {k : Nat} (hk : k ≤ n) : RowL w A k c (l.take k) := by
  refine ⟨by rw [List.length_take, h.len]; omega, by have := h.cap; omega, by have := h.big; omega, fun h0 => ?_⟩
  obtain ⟨b, o, e, hb, hc⟩ := h.at_ (by omega)
  refine ⟨b, o, e, hb, fun i x hx j u hu => ?_⟩
  rw [List.getElem?_take] at hx
  split at hx
  · exact hc i x hx j u hu
  · cases hx
def tailA (A : Option Addr) (c k : Nat) : Option Addr := if c = k then A else A.map (·.add (k * 5))
theorem RowS.tail {w : World} {A : Option Addr} {n c : Nat} {l : List Ex} (h : RowL w A n c l) {k : Nat} (hk : k ≤ n) : RowL w (tailA A c k) (n - k) (c - k) (l.drop k) := by
  refine ⟨by rw [List.length_drop, h.len], by have := h.cap; omega, by have := h.big; omega, fun h0 => ?_⟩
  obtain ⟨b, o, e, hb, hc⟩ := h.at_ (by omega)
  refine ⟨b, o + k * 5, ?_, hb, fun i x hx j u hu => ?_⟩
  · unfold tailA
    rw [if_neg (by have := h.cap; omega), e]
    simp [Mem.add_none]
  · rw [List.getElem?_drop] at hx
    have := hc (k + i) x hx j u hu
    rwa [show o + (k + i) * 5 + j = o + k * 5 + i * 5 + j by omega] at this

theorem run_midL (A : Option Addr) (n c k j : Nat) (hk : k ≤ j) (hj : j ≤ c) (w : World) : (Instr.slice 22 (.slice A n c) (some (.int .i64 (k : Int))) (some (.int .i64 (j : Int))) none).run Try.prog w = .ok (.slice (tailA A c k) (j - k) (c - k)) w := by
  obtain ⟨i, hi, hz0, hz1, hz2⟩ := info_parts info_ext
  have h1 : (k : Int) ≤ (j : Int) := by omega
  have h0 : (0 : Int) ≤ (k : Int) := by omega
  have h2 : (j : Int) ≤ (c : Int) := by omega
  have h3 : (0 : Int) ≤ (j : Int) := by omega
  simp [Instr.slice, Instr.sliceBounds, run_sliceBound, h0, h1, h2, h3, run_underlying Try.underlying22, sizeOf, typeInfo, hi, hz1, tailA]
/-- One number of one extent of a row of one's own is written. -/
theorem OwnsL.put {base : Nat} {w : World} {A : Option Addr} {n c : Nat} {l : List Ex} (h : OwnsL base w (.slice A n c) n l) {k : Nat} {x : Ex} (hx : l[k]? = some x) :
    ∃ g, A = some ⟨g, 0, none⟩ ∧ base ≤ g ∧ g < w.heap.size ∧ (w.cell? ⟨g, k * 5, none⟩ = some (.int .i64 x.lba) ∧ w.cell? ⟨g, k * 5 + 1, none⟩ = some (.int .i64 x.n) ∧ w.cell? ⟨g, k * 5 + 2, none⟩ = some (.int .i64 x.ver) ∧ w.cell? ⟨g, k * 5 + 3, none⟩ = some (.int .i64 x.zone) ∧ w.cell? ⟨g, k * 5 + 4, none⟩ = some (.int .i64 x.off)) ∧ (∀ i, w.frozen? ⟨g, i, none⟩ = false) ∧
      ∀ (j : Nat) (v : Value) (y : Ex), j < 5 → cellsL y = (cellsL x).set j v → OwnsL base (w.setCell ⟨g, k * 5 + j, none⟩ v) (.slice A n c) n (l.set k y) := by
  have hk := (List.getElem?_eq_some_iff.1 hx).1
  rcases h.1.2 with ⟨-, h1⟩ | ⟨g, cap, cur, e, hb, hg, hnc, hcm, hs, ht⟩
  · have := h.2; omega
  · injection e with e1 _ e3
    subst e1 e3
    have hcell : ∀ j u, (cellsL x)[j]? = some u → w.cell? ⟨g, k * 5 + j, none⟩ = some u := fun j u hu => by
      have := World.ownsRow.cells (g := g) h.1 rfl (k * 5 + j) u (flat_get l k j x u hx hu)
      rwa [Mem.add_none, Nat.zero_add] at this
    refine ⟨g, rfl, hb, (Array.getElem?_eq_some_iff.1 hg).1, ⟨hcell 0 _ rfl, hcell 1 _ rfl, hcell 2 _ rfl, hcell 3 _ rfl, hcell 4 _ rfl⟩, fun i => frozen_of hg i, fun j v y hj hy => ⟨?_, by rw [List.length_set]; exact h.2⟩⟩
    have hst := (World.ownsRow.stored h.1 (k * 5 + j) v).1
    have he : (l.flatMap cellsL).set (k * 5 + j) v = (l.set k y).flatMap cellsL := by
      apply List.ext_getElem?
      intro i
      rw [List.getElem?_set, flat_len]
      have hl4 : ((l.set k y).flatMap cellsL).length = l.length * 5 := by rw [flat_len, List.length_set]
      by_cases hi : k * 5 + j = i
      · subst hi
        rw [if_pos rfl, if_pos (by omega)]
        exact (flat_get _ k j y _ (by simp [hk]) (by rw [hy, List.getElem?_set, if_pos rfl, if_pos (by rw [ext_len]; exact hj)])).symm
      · rw [if_neg hi]
        rcases Nat.lt_or_ge i (l.length * 5) with h1 | h1
        · obtain ⟨u, hu⟩ : ∃ u, (l.flatMap cellsL)[i]? = some u := ⟨_, List.getElem?_eq_getElem (by rw [flat_len]; exact h1)⟩
          obtain ⟨z, hz, hzu⟩ := flat_inv l i u hu
          rw [hu]
          by_cases hik : k = i / 5
          · subst hik
            have hxz := hx.symm.trans hz
            injection hxz with hxz
            subst hxz
            have := flat_get (l.set (i / 5) y) (i / 5) (i % 5) y u (by simp [hk]) (by
              rw [hy, List.getElem?_set, if_neg (by omega)]; exact hzu)
            rw [show i / 5 * 5 + i % 5 = i by omega] at this
            exact this.symm
          · have := flat_get (l.set k y) (i / 5) (i % 5) z u (by rw [List.getElem?_set, if_neg hik]; exact hz) hzu
            rw [show i / 5 * 5 + i % 5 = i by omega] at this
            exact this.symm
        · rw [List.getElem?_eq_none (by rw [flat_len]; exact h1), List.getElem?_eq_none (by rw [hl4]; exact h1)]
    rw [← he]
    exact hst
theorem set_at {l : List Ex} {k : Nat} (h : k < l.length) (y : Ex) : (l.set k y)[k]? = some y := by simp [h]
theorem OwnsL.put_ {base g : Nat} {w : World} {n c : Nat} {l : List Ex} (h : OwnsL base w (.slice (some ⟨g, 0, none⟩) n c) n l) {k : Nat} {x : Ex} (hx : l[k]? = some x) (j : Nat) (v : Value) (y : Ex) (hj : j < 5) (hy : cellsL y = (cellsL x).set j v) :
    OwnsL base (w.setCell ⟨g, k * 5 + j, none⟩ v) (.slice (some ⟨g, 0, none⟩) n c) n (l.set k y) := by
  obtain ⟨g', hA, -, -, -, -, h0⟩ := OwnsL.put h hx
  injection hA with hA
  injection hA with hA
  subst hA
  exact h0 j v y hj hy
theorem belowk {B g : Nat} {a w : World} (h : Below B a w) (hg : B ≤ g) (i : Nat) (v : Value) : Below B a (w.setCell ⟨g, i, none⟩ v) := h.setCell (p := ⟨g, i, none⟩) hg v

/-- One extent, laid as a row of one's own. -/
theorem OwnsL.built {base : Nat} {w : World} (x : Ex) (hb : base ≤ w.heap.size) : OwnsL base (w.alloc (.cells #[.int .i64 x.lba, .int .i64 x.n, .int .i64 x.ver, .int .i64 x.zone, .int .i64 x.off] 32)) (.slice (some ⟨w.heap.size, 0, none⟩) 1 1) 1 [x] :=
  ⟨⟨by simp [cellsL], .inr ⟨w.heap.size, 1, _, rfl, hb, heap_alloc_new w _, Nat.le_refl _, by unfold maxLen; omega, rfl, by simp [cellsL]⟩⟩, rfl⟩
theorem OwnsL.cells_at {base g : Nat} {w : World} {n c : Nat} {l : List Ex} (h : OwnsL base w (.slice (some ⟨g, 0, none⟩) n c) n l) {k : Nat} {x : Ex} (hx : l[k]? = some x) :
    w.cell? ⟨g, k * 5, none⟩ = some (.int .i64 x.lba) ∧ w.cell? ⟨g, k * 5 + 1, none⟩ = some (.int .i64 x.n) ∧ w.cell? ⟨g, k * 5 + 2, none⟩ = some (.int .i64 x.ver) ∧ w.cell? ⟨g, k * 5 + 3, none⟩ = some (.int .i64 x.zone) ∧ w.cell? ⟨g, k * 5 + 4, none⟩ = some (.int .i64 x.off) := by
  obtain ⟨g', hA, -, -, h0, -⟩ := OwnsL.put h hx
  injection hA with hA
  injection hA with hA
  subst hA
  exact h0
theorem OwnsL.frozen {base g : Nat} {w : World} {n c : Nat} {l : List Ex} (h : OwnsL base w (.slice (some ⟨g, 0, none⟩) n c) n l) (i : Nat) : w.frozen? ⟨g, i, none⟩ = false := by
  rcases h.1.2 with ⟨e, -⟩ | ⟨g', cap, cur, e, hb, hg, -⟩
  · cases e
  · injection e with e1
    injection e1 with e1
    injection e1 with e1
    subst e1
    exact frozen_of hg i
theorem OwnsL.frozen5 {base g : Nat} {w : World} {n c : Nat} {l : List Ex} (h : OwnsL base w (.slice (some ⟨g, 0, none⟩) n c) n l) (k : Nat) :
    w.frozen? ⟨g, k * 5, none⟩ = false ∧ w.frozen? ⟨g, k * 5 + 1, none⟩ = false ∧ w.frozen? ⟨g, k * 5 + 2, none⟩ = false ∧ w.frozen? ⟨g, k * 5 + 3, none⟩ = false ∧ w.frozen? ⟨g, k * 5 + 4, none⟩ = false :=
  ⟨OwnsL.frozen h _, OwnsL.frozen h _, OwnsL.frozen h _, OwnsL.frozen h _, OwnsL.frozen h _⟩
/-- An extent of a row of one's own is written whole. -/
theorem OwnsL.put5 {base g : Nat} {w : World} {n c : Nat} {l : List Ex} (h : OwnsL base w (.slice (some ⟨g, 0, none⟩) n c) n l) {k : Nat} {x : Ex} (hx : l[k]? = some x) (y : Ex) :
    OwnsL base (((((w.setCell ⟨g, k * 5, none⟩ (.int .i64 y.lba)).setCell ⟨g, k * 5 + 1, none⟩ (.int .i64 y.n)).setCell ⟨g, k * 5 + 2, none⟩ (.int .i64 y.ver)).setCell ⟨g, k * 5 + 3, none⟩ (.int .i64 y.zone)).setCell ⟨g, k * 5 + 4, none⟩ (.int .i64 y.off)) (.slice (some ⟨g, 0, none⟩) n c) n (l.set k y) := by
  have hk := (List.getElem?_eq_some_iff.1 hx).1
  have e0 := OwnsL.put_ h hx 0 (.int .i64 y.lba) ⟨y.lba, x.n, x.ver, x.zone, x.off⟩ (by omega) rfl
  rw [Nat.add_zero] at e0
  have e1 := OwnsL.put_ e0 (set_at hk _) 1 (.int .i64 y.n) ⟨y.lba, y.n, x.ver, x.zone, x.off⟩ (by omega) rfl
  rw [List.set_set] at e1
  have e2 := OwnsL.put_ e1 (set_at hk _) 2 (.int .i64 y.ver) ⟨y.lba, y.n, y.ver, x.zone, x.off⟩ (by omega) rfl
  rw [List.set_set] at e2
  have e3 := OwnsL.put_ e2 (set_at hk _) 3 (.int .i64 y.zone) ⟨y.lba, y.n, y.ver, y.zone, x.off⟩ (by omega) rfl
  rw [List.set_set] at e3
  have e4 := OwnsL.put_ e3 (set_at hk _) 4 (.int .i64 y.off) y (by omega) rfl
  rw [List.set_set] at e4
  exact e4
theorem below5 {B g : Nat} {a w : World} (h : Below B a w) (hg : B ≤ g) (i0 i1 i2 i3 i4 : Nat) (x y z v u : Value) : Below B a (((((w.setCell ⟨g, i0, none⟩ x).setCell ⟨g, i1, none⟩ y).setCell ⟨g, i2, none⟩ z).setCell ⟨g, i3, none⟩ v).setCell ⟨g, i4, none⟩ u) :=
  belowk (belowk (belowk (belowk (belowk h hg i0 x) hg i1 y) hg i2 z) hg i3 v) hg i4 u
theorem Cells.other5 {w : World} {g g' : Nat} {t : TypeId} {cs : Array Value} (h : Cells w g t cs) (hg : g' ≠ g) (i0 i1 i2 i3 i4 : Nat) (x y z v u : Value) : Cells (((((w.setCell ⟨g', i0, none⟩ x).setCell ⟨g', i1, none⟩ y).setCell ⟨g', i2, none⟩ z).setCell ⟨g', i3, none⟩ v).setCell ⟨g', i4, none⟩ u) g t cs :=
  Cells.set_other (Cells.set_other (Cells.set_other (Cells.set_other (Cells.set_other h hg i0 x) hg i1 y) hg i2 z) hg i3 v) hg i4 u
theorem run_max2 (ts : Array TypeId) (t : TypeId) (x y : Int) (w : World) : (Builtin.max_ ts t #[.int .i64 x, .int .i64 y]).run Try.prog w = .ok (.int .i64 (max x y)) w := by
  have e : (Builtin.max_ ts t #[.int .i64 x, .int .i64 y]).run Try.prog w = .ok (.int .i64 (if y > x then y else x)) w := by
    simp [Builtin.max_, Builtin.max2, List.foldlM]
  rw [e]
  congr 2
  split <;> omega
theorem run_min2 (ts : Array TypeId) (t : TypeId) (x y : Int) (w : World) : (Builtin.min_ ts t #[.int .i64 x, .int .i64 y]).run Try.prog w = .ok (.int .i64 (min x y)) w := by
  have e : (Builtin.min_ ts t #[.int .i64 x, .int .i64 y]).run Try.prog w = .ok (.int .i64 (if y < x then y else x)) w := by
    simp [Builtin.min_, Builtin.min2, List.foldlM]
  rw [e]
  congr 2
  split <;> omega
theorem Cells.grown {w w' : World} {g : Nat} {t : TypeId} {cs : Array Value} {row : Option Nat} (h : Cells w g t cs) (hg : w.grownBy w' row) (hne : row ≠ some g) : Cells w' g t cs := (hg.block g (Cells.lt h) (fun e => hne e.symm)).trans h
theorem But.set5 (w : World) (g i0 i1 i2 i3 i4 : Nat) (x y z v u : Value) : But g w (((((w.setCell ⟨g, i0, none⟩ x).setCell ⟨g, i1, none⟩ y).setCell ⟨g, i2, none⟩ z).setCell ⟨g, i3, none⟩ v).setCell ⟨g, i4, none⟩ u) :=
  (But.set1 _ _ _ _).trans ((But.set1 _ _ _ _).trans ((But.set1 _ _ _ _).trans ((But.set1 _ _ _ _).trans (But.set1 _ _ _ _))))
/-- The same, as one operation of a region. -/
theorem wp_append_l1 {w : World} {o : Oper} {a : Act} {Q : Exit → Act → World → Prop} {K : Act → World → Prop} (s x : Operand)
    (ho : o.op = .call { callee := .builtin .append, args := #[s, x], argTypes := #[22, 22] }) (hty : o.type = 22)
    (base : Nat) (sv : Value) (n : Nat) (l : List Ex) (hs : a.eval s = sv) (hown : OwnsL base w sv n l) (A : Option Addr) (m c : Nat) (l' : List Ex) (hx : a.eval x = .slice A m c) (h : RowL w A m c l')
    (hbig : n + m ≤ 1099511627776) (hbase : base ≤ w.heap.size)
    (hk : ∀ A' c' w', OwnsL base w' (.slice A' (n + m) c') (n + m) (l ++ l') → w.grownBy w' sv.ownBlock → ((Value.slice A' (n + m) c').ownBlock = sv.ownBlock ∨ (Value.slice A' (n + m) c').ownBlock = some w.heap.size) → K (a.put o.dst (.slice A' (n + m) c')) w') :
    Oper.wp Try.prog o a w K Q := by
  obtain ⟨s', w', hrun, h2, h3, h4⟩ := run_append_l w base sv n l hown A m c l' h hbig hbase
  obtain ⟨A', c', rfl⟩ := h2.slice
  unfold Oper.wp execOp
  simp only [ho, hty, resolve, invoke, builtin, Sem.run_bind, Sem.run_pure, Result.andThen_ok, List.map_toArray, List.map_cons, List.map_nil, hs, hx, hrun]
  exact hk A' c' w' h2 h3 h4
theorem OwnsL.low {base : Nat} {w w' : World} {s : Value} {n : Nat} {xs : List Ex} (h : OwnsL base w s n xs) (hb : Below w.heap.size w w') : OwnsL base w' s n xs := OwnsL.below h hb
def tailE (A : Option Addr) (c k : Nat) : Option Addr := tailA A c k
theorem mid_row {w : World} {A : Option Addr} {n c : Nat} {l : List Ex} (h : RowL w A n c l) {i j : Nat} (hi : i ≤ j) (hj : j ≤ n) : RowL w (tailA A c i) (j - i) (c - i) ((l.drop i).take (j - i)) :=
  RowS.head (RowS.tail h (show i ≤ n by omega)) (by omega)
end Ext
end Go.Proofs.Ytnnphpfobdcmbaa
