/-
  DEVICES, COMMANDS, ANSWERS, AND THE DESK, IN MEMORY.
-/
import Derived.Test.YtnnphpfobdcmbaaZnsMath
import Derived.Test.YtnnphpfobdcmbaaZonBut
namespace Go.Proofs.Ytnnphpfobdcmbaa
open Go.RowKit Mem Zon
namespace Zns

/-! ### What a store leaves -/
theorem Row.setNot {w : World} {A : Option Addr} {n c : Nat} {l : List B8} (h : Row cb w A n c l) {p : Addr} {v : Value} (hp : w.cell? p = some v) (hv : ∀ x, v ≠ cb x) (v' : Value) : Row cb (w.setCell p v') A n c l := by
  refine ⟨h.len, h.cap, h.big, fun h0 => ?_⟩
  obtain ⟨b, o, e, hb, hc⟩ := h.at_ h0
  refine ⟨b, o, e, by simpa using hb, fun i x hi => ?_⟩
  have h1 := hc i x hi
  have hne : p ≠ ⟨b, o + i, none⟩ := by
    intro e
    subst e
    rw [h1] at hp
    injection hp with hp
    exact hv x hp.symm
  rw [World.cell?_setCell_other _ _ _ _ hne]
  exact h1
theorem int_not (n : Int) (x : BitVec 8) : Value.int .i64 n ≠ cb x := fun h => by injection h with h; cases h
theorem slice_not (A : Option Addr) (n c : Nat) (x : BitVec 8) : Value.slice A n c ≠ cb x := fun h => by cases h
theorem RowS.drew {α : Type} {cells : α → List Value} {k : Nat} {w : World} {A : Option Addr} {n c : Nat} {xs : List α} (h : RowS cells k w A n c xs) : RowS cells k w.drew A n c xs := h.below (Below.refl _ w).drew

/-! ### Zones of one's own, in block q from o on -/
def OwnZ (w : World) (q o : Nat) (xs : List Zv) : Prop := ∃ cs, Cells w q 46 cs ∧ ∀ i x, xs[i]? = some x → ∀ j u, (cellsZ x)[j]? = some u → cs[o + i * 3 + j]? = some u
section
variable {w w' : World} {q o : Nat} {xs : List Zv}
theorem OwnZ.lt (h : OwnZ w q o xs) : q < w.heap.size := by obtain ⟨cs, h, -⟩ := h; exact Cells.lt h
theorem OwnZ.heap (h : OwnZ w q o xs) (e : w'.heap[q]? = w.heap[q]?) : OwnZ w' q o xs := by obtain ⟨cs, h1, h2⟩ := h; exact ⟨cs, e.trans h1, h2⟩
theorem OwnZ.below (h : OwnZ w q o xs) (hb : Below w.heap.size w w') : OwnZ w' q o xs := h.heap (hb.block q h.lt)
theorem OwnZ.frozen (h : OwnZ w q o xs) (i : Nat) : w.frozen? ⟨q, i, none⟩ = false := by obtain ⟨cs, h1, -⟩ := h; exact Cells.frozen h1 i
theorem OwnZ.cell (h : OwnZ w q o xs) {i : Nat} {x : Zv} (hx : xs[i]? = some x) {j : Nat} {u : Value} (hu : (cellsZ x)[j]? = some u) : w.cell? ⟨q, o + i * 3 + j, none⟩ = some u := by
  obtain ⟨cs, h1, h2⟩ := h
  rw [Cells.cell h1]
  exact h2 i x hx j u hu
theorem OwnZ.set1 (h : OwnZ w q o xs) {i j : Nat} {x x' : Zv} {v : Value} (hx : xs[i]? = some x) (hj : j < 3) (hc : cellsZ x' = (cellsZ x).set j v) : OwnZ (w.setCell ⟨q, o + i * 3 + j, none⟩ v) q o (xs.set i x') := by
  obtain ⟨cs, h1, h2⟩ := h
  refine ⟨_, heap_set h1 _ _, fun i2 y hy j2 u hu => ?_⟩
  have hj2 : j2 < 3 := by have := (List.getElem?_eq_some_iff.1 hu).1; simpa [cellsZ] using this
  rw [List.getElem?_set] at hy
  by_cases hi : i = i2
  · subst hi
    have hil : i < xs.length := (List.getElem?_eq_some_iff.1 hx).1
    rw [if_pos rfl, if_pos hil] at hy
    injection hy with hy
    subst hy
    rw [hc, List.getElem?_set] at hu
    by_cases hjj : j = j2
    · subst hjj
      rw [if_pos rfl, if_pos (by simpa [cellsZ] using hj)] at hu
      injection hu with hu
      subst hu
      obtain ⟨u0, hu0⟩ : ∃ u, (cellsZ x)[j]? = some u := ⟨_, List.getElem?_eq_getElem (by simpa [cellsZ] using hj)⟩
      have hb := (Array.getElem?_eq_some_iff.1 (h2 i x hx j u0 hu0)).1
      simp [hb]
    · rw [if_neg hjj] at hu
      rw [Array.getElem?_setIfInBounds, if_neg (by omega)]
      exact h2 i x hx j2 u hu
  · rw [if_neg hi] at hy
    rw [Array.getElem?_setIfInBounds, if_neg (by omega)]
    exact h2 i2 y hy j2 u hu
end

/-! ### A device, as a value -/
structure Dx where
  cap : Int
  op : Int
  ac : Int
  A : Option Addr
  n : Nat
  c : Nat
  xs : List Zv
def dxv (d : Dx) : Value := .agg #[.int .i64 d.cap, .int .i64 d.op, .int .i64 d.ac, .slice d.A d.n d.c]
def Dx.cells (d : Dx) : Array Value := #[.int .i64 d.cap, .int .i64 d.op, .int .i64 d.ac, .slice d.A d.n d.c]
def Dx.p (d : Dx) : Dv := ⟨d.cap, d.op, d.ac, d.xs.map Zv.z⟩
structure DevAt (w : World) (d : Dx) : Prop where
  row : RowS cellsZ 3 w d.A d.n d.c d.xs
  data : ∀ x ∈ d.xs, Row cb w x.D x.z.data.length x.c x.z.data
theorem DevAt.below {w w' : World} {d : Dx} (h : DevAt w d) (hb : Below w.heap.size w w') : DevAt w' d := ⟨h.row.below hb, fun x hx => (h.data x hx).below hb⟩
theorem DevAt.plen {w : World} {d : Dx} (h : DevAt w d) : d.p.zs.length = d.n := by show (d.xs.map Zv.z).length = _; rw [List.length_map]; exact h.row.len

/-! ### A command, an answer -/
structure Cx where
  c : Cm
  B : Option Addr
  k : Nat
def cxv (x : Cx) : Value := .agg #[.int .i64 x.c.d, .int .i64 x.c.zone, .int .i64 x.c.epoch, .int .i64 x.c.off, .int .i64 x.c.n, .slice x.B x.c.b.length x.k]
def Cx.arr (x : Cx) : Array Value := #[.int .i64 x.c.d, .int .i64 x.c.zone, .int .i64 x.c.epoch, .int .i64 x.c.off, .int .i64 x.c.n, .slice x.B x.c.b.length x.k]
def cellsC (x : Cx) : List Value := [.int .i64 x.c.d, .int .i64 x.c.zone, .int .i64 x.c.epoch, .int .i64 x.c.off, .int .i64 x.c.n, .slice x.B x.c.b.length x.k]
structure CmdAt (w : World) (x : Cx) : Prop where
  row : Row cb w x.B x.c.b.length x.k x.c.b
  off : x.c.off ≤ 9223372036854775807
theorem CmdAt.below {w w' : World} {x : Cx} (h : CmdAt w x) (hb : Below w.heap.size w w') : CmdAt w' x := ⟨h.row.below hb, h.off⟩
structure Ex where
  p : Dn
  B : Option Addr
  k : Nat
def exv (x : Ex) : Value := .agg #[.int .i64 x.p.e, .int .i64 x.p.at_, .slice x.B x.p.b.length x.k]
def cellsE (x : Ex) : List Value := [.int .i64 x.p.e, .int .i64 x.p.at_, .slice x.B x.p.b.length x.k]
def DoneAt (w : World) (x : Ex) : Prop := Row cb w x.B x.p.b.length x.k x.p.b
theorem DoneAt.below {w w' : World} {x : Ex} (h : DoneAt w x) (hb : Below w.heap.size w w') : DoneAt w' x := Row.below h hb
theorem DoneAt.none (w : World) (e at_ : Int) : DoneAt w ⟨⟨e, at_, []⟩, Option.none, 0⟩ := Row.nil cb w

/-! ### The desk -/
/-- Where a desk and its zones lie, and what is the same all along. -/
structure Dk where
  g : Nat
  q : Nat
  o : Nat
  cap : Int
  op : Int
  ac : Int
  n : Nat
  c : Nat
section
variable {k : Dk} {xs : List Zv} {w w' : World}
theorem set_mem {i : Nat} {x x' : Zv} {l : List Zv} (h : x ∈ l.set i x') : x ∈ l ∨ x = x' := List.mem_or_eq_of_mem_set h

theorem But.set1 (w : World) (q i : Nat) (v : Value) : But q w (w.setCell ⟨q, i, none⟩ v) :=
  ⟨⟨rfl, rfl, rfl, by simp, fun b _ hn => Below.heap_setCell _ _ _ _ (fun e => hn (by rw [e]))⟩⟩
theorem But.of_below {q : Nat} (h : Below w.heap.size w w') : But q w w' := ⟨⟨h.os, h.tape, h.output, h.size, fun b hb _ => h.block b hb⟩⟩
theorem But.set3 {q : Nat} (h : But q w w') (a b c : Nat) (x y v : Value) : But q w (((w'.setCell ⟨q, a, none⟩ x).setCell ⟨q, b, none⟩ y).setCell ⟨q, c, none⟩ v) :=
  h.trans ((But.set1 _ _ _ _).trans ((But.set1 _ _ _ _).trans (But.set1 _ _ _ _)))
theorem But.lt {q : Nat} (h : But q w w') : w.heap.size ≤ w'.heap.size := h.by_.size
end
/-- Bytes that read as l, and lie in another block than q. -/
def Away (q : Nat) (w : World) (B : Option Addr) (n d : Nat) (l : List B8) : Prop := Row cb w B n d l ∧ ∀ b o, B = some ⟨b, o, none⟩ → 0 < n → b ≠ q
theorem Away.nil (q : Nat) (w : World) : Away q w none 0 0 [] := ⟨Row.nil cb w, fun _ _ e => by cases e⟩
theorem atI_of {xs : List Zv} {i : Nat} {x : Zv} (hx : xs[i]? = some x) : atI (xs.map Zv.z) i = x.z := by
  unfold atI
  rw [List.getD_eq_getElem?_getD, List.getElem?_map, hx]; rfl
end Zns
end Go.Proofs.Ytnnphpfobdcmbaa
