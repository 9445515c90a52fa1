/-
  SEVERAL TEXTS IN ONE FILE: ZnsMem, ZnsIndex, ZnsClose, ZnsPut, ZnsOpen.
-/
import Derived.Test.YtedandbkdjmfhaaGreatJ03
set_option linter.unusedSimpArgs false
set_option linter.unusedVariables false
/-
  DEVICES, COMMANDS, ANSWERS, AND THE DESK, IN MEMORY.
-/
namespace Go.Proofs.YtedandbkdjmfhaaGreat
open Go.RowKit Mem Zon
namespace Zns

/-! ### What a store leaves -/
theorem Row.setNot {w : World} {A : Option Addr} {n c : Nat} {l : List B8} (h : Row cb w A n c l) {p : Addr} {v : Value} (hp : w.cell? p = some v) (hv : ∀ x, v ≠ cb x) (v' : Value) : Row cb (w.setCell p v') A n c l := by
  refine ⟨h.len, h.cap, h.big, fun h0 => ?_⟩
  obtain ⟨b, o, e, hb, hc⟩ := h.at_ h0
  refine ⟨b, o, e, by simpa using hb, fun i x hi => ?_⟩
  have h1 := hc i x hi
  have hne : p ≠ ⟨b, o + i, none⟩ := by
    intro e
    subst e
    rw [h1] at hp
    injection hp with hp
    exact hv x hp.symm
  rw [World.cell?_setCell_other _ _ _ _ hne]
  exact h1
theorem int_not (n : Int) (x : BitVec 8) : Value.int .i64 n ≠ cb x := fun h => by injection h with h; cases h
theorem slice_not (A : Option Addr) (n c : Nat) (x : BitVec 8) : Value.slice A n c ≠ cb x := fun h => by cases h
theorem RowS.drew {α : Type} {cells : α → List Value} {k : Nat} {w : World} {A : Option Addr} {n c : Nat} {xs : List α} (h : RowS cells k w A n c xs) : RowS cells k w.drew A n c xs := h.below (Below.refl _ w).drew

/-! ### Zones of one's own, in block q from o on -/
def OwnZ (w : World) (q o : Nat) (xs : List Zv) : Prop := ∃ cs, Cells w q 54 cs ∧ ∀ i x, xs[i]? = some x → ∀ j u, (cellsZ x)[j]? = some u → cs[o + i * 3 + j]? = some u
section
variable {w w' : World} {q o : Nat} {xs : List Zv}
theorem OwnZ.lt (h : OwnZ w q o xs) : q < w.heap.size := by obtain ⟨cs, h, -⟩ := h; exact Cells.lt h
theorem OwnZ.heap (h : OwnZ w q o xs) (e : w'.heap[q]? = w.heap[q]?) : OwnZ w' q o xs := by obtain ⟨cs, h1, h2⟩ := h; exact ⟨cs, e.trans h1, h2⟩
theorem OwnZ.below (h : OwnZ w q o xs) (hb : Below w.heap.size w w') : OwnZ w' q o xs := h.heap (hb.block q h.lt)
theorem OwnZ.frozen (h : OwnZ w q o xs) (i : Nat) : w.frozen? ⟨q, i, none⟩ = false := by obtain ⟨cs, h1, -⟩ := h; exact Cells.frozen h1 i
theorem OwnZ.cell (h : OwnZ w q o xs) {i : Nat} {x : Zv} (hx : xs[i]? = some x) {j : Nat} {u : Value} (hu : (cellsZ x)[j]? = some u) : w.cell? ⟨q, o + i * 3 + j, none⟩ = some u := by
  obtain ⟨cs, h1, h2⟩ := h
  rw [Cells.cell h1]
  exact h2 i x hx j u hu
theorem OwnZ.set1 (h : OwnZ w q o xs) {i j : Nat} {x x' : Zv} {v : Value} (hx : xs[i]? = some x) (hj : j < 3) (hc : cellsZ x' = (cellsZ x).set j v) : OwnZ (w.setCell ⟨q, o + i * 3 + j, none⟩ v) q o (xs.set i x') := by
  obtain ⟨cs, h1, h2⟩ := h
  refine ⟨_, heap_set h1 _ _, fun i2 y hy j2 u hu => ?_⟩
  have hj2 : j2 < 3 := by have := (List.getElem?_eq_some_iff.1 hu).1; simpa [cellsZ] using this
  rw [List.getElem?_set] at hy
  by_cases hi : i = i2
  · subst hi
    have hil : i < xs.length := (List.getElem?_eq_some_iff.1 hx).1
    rw [if_pos rfl, if_pos hil] at hy
    injection hy with hy
    subst hy
    rw [hc, List.getElem?_set] at hu
    by_cases hjj : j = j2
    · subst hjj
      rw [if_pos rfl, if_pos (by simpa [cellsZ] using hj)] at hu
      injection hu with hu
      subst hu
      obtain ⟨u0, hu0⟩ : ∃ u, (cellsZ x)[j]? = some u := ⟨_, List.getElem?_eq_getElem (by simpa [cellsZ] using hj)⟩
      have hb := (Array.getElem?_eq_some_iff.1 (h2 i x hx j u0 hu0)).1
      simp [hb]
    · rw [if_neg hjj] at hu
      rw [Array.getElem?_setIfInBounds, if_neg (by omega)]
      exact h2 i x hx j2 u hu
  · rw [if_neg hi] at hy
    rw [Array.getElem?_setIfInBounds, if_neg (by omega)]
    exact h2 i2 y hy j2 u hu
end

/-! ### A device, as a value -/
structure Dx where
  cap : Int
  op : Int
  ac : Int
  A : Option Addr
  n : Nat
  c : Nat
  xs : List Zv
def dxv (d : Dx) : Value := .agg #[.int .i64 d.cap, .int .i64 d.op, .int .i64 d.ac, .slice d.A d.n d.c]
def Dx.cells (d : Dx) : Array Value := #[.int .i64 d.cap, .int .i64 d.op, .int .i64 d.ac, .slice d.A d.n d.c]
def Dx.p (d : Dx) : Dv := ⟨d.cap, d.op, d.ac, d.xs.map Zv.z⟩
structure DevAt (w : World) (d : Dx) : Prop where
  row : RowS cellsZ 3 w d.A d.n d.c d.xs
  data : ∀ x ∈ d.xs, Row cb w x.D x.z.data.length x.c x.z.data
theorem DevAt.below {w w' : World} {d : Dx} (h : DevAt w d) (hb : Below w.heap.size w w') : DevAt w' d := ⟨h.row.below hb, fun x hx => (h.data x hx).below hb⟩
theorem DevAt.plen {w : World} {d : Dx} (h : DevAt w d) : d.p.zs.length = d.n := by show (d.xs.map Zv.z).length = _; rw [List.length_map]; exact h.row.len

/-! ### A command, an answer -/
structure Cx where
  c : Cm
  B : Option Addr
  k : Nat
def cxv (x : Cx) : Value := .agg #[.int .i64 x.c.d, .int .i64 x.c.zone, .int .i64 x.c.epoch, .int .i64 x.c.off, .int .i64 x.c.n, .slice x.B x.c.b.length x.k]
def Cx.arr (x : Cx) : Array Value := #[.int .i64 x.c.d, .int .i64 x.c.zone, .int .i64 x.c.epoch, .int .i64 x.c.off, .int .i64 x.c.n, .slice x.B x.c.b.length x.k]
def cellsC (x : Cx) : List Value := [.int .i64 x.c.d, .int .i64 x.c.zone, .int .i64 x.c.epoch, .int .i64 x.c.off, .int .i64 x.c.n, .slice x.B x.c.b.length x.k]
structure CmdAt (w : World) (x : Cx) : Prop where
  row : Row cb w x.B x.c.b.length x.k x.c.b
  off : x.c.off ≤ 9223372036854775807
theorem CmdAt.below {w w' : World} {x : Cx} (h : CmdAt w x) (hb : Below w.heap.size w w') : CmdAt w' x := ⟨h.row.below hb, h.off⟩
structure Ex where
  p : Dn
  B : Option Addr
  k : Nat
def exv (x : Ex) : Value := .agg #[.int .i64 x.p.e, .int .i64 x.p.at_, .slice x.B x.p.b.length x.k]
def cellsE (x : Ex) : List Value := [.int .i64 x.p.e, .int .i64 x.p.at_, .slice x.B x.p.b.length x.k]
def DoneAt (w : World) (x : Ex) : Prop := Row cb w x.B x.p.b.length x.k x.p.b
theorem DoneAt.below {w w' : World} {x : Ex} (h : DoneAt w x) (hb : Below w.heap.size w w') : DoneAt w' x := Row.below h hb
theorem DoneAt.none (w : World) (e at_ : Int) : DoneAt w ⟨⟨e, at_, []⟩, Option.none, 0⟩ := Row.nil cb w

/-! ### The desk -/
/-- Bytes that lie in block b or behind it. -/
def Lo (b : Nat) (D : Option Addr) : Prop := ∀ q o, D = some ⟨q, o, none⟩ → b ≤ q
theorem Lo.none (b : Nat) : Lo b Option.none := fun _ _ h => by cases h
theorem Lo.mono {a b : Nat} {D : Option Addr} (h : Lo b D) (hab : a ≤ b) : Lo a D := fun q o e => Nat.le_trans hab (h q o e)
theorem lo_own {α : Type} {f : α → Value} {e : TypeId} {a b n m c : Nat} {w : World} {D : Option Addr} {l : List α} (h : Mem.Owns f e b w (.slice D m c) n l) (hab : a ≤ b) : Lo a D := by
  intro q o ed
  subst ed
  rcases h.2 with ⟨h1, -⟩ | ⟨g, cap, cur, h1, hb, -⟩
  · cases h1
  · injection h1 with h1
    injection h1 with h1
    injection h1 with h1
    omega
/-- Where a desk and its zones lie, and what is the same all along. -/
structure Dk where
  g : Nat
  q : Nat
  o : Nat
  cap : Int
  op : Int
  ac : Int
  n : Nat
  c : Nat
structure Desk (k : Dk) (xs : List Zv) (w : World) : Prop where
  box : Cells w k.g 91 #[.int .i64 k.cap, .int .i64 k.op, .int .i64 k.ac, .slice (some ⟨k.q, k.o, none⟩) k.n k.c, .bool true]
  own : OwnZ w k.q k.o xs
  len : xs.length = k.n
  cap : k.n ≤ k.c
  big : k.n ≤ 64
  data : ∀ x ∈ xs, Row cb w x.D x.z.data.length x.c x.z.data
  ne : k.g ≠ k.q
  low : ∀ x ∈ xs, Lo k.g x.D
section
variable {k : Dk} {xs : List Zv} {w w' : World}
theorem Desk.below (h : Desk k xs w) (hb : Below w.heap.size w w') : Desk k xs w' :=
  ⟨Cells.below h.box hb, h.own.below hb, h.len, h.cap, h.big, fun x hx => (h.data x hx).below hb, h.ne, h.low⟩
theorem Desk.cells (h : Desk k xs w) : w.cell? ⟨k.g, 0, none⟩ = some (.int .i64 k.cap) ∧ w.cell? ⟨k.g, 1, none⟩ = some (.int .i64 k.op) ∧ w.cell? ⟨k.g, 2, none⟩ = some (.int .i64 k.ac) ∧ w.cell? ⟨k.g, 3, none⟩ = some (.slice (some ⟨k.q, k.o, none⟩) k.n k.c) ∧ w.cell? ⟨k.g, 4, none⟩ = some (.bool true) :=
  ⟨Cells.cell h.box 0, Cells.cell h.box 1, Cells.cell h.box 2, Cells.cell h.box 3, Cells.cell h.box 4⟩
theorem Desk.row (h : Desk k xs w) : RowS cellsZ 3 w (some ⟨k.q, k.o, none⟩) k.n k.c xs :=
  ⟨h.len, h.cap, by have := h.big; omega, fun _ => ⟨_, _, rfl, h.own.lt, fun _ _ hx _ _ hu => h.own.cell hx hu⟩⟩
theorem Desk.elem (h : Desk k xs w) {i : Nat} {x : Zv} (hx : xs[i]? = some x) : w.cell? ⟨k.q, k.o + i * 3, none⟩ = some (.int .i64 x.z.st) ∧ w.cell? ⟨k.q, k.o + i * 3 + 1, none⟩ = some (.int .i64 x.z.fc) ∧ w.cell? ⟨k.q, k.o + i * 3 + 2, none⟩ = some (.slice x.D x.z.data.length x.c) :=
  ⟨h.own.cell hx (j := 0) rfl, h.own.cell hx (j := 1) rfl, h.own.cell hx (j := 2) rfl⟩
theorem Desk.data_at (h : Desk k xs w) {i : Nat} {x : Zv} (hx : xs[i]? = some x) : Row cb w x.D x.z.data.length x.c x.z.data := h.data x (List.mem_of_getElem? hx)
theorem Desk.frozen (h : Desk k xs w) (i : Nat) : w.frozen? ⟨k.q, i, none⟩ = false := h.own.frozen i
theorem Desk.get (h : Desk k xs w) {i : Nat} (hi : i < k.n) : ∃ x, xs[i]? = some x := ⟨_, List.getElem?_eq_getElem (by have := h.len; omega)⟩
theorem set_mem {i : Nat} {x x' : Zv} {l : List Zv} (h : x ∈ l.set i x') : x ∈ l ∨ x = x' := List.mem_or_eq_of_mem_set h

/-- One cell of a zone is written: one that holds no byte, with what leaves a zone there. -/
theorem Desk.set1 (h : Desk k xs w) {i j : Nat} {x x' : Zv} {u v : Value} (hx : xs[i]? = some x) (hj : j < 3) (hu : (cellsZ x)[j]? = some u) (hn : ∀ y, u ≠ cb y) (hc : cellsZ x' = (cellsZ x).set j v)
    (hr : Row cb (w.setCell ⟨k.q, k.o + i * 3 + j, none⟩ v) x'.D x'.z.data.length x'.c x'.z.data) (hlo : Lo k.g x'.D) : Desk k (xs.set i x') (w.setCell ⟨k.q, k.o + i * 3 + j, none⟩ v) := by
  refine ⟨Cells.set_other h.box (fun e => h.ne e.symm) _ _, h.own.set1 hx hj hc, by rw [List.length_set]; exact h.len, h.cap, h.big, fun y hy => ?_, h.ne, fun y hy => by
    rcases set_mem hy with hy | rfl
    · exact h.low y hy
    · exact hlo⟩
  rcases set_mem hy with hy | rfl
  · exact Row.setNot (h.data y hy) (h.own.cell hx hu) hn v
  · exact hr
/-- A whole zone is written. -/
theorem Desk.store (h : Desk k xs w) {i : Nat} {x : Zv} (x' : Zv) (hx : xs[i]? = some x) (hr : Row cb w x'.D x'.z.data.length x'.c x'.z.data) (hlo : Lo k.g x'.D) :
    Desk k (xs.set i x') (((w.setCell ⟨k.q, k.o + i * 3, none⟩ (.int .i64 x'.z.st)).setCell ⟨k.q, k.o + i * 3 + 1, none⟩ (.int .i64 x'.z.fc)).setCell ⟨k.q, k.o + i * 3 + 2, none⟩ (.slice x'.D x'.z.data.length x'.c)) := by
  have hil : i < xs.length := (List.getElem?_eq_some_iff.1 hx).1
  obtain ⟨e0, e1, e2⟩ := h.elem hx
  have s1 := h.set1 (x' := ⟨⟨x'.z.st, x.z.fc, x.z.data⟩, x.D, x.c⟩) (v := .int .i64 x'.z.st) hx (j := 0) (by omega) rfl (int_not _) rfl (Row.setNot (h.data_at hx) e0 (int_not _) _) (h.low x (List.mem_of_getElem? hx))
  have r1 := Row.setNot hr e0 (int_not _) (.int .i64 x'.z.st)
  have g1 : (xs.set i (⟨⟨x'.z.st, x.z.fc, x.z.data⟩, x.D, x.c⟩ : Zv))[i]? = some (⟨⟨x'.z.st, x.z.fc, x.z.data⟩, x.D, x.c⟩ : Zv) := by simp [hil]
  obtain ⟨e0, e1, e2⟩ := s1.elem g1
  have s2 := s1.set1 (x' := ⟨⟨x'.z.st, x'.z.fc, x.z.data⟩, x.D, x.c⟩) (v := .int .i64 x'.z.fc) g1 (j := 1) (by omega) rfl (int_not _) rfl (Row.setNot (s1.data_at g1) e1 (int_not _) _) (h.low x (List.mem_of_getElem? hx))
  have r2 := Row.setNot r1 e1 (int_not _) (.int .i64 x'.z.fc)
  rw [List.set_set] at s2
  have g2 : (xs.set i (⟨⟨x'.z.st, x'.z.fc, x.z.data⟩, x.D, x.c⟩ : Zv))[i]? = some (⟨⟨x'.z.st, x'.z.fc, x.z.data⟩, x.D, x.c⟩ : Zv) := by simp [hil]
  obtain ⟨e0, e1, e2⟩ := s2.elem g2
  have r3 := Row.setNot r2 e2 (slice_not _ _ _) (.slice x'.D x'.z.data.length x'.c)
  have s3 := s2.set1 (x' := x') (v := .slice x'.D x'.z.data.length x'.c) g2 (j := 2) (by omega) rfl (slice_not _ _ _) rfl r3 hlo
  rw [List.set_set] at s3
  exact s3
theorem But.set1 (w : World) (q i : Nat) (v : Value) : But q w (w.setCell ⟨q, i, none⟩ v) :=
  ⟨⟨rfl, rfl, rfl, by simp, fun b _ hn => Below.heap_setCell _ _ _ _ (fun e => hn (by rw [e]))⟩⟩
theorem But.of_below {q : Nat} (h : Below w.heap.size w w') : But q w w' := ⟨⟨h.os, h.tape, h.output, h.size, fun b hb _ => h.block b hb⟩⟩
theorem But.set3 {q : Nat} (h : But q w w') (a b c : Nat) (x y v : Value) : But q w (((w'.setCell ⟨q, a, none⟩ x).setCell ⟨q, b, none⟩ y).setCell ⟨q, c, none⟩ v) :=
  h.trans ((But.set1 _ _ _ _).trans ((But.set1 _ _ _ _).trans (But.set1 _ _ _ _)))
theorem But.lt {q : Nat} (h : But q w w') : w.heap.size ≤ w'.heap.size := h.by_.size
end
/-- Bytes that read as l, and lie in another block than q. -/
def Away (q : Nat) (w : World) (B : Option Addr) (n d : Nat) (l : List B8) : Prop := Row cb w B n d l ∧ ∀ b o, B = some ⟨b, o, none⟩ → 0 < n → b ≠ q
theorem Away.nil (q : Nat) (w : World) : Away q w none 0 0 [] := ⟨Row.nil cb w, fun _ _ e => by cases e⟩
/-- What an act came to. -/
def Acted (k : Dk) (w : World) (r : List Zn × Dn) (en : Ending) (w' : World) : Prop :=
  ∃ xs' B d, en = .returned (.agg #[.int .i64 r.2.e, .int .i64 r.2.at_, .slice B r.2.b.length d]) ∧ Desk k xs' w' ∧ xs'.map Zv.z = r.1 ∧ Away k.q w' B r.2.b.length d r.2.b ∧ But k.q w w'
theorem atI_of {xs : List Zv} {i : Nat} {x : Zv} (hx : xs[i]? = some x) : atI (xs.map Zv.z) i = x.z := by
  unfold atI
  rw [List.getD_eq_getElem?_getD, List.getElem?_map, hx]; rfl
end Zns
end Go.Proofs.YtedandbkdjmfhaaGreat
/-
  WALKS: slices.IndexFunc OVER ZONES, with the test that a zone is Implicit.
-/
namespace Go.Proofs.YtedandbkdjmfhaaGreat
open Go.RowKit Mem Zon
namespace Zns

set_option maxRecDepth 100000 in
theorem isImp_any (z : Zn) (D : Option Addr) (c : Nat) (w : World) :
    Calls Tryz.prog 91 #[zv z D c] w fun e w' => e = .returned (.bool (z.st == 1)) ∧ Below w.heap.size w w' := by
  have L1 := Lib.hid ((Below.refl w.heap.size w).alloc (Nat.le_refl _) (.cells #[.int .i64 z.st, .int .i64 z.fc, .slice D z.data.length c] 54))
  unfold zv
  go_enter Tryz.func91, Tryz.ntmps91
  go_wp2_with fail
  go_ret
  exact ⟨rfl, L1.out⟩

def impB (x : Zv) : Bool := x.z.st == 1
def firstV (xs : List Zv) : Int := match xs.findIdx? impB with | none => -1 | some k => (k : Int)
theorem firstV_map (xs : List Zv) : xs.findIdx? impB = firstI (xs.map Zv.z) := by
  unfold firstI
  rw [List.findIdx?_map]
  rfl

set_option maxRecDepth 100000 in
set_option maxHeartbeats 1600000 in
theorem index_any {A : Option Addr} {n c : Nat} {xs : List Zv} {w : World} (h : RowS cellsZ 3 w A n c xs) :
    Calls Tryz.prog 90 #[.slice A n c, .func (.func 91) #[] #[]] w fun e w' => e = .returned (.int .i64 (firstV xs)) ∧ Below w.heap.size w w' := by
  have HR := Lib.hid h
  have hbig := h.big
  have HI := fun z D c w => Lib.hid (isImp_any z D c w)
  unfold zv at HI
  clear h
  go_enter Tryz.func90, Tryz.ntmps90
  go_wp2_with fail
  go_loopw [8] (fun i wr => ∃ k : Nat, i = .int .i64 k ∧ k ≤ n ∧ Hid ((∀ j, j < k → ∀ x, xs[j]? = some x → impB x = false) ∧ Below w.heap.size w wr)) (fun i _ => n - (intOf i).toNat)
  case atStart => exact ⟨0, rfl, by omega, fun j hj => by omega, Below.refl _ _⟩
  case round =>
    obtain ⟨k, rfl, hk, hH⟩ := hrel
    by_cases hlt : k < n
    · obtain ⟨x, hx⟩ := HR.out.get hlt
      obtain ⟨b, o, rfl, hb, hc⟩ := HR.out.elem hx
      have c0 : wr.cell? ⟨b, o + k * 3, none⟩ = some (.int .i64 x.z.st) := hc wr (hH.out.2.block b hb) 0 _ rfl
      have c1 : wr.cell? ⟨b, o + k * 3 + 1, none⟩ = some (.int .i64 x.z.fc) := hc wr (hH.out.2.block b hb) 1 _ rfl
      have c2 : wr.cell? ⟨b, o + k * 3 + 2, none⟩ = some (.slice x.D x.z.data.length x.c) := hc wr (hH.out.2.block b hb) 2 _ rfl
      have hk0 : (0 : Int) ≤ (k : Int) := by omega
      have hk1 : (k : Int) < (n : Int) := by omega
      have HX := fun w => HI x.z x.D x.c w
      have HE := Lib.hid hx
      clear hc hx HI
      rcases hof : (x.z.st == 1)
      · rw [hof] at HX
        go_wp2_with fail
        refine (HX _).out.mono ?_
        rintro e w2 ⟨rfl, hb2⟩
        have L2 := Lib.hid (hH.out.2.trans (hb2.mono hH.out.2.size))
        clear hb2
        go_wp2_with fail
        go_roundw
        case rel =>
          refine ⟨k + 1, by go_num, by omega, fun j hj y hy => ?_, L2.out⟩
          rcases Nat.lt_succ_iff_lt_or_eq.1 hj with h | rfl
          · exact hH.out.1 j h y hy
          · have := HE.out.symm.trans hy; injection this with this; subst this; exact hof
        case measure => simp [intOf]; omega
      · rw [hof] at HX
        go_wp2_with fail
        refine (HX _).out.mono ?_
        rintro e w2 ⟨rfl, hb2⟩
        have L2 := Lib.hid (hH.out.2.trans (hb2.mono hH.out.2.size))
        clear hb2
        go_wp2_with fail
        go_ret
        refine ⟨?_, L2.out⟩
        have : xs.findIdx? impB = some k := by
          rw [List.findIdx?_eq_some_iff_getElem]
          have hkl : k < xs.length := by have := HR.out.len; omega
          have hxk : xs[k] = x := by have := HE.out; rw [List.getElem?_eq_getElem hkl] at this; injection this
          refine ⟨hkl, by rw [hxk]; exact hof, fun j hj => ?_⟩
          have := hH.out.1 j hj _ (List.getElem?_eq_getElem (by omega))
          simp [this]
        unfold firstV
        rw [this]
        rfl
    · have hkn : k = n := by omega
      subst hkn
      go_wp2_with fail
      go_ret
      refine ⟨?_, hH.out.2⟩
      have : xs.findIdx? impB = none := by
        rw [List.findIdx?_eq_none_iff]
        intro x hx
        obtain ⟨j, hj, rfl⟩ := List.mem_iff_getElem.1 hx
        exact hH.out.1 j (by have := HR.out.len; omega) _ (List.getElem?_eq_getElem hj)
      unfold firstV
      rw [this]
      rfl
end Zns
end Go.Proofs.YtedandbkdjmfhaaGreat
/-
  A WALK: which zone gives way, so that another one can be open (toClose).
-/
namespace Go.Proofs.YtedandbkdjmfhaaGreat
open Go.RowKit Mem Zon
namespace Zns

/-- One zone, laid as a slice. -/
theorem one_row {w : World} {x : Zv} {q : Nat} (hq : q = w.heap.size) : RowS cellsZ 3 (w.alloc (.cells #[.int .i64 x.z.st, .int .i64 x.z.fc, .slice x.D x.z.data.length x.c] 54)) (some ⟨q, 0, none⟩) 1 1 [x] := by
  subst hq
  refine ⟨rfl, by omega, by omega, fun _ => ⟨_, _, rfl, by simp, fun i y hi j u hu => ?_⟩⟩
  match i, hi with
  | 0, hi =>
    simp at hi
    subst hi
    rw [cell_of_row _ w.heap.size (0 + 0 * 3 + j) _ _ (0, 0) (heap_alloc_new w _)]
    simpa [cellsZ] using hu
theorem one_O (x : Zv) : cntO [x] = (bif openB x.z then 1 else 0) := by unfold cntO; rw [List.countP_cons, List.countP_nil]; cases openB x.z <;> rfl
theorem one_A (x : Zv) : cntA [x] = (bif actB x.z then 1 else 0) := by unfold cntA; rw [List.countP_cons, List.countP_nil]; cases actB x.z <;> rfl
theorem opened1 {x : Zv} {w : World} {q : Nat} (hq : q = w.heap.size) :
    Calls Tryz.prog 67 #[.slice (some ⟨q, 0, none⟩) 1 1] (w.alloc (.cells #[.int .i64 x.z.st, .int .i64 x.z.fc, .slice x.D x.z.data.length x.c] 54)) fun e w' => e = .returned (.int .i64 (bif openB x.z then 1 else 0)) ∧ Below w.heap.size w w' := by
  refine (opened_any (one_row (x := x) hq)).mono fun e w' ⟨h1, h2⟩ => ⟨?_, ((Below.refl _ w).alloc (Nat.le_refl _) _).trans (h2.mono (by simp))⟩
  rw [h1, one_O]; cases openB x.z <;> rfl
theorem active1 {x : Zv} {w : World} {q : Nat} (hq : q = w.heap.size) :
    Calls Tryz.prog 68 #[.slice (some ⟨q, 0, none⟩) 1 1] (w.alloc (.cells #[.int .i64 x.z.st, .int .i64 x.z.fc, .slice x.D x.z.data.length x.c] 54)) fun e w' => e = .returned (.int .i64 (bif actB x.z then 1 else 0)) ∧ Below w.heap.size w w' := by
  refine (active_any (one_row (x := x) hq)).mono fun e w' ⟨h1, h2⟩ => ⟨?_, ((Below.refl _ w).alloc (Nat.le_refl _) _).trans (h2.mono (by simp))⟩
  rw [h1, one_A]; cases actB x.z <;> rfl
theorem Desk.opened {k : Dk} {xs : List Zv} {w : World} (h : Desk k xs w) :
    Calls Tryz.prog 67 #[.slice (some ⟨k.q, k.o, none⟩) k.n k.c] w fun e w' => e = .returned (.int .i64 (cO (xs.map Zv.z) : Int)) ∧ Below w.heap.size w w' := by
  have := opened_any h.row
  rwa [cntO_map] at this
theorem Desk.active {k : Dk} {xs : List Zv} {w : World} (h : Desk k xs w) :
    Calls Tryz.prog 68 #[.slice (some ⟨k.q, k.o, none⟩) k.n k.c] w fun e w' => e = .returned (.int .i64 (cA (xs.map Zv.z) : Int)) ∧ Below w.heap.size w w' := by
  have := active_any h.row
  rwa [cntA_map] at this
theorem Desk.index {k : Dk} {xs : List Zv} {w : World} (h : Desk k xs w) :
    Calls Tryz.prog 90 #[.slice (some ⟨k.q, k.o, none⟩) k.n k.c, .func (.func 91) #[] #[]] w fun e w' => e = .returned (.int .i64 (firstV xs)) ∧ Below w.heap.size w w' := index_any h.row

set_option maxRecDepth 100000 in
set_option maxHeartbeats 3200000 in
theorem toClose_any {k : Dk} {xs : List Zv} {w : World} {i : Nat} {x : Zv} (h : Desk k xs w) (hx : xs[i]? = some x) :
    Calls Tryz.prog 71 #[.pointer (some ⟨k.g, 0, none⟩), .int .i64 (i : Int)] w fun e w' => e = .returned (.tuple #[.int .i64 (toCl k.op k.ac (xs.map Zv.z) x.z).1, .int .i64 (toCl k.op k.ac (xs.map Zv.z) x.z).2]) ∧ Below w.heap.size w w' := by
  have H := Lib.hid h
  have HX := Lib.hid hx
  have hcell := fun W (h : Desk k xs W) => And.intro h.cells.2.1 (And.intro h.cells.2.2.1 (And.intro h.cells.2.2.2.1 (h.elem hx)))
  have hi0 : (0 : Int) ≤ (i : Int) := by omega
  have hi1 : (i : Int) < (k.n : Int) := by have := (List.getElem?_eq_some_iff.1 hx).1; have := h.len; omega
  have HO1 := fun (w : World) (q : Nat) (hq : q = w.heap.size) => Lib.hid (opened1 (x := x) (w := w) (q := q) hq)
  have HA1 := fun (w : World) (q : Nat) (hq : q = w.heap.size) => Lib.hid (active1 (x := x) (w := w) (q := q) hq)
  have HO := fun w (h : Desk k xs w) => Lib.hid h.opened
  have HA := fun w (h : Desk k xs w) => Lib.hid h.active
  have HI := fun w (h : Desk k xs w) => Lib.hid h.index
  have hF : firstV xs = (wayI (firstI (xs.map Zv.z))).1 ∧ (decide (firstV xs < 0) = false ∧ (wayI (firstI (xs.map Zv.z))).2 = 0 ∨ decide (firstV xs < 0) = true ∧ firstV xs = -1 ∧ (wayI (firstI (xs.map Zv.z))).2 = 43) := by
    unfold firstV
    rw [firstV_map]
    cases firstI (xs.map Zv.z) with
    | none => exact ⟨rfl, .inr ⟨by decide, rfl, rfl⟩⟩
    | some j => exact ⟨rfl, .inl ⟨by simp, rfl⟩⟩
  have HFF := Lib.hid hF
  unfold toCl
  clear h hx hF
  generalize wayI (firstI (xs.map Zv.z)) = wy at *
  generalize firstV xs = fv at *
  generalize cO (xs.map Zv.z) = co at *
  generalize cA (xs.map Zv.z) = ca at *
  rcases e1 : openB x.z
  · rw [e1] at HO1
    generalize hb3 : (!actB x.z && decide (k.ac ≤ (ca : Int))) = b3
    go_enter Tryz.func71, Tryz.ntmps71
    obtain ⟨d1, d2, d3, z0, z1, z2⟩ := hcell _ H.out
    go_wp2_with fail
    refine (HO1 w _ rfl).out.mono ?_
    rintro e w1 ⟨rfl, hb⟩
    have L1 := Lib.hid hb
    have K1 := Lib.hid (H.out.below hb)
    clear hb d1 d2 d3 z0 z1 z2 H
    simp only [cond_false]
    go_upto_region 3 with fail
    go_cut [19] (fun s wx => s = .bool b3 ∧ Hid (Desk k xs wx ∧ Below w.heap.size w wx))
    case first =>
      have K2 : Hid (Desk k xs w1.drew) := K1.out.below (Below.refl _ w1).drew
      have L2 : Hid (Below w.heap.size w w1.drew) := L1.out.drew
      clear K1 L1
      rcases e2 : actB x.z
      all_goals
        rw [e2] at HA1 hb3
        refine wp_region_held_drew (S := fun W => W.cell? ⟨k.g, 1, none⟩ = some (.int .i64 k.op) ∧ W.cell? ⟨k.g, 2, none⟩ = some (.int .i64 k.ac) ∧ W.cell? ⟨k.g, 3, none⟩ = some (.slice (some ⟨k.q, k.o, none⟩) k.n k.c) ∧ W.cell? ⟨k.q, k.o + i * 3, none⟩ = some (.int .i64 x.z.st) ∧ W.cell? ⟨k.q, k.o + i * 3 + 1, none⟩ = some (.int .i64 x.z.fc) ∧ W.cell? ⟨k.q, k.o + i * 3 + 2, none⟩ = some (.slice x.D x.z.data.length x.c))
          (by kernel_rfl) (hcell _ K2.out) (fun hHeld => ?_)
        refine Reg.tk 0 rfl ?_
        refine Reg.tk 1 rfl ?_
        refine Reg.tk 2 rfl ?_
        refine Reg.tk 3 rfl ?_
        refine Reg.tk 4 rfl ?_
        refine Reg.tk 5 rfl ?_
        refine Reg.tk 6 rfl ?_
        refine Reg.tk 7 rfl ?_
        refine Reg.step 8 rfl (by kernel_rfl) (by rfl) (fun K hK => ?_)
        go_simp
        have K3 := Lib.hid (K2.out.below ((Below.refl _ w1.drew).alloc (Nat.le_refl _) (.cells #[.int .i64 x.z.st, .int .i64 x.z.fc, .slice x.D x.z.data.length x.c] 54)))
        refine hK.out _ _ (hcell _ K3.out) (fun hHeld2 => ?_)
        clear hK K
        (try simp only [Act.put, List.setIfInBounds_toArray, List.set_cons_zero, List.set_cons_succ])
        refine Reg.step 9 rfl (by kernel_rfl) (by rfl) (fun K hK => ?_)
        go_simp
        refine (HA1 w1.drew _ rfl).out.mono ?_
        rintro e w2 ⟨rfl, hb⟩
        simp only [cond_true, cond_false]
        have K4 := Lib.hid (K2.out.below hb)
        have L4 := Lib.hid (L2.out.trans (hb.mono L2.out.size))
        clear hb K3 K2 L2
        refine hK.out _ _ (hcell _ K4.out) (fun hHeld2 => ?_)
        clear hK K
        (try simp only [Act.put, List.setIfInBounds_toArray, List.set_cons_zero, List.set_cons_succ])
      · refine Reg.tk 10 rfl ?_
        refine Reg.tk 11 rfl ?_
        refine Reg.tk 12 rfl ?_
        refine Reg.tk 13 rfl ?_
        refine Reg.tk 14 rfl ?_
        refine Reg.tk 15 rfl ?_
        refine Reg.tk 16 rfl ?_
        refine Reg.tk 18 rfl ?_
        refine Reg.tk 19 rfl ?_
        refine Reg.tk 20 rfl ?_
        refine Reg.tk 21 rfl ?_
        refine Reg.tk 22 rfl ?_
        refine Reg.step 17 rfl (by kernel_rfl) (by rfl) (fun K hK => ?_)
        go_simp
        refine (HA w2 K4.out).out.mono ?_
        rintro e w3 ⟨rfl, hb⟩
        have K5 := Lib.hid (K4.out.below hb)
        have L5 := Lib.hid (L4.out.trans (hb.mono L4.out.size))
        clear hb
        refine hK.out _ _ (hcell _ K5.out) (fun hHeld2 => ?_)
        clear hK K
        (try simp only [Act.put, List.setIfInBounds_toArray, List.set_cons_zero, List.set_cons_succ])
        have hd : decide (k.ac ≤ (ca : Int)) = b3 := by simpa using hb3
        clear hb3
        refine Reg.tk 23 rfl ?_
        refine Reg.tk 24 rfl ?_
        refine Reg.tk 25 rfl ?_
        refine wpAnyH_done (by kernel_rfl) ?_ _
        go_wp2_with fail
        go_meet
        exact ⟨rfl, K5.out, L5.out⟩
      · have hd : b3 = false := by simpa using hb3.symm
        subst hd
        clear hb3
        refine Reg.tk 10 rfl ?_
        refine Reg.tk 11 rfl ?_
        refine Reg.tk 12 rfl ?_
        refine Reg.tk 13 rfl ?_
        refine Reg.tk 14 rfl ?_
        refine Reg.tk 15 rfl ?_
        refine Reg.tk 16 rfl ?_
        refine Reg.tk 17 rfl ?_
        refine Reg.tk 18 rfl ?_
        refine Reg.tk 19 rfl ?_
        refine Reg.tk 20 rfl ?_
        refine Reg.tk 21 rfl ?_
        refine Reg.tk 22 rfl ?_
        refine Reg.tk 23 rfl ?_
        refine Reg.tk 24 rfl ?_
        refine Reg.tk 25 rfl ?_
        refine wpAnyH_done (by kernel_rfl) ?_ _
        go_wp2_with fail
        go_meet
        exact ⟨rfl, K4.out, L4.out⟩
    case rest =>
      obtain ⟨rfl, hKL⟩ := hcut
      have K2 : Hid (Desk k xs wc.drew) := hKL.out.1.below (Below.refl _ wc).drew
      have K0 := Lib.hid hKL.out.1
      have L0 := Lib.hid hKL.out.2
      have L2 : Hid (Below w.heap.size w wc.drew) := hKL.out.2.drew
      clear hKL
      clear hb3
      rcases b3
      · go_upto_region 5 with fail
        clear K0 L0
        rcases e5 : decide ((co : Int) < k.op)
        all_goals
          refine wp_region_held_drew (S := fun W => W.cell? ⟨k.g, 1, none⟩ = some (.int .i64 k.op) ∧ W.cell? ⟨k.g, 2, none⟩ = some (.int .i64 k.ac) ∧ W.cell? ⟨k.g, 3, none⟩ = some (.slice (some ⟨k.q, k.o, none⟩) k.n k.c) ∧ W.cell? ⟨k.q, k.o + i * 3, none⟩ = some (.int .i64 x.z.st) ∧ W.cell? ⟨k.q, k.o + i * 3 + 1, none⟩ = some (.int .i64 x.z.fc) ∧ W.cell? ⟨k.q, k.o + i * 3 + 2, none⟩ = some (.slice x.D x.z.data.length x.c))
            (by kernel_rfl) (hcell _ K2.out) (fun hHeld => ?_)
          refine Reg.tk 0 rfl ?_
          refine Reg.tk 1 rfl ?_
          refine Reg.tk 2 rfl ?_
          refine Reg.tk 3 rfl ?_
          refine Reg.tk 4 rfl ?_
          refine Reg.tk 6 rfl ?_
          refine Reg.tk 7 rfl ?_
          refine Reg.tk 8 rfl ?_
          refine Reg.tk 9 rfl ?_
          refine Reg.tk 10 rfl ?_
          refine Reg.step 5 rfl (by kernel_rfl) (by rfl) (fun K hK => ?_)
          go_simp
          refine (HO wc.drew K2.out).out.mono ?_
          rintro e w3 ⟨rfl, hb⟩
          have K5 := Lib.hid (K2.out.below hb)
          have L5 := Lib.hid (L2.out.trans (hb.mono L2.out.size))
          clear hb
          refine hK.out _ _ (hcell _ K5.out) (fun hHeld2 => ?_)
          clear hK K
          (try simp only [Act.put, List.setIfInBounds_toArray, List.set_cons_zero, List.set_cons_succ])
          refine Reg.tk 11 rfl ?_
          refine Reg.tk 12 rfl ?_
          refine wpAnyH_done (by kernel_rfl) ?_ _
        · go_upto_region 7 with fail
          obtain ⟨d1, d2, d3, z0, z1, z2⟩ := hcell _ K5.out
          go_wp2_with fail
          refine (HI w3 K5.out).out.mono ?_
          rintro e w4 ⟨rfl, hb⟩
          have L6 := Lib.hid (L5.out.trans (hb.mono L5.out.size))
          clear hb d1 d2 d3 z0 z1 z2
          rcases HFF.out.2 with ⟨e6, e7⟩ | ⟨e6, e8, e7⟩
          · go_wp2_with fail
            go_ret2
            exact ⟨by rw [e5]; simp only [cond_false]; rw [← HFF.out.1, e7] <;> rfl, L6.out⟩
          · go_wp2_with fail
            go_ret2
            exact ⟨by rw [e5]; simp only [cond_false]; rw [← HFF.out.1, e7, e8] <;> rfl, L6.out⟩
        · go_wp2_with fail
          go_ret2
          exact ⟨by rw [e5]; rfl, L5.out⟩
      · clear K2 L2
        go_wp2_with fail
        go_ret2
        exact ⟨rfl, L0.out⟩
  · rw [e1] at HO1
    go_enter Tryz.func71, Tryz.ntmps71
    obtain ⟨d1, d2, d3, z0, z1, z2⟩ := hcell _ H.out
    go_wp2_with fail
    refine (HO1 w _ rfl).out.mono ?_
    rintro e w1 ⟨rfl, hb⟩
    have L1 := Lib.hid hb
    clear hb d1 d2 d3 z0 z1 z2
    simp only [cond_true]
    go_wp2_with fail
    go_ret2
    exact ⟨rfl, L1.out⟩
end Zns
end Go.Proofs.YtedandbkdjmfhaaGreat
/-
  WALKS: a zone is laid in its place (put); opened for it if need be (putOpen).
-/
namespace Go.Proofs.YtedandbkdjmfhaaGreat
open Go.RowKit Mem Zon
namespace Zns

/-- An answer in a block of its own. -/
def EBox (w : World) (b : Nat) (e a : Int) (B : Option Addr) (n d : Nat) : Prop := Cells w b 39 #[.int .i64 e, .int .i64 a, .slice B n d]
section
variable {w w' : World} {b : Nat} {e a : Int} {B : Option Addr} {n d : Nat}
theorem EBox.below (h : EBox w b e a B n d) (hb : Below w.heap.size w w') : EBox w' b e a B n d := Cells.below h hb
theorem EBox.lt (h : EBox w b e a B n d) : b < w.heap.size := Cells.lt h
theorem EBox.cells (h : EBox w b e a B n d) : w.cell? ⟨b, 0, none⟩ = some (.int .i64 e) ∧ w.cell? ⟨b, 1, none⟩ = some (.int .i64 a) ∧ w.cell? ⟨b, 2, none⟩ = some (.slice B n d) := ⟨Cells.cell h 0, Cells.cell h 1, Cells.cell h 2⟩
theorem EBox.frozen (h : EBox w b e a B n d) : w.frozen? ⟨b, 0, none⟩ = false ∧ w.frozen? ⟨b, 1, none⟩ = false ∧ w.frozen? ⟨b, 2, none⟩ = false := ⟨Cells.frozen h 0, Cells.frozen h 1, Cells.frozen h 2⟩
theorem EBox.but {q : Nat} (h : EBox w b e a B n d) (hb : But q w w') (hn : b ≠ q) : EBox w' b e a B n d := Cells.but h hb hn
theorem EBox.store (h : EBox w b e a B n d) (e' a' : Int) (B' : Option Addr) (n' d' : Nat) : EBox (((w.setCell ⟨b, 0, none⟩ (.int .i64 e')).setCell ⟨b, 1, none⟩ (.int .i64 a')).setCell ⟨b, 2, none⟩ (.slice B' n' d')) b e' a' B' n' d' :=
  Cells.set_ (Cells.set_ (Cells.set_ h 0 (.int .i64 e')) 1 (.int .i64 a')) 2 (.slice B' n' d')
theorem EBox.row3 {A : Option Addr} {m c : Nat} {l : List B8} (h : EBox w b e a B n d) (hr : Row cb w A m c l) (x y : Int) (B' : Option Addr) (n' d' : Nat) :
    Row cb (((w.setCell ⟨b, 0, none⟩ (.int .i64 x)).setCell ⟨b, 1, none⟩ (.int .i64 y)).setCell ⟨b, 2, none⟩ (.slice B' n' d')) A m c l := by
  have h1 := EBox.cells h
  have s1 : Cells _ b _ _ := Cells.set_ h 0 (.int .i64 x)
  have s2 : Cells _ b _ _ := Cells.set_ s1 1 (.int .i64 y)
  have r1 := Row.setNot hr h1.1 (int_not _) (.int .i64 x)
  have r2 := Row.setNot r1 (show _ = some (.int .i64 a) from Cells.cell s1 1) (int_not _) (.int .i64 y)
  exact Row.setNot r2 (show _ = some (.slice B n d) from Cells.cell s2 2) (slice_not _ _ _) _
end
theorem Desk.other3 {k : Dk} {xs : List Zv} {w : World} {b : Nat} {e a : Int} {B : Option Addr} {n d : Nat} (h : Desk k xs w) (hb : EBox w b e a B n d) (hg : b ≠ k.g) (hq : b ≠ k.q) (x y : Int) (B' : Option Addr) (n' d' : Nat) :
    Desk k xs (((w.setCell ⟨b, 0, none⟩ (.int .i64 x)).setCell ⟨b, 1, none⟩ (.int .i64 y)).setCell ⟨b, 2, none⟩ (.slice B' n' d')) :=
  ⟨Cells.set_other (Cells.set_other (Cells.set_other h.box hg _ _) hg _ _) hg _ _,
    h.own.heap (((Below.heap_setCell _ _ _ _ (Ne.symm hq)).trans (Below.heap_setCell _ _ _ _ (Ne.symm hq))).trans (Below.heap_setCell _ _ _ _ (Ne.symm hq))),
    h.len, h.cap, h.big, fun z hz => EBox.row3 hb (h.data z hz) x y B' n' d', h.ne, h.low⟩
theorem But.new1 {q b : Nat} {w w' : World} (h : But q w w') (hb : w.heap.size ≤ b) (i : Nat) (v : Value) : But q w (w'.setCell ⟨b, i, none⟩ v) :=
  ⟨⟨h.1.os, h.1.tape, h.1.output, by have := h.1.size; simpa using this, fun j hj hn => (Below.heap_setCell _ _ _ _ (by show j ≠ b; omega)).trans (h.1.block j hj hn)⟩⟩
theorem Desk.g_lt {k : Dk} {xs : List Zv} {w : World} (h : Desk k xs w) : k.g < w.heap.size := Cells.lt h.box
theorem Desk.q_lt {k : Dk} {xs : List Zv} {w : World} (h : Desk k xs w) : k.q < w.heap.size := h.own.lt

/-- How an act ends: its answer is laid into the result's block. -/
theorem acted_end {k : Dk} {xs xs' : List Zv} {w w' : World} {b : Nat} {e a : Int} {B : Option Addr} {n d : Nat} (h0 : Desk k xs w) (h : Desk k xs' w') (hb : EBox w' b e a B n d) (hbb : w.heap.size ≤ b) (hB : But k.q w w')
    (p : Dn) (X : Option Addr) (c : Nat) (hr : Away k.q w' X p.b.length c p.b) {r : List Zn × Dn} (hz : xs'.map Zv.z = r.1) (hp : p = r.2) :
    Acted k w r (.returned (.agg #[.int .i64 p.e, .int .i64 p.at_, .slice X p.b.length c])) (((w'.setCell ⟨b, 0, none⟩ (.int .i64 p.e)).setCell ⟨b, 1, none⟩ (.int .i64 p.at_)).setCell ⟨b, 2, none⟩ (.slice X p.b.length c)) := by
  subst hp
  have h1 := h0.g_lt
  have h2 := h0.q_lt
  exact ⟨xs', X, c, rfl, h.other3 hb (by omega) (by omega) _ _ _ _ _, hz, ⟨EBox.row3 hb hr.1 _ _ _ _ _, hr.2⟩, But.new1 (But.new1 (But.new1 hB hbb _ _) hbb _ _) hbb _ _⟩
theorem map_set (xs : List Zv) (i : Nat) (x : Zv) : (xs.set i x).map Zv.z = (xs.map Zv.z).set i x.z := List.map_set

def putP (zs : List Zn) (i : Nat) (z : Zn) (e : Int) : List Zn × Dn := bif e == 0 then (zs.set i z, fail_ 0) else (zs, fail_ e)

set_option maxRecDepth 100000 in
set_option maxHeartbeats 3200000 in
theorem put_any {k : Dk} {xs : List Zv} {w : World} {i : Nat} {x : Zv} (z : Zn) (D : Option Addr) (c : Nat) (e : Int) (h : Desk k xs w) (hx : xs[i]? = some x) (hr : Row cb w D z.data.length c z.data) (hlo : Lo k.g D) :
    Calls Tryz.prog 75 #[.pointer (some ⟨k.g, 0, none⟩), .int .i64 (i : Int), zv z D c, .int .i64 e] w (Acted k w (putP (xs.map Zv.z) i z e)) := by
  have H := Lib.hid h
  have HX := Lib.hid hx
  have hi0 : (0 : Int) ≤ (i : Int) := by omega
  have hi1 : (i : Int) < (k.n : Int) := by have := (List.getElem?_eq_some_iff.1 hx).1; have := h.len; omega
  have L1 := Lib.hid (((Below.refl w.heap.size w).alloc (Nat.le_refl _) (.cells #[.int .i64 z.st, .int .i64 z.fc, .slice D z.data.length c] 54)).alloc (by simp) (.cells #[.int .i64 0, .int .i64 0, .slice none 0 0] 39))
  have B1 : Hid (Box ((w.alloc (.cells #[.int .i64 z.st, .int .i64 z.fc, .slice D z.data.length c] 54)).alloc (.cells #[.int .i64 0, .int .i64 0, .slice none 0 0] 39)) w.heap.size z D c) := heap_alloc2_old w _ _
  have N1 : Hid (EBox ((w.alloc (.cells #[.int .i64 z.st, .int .i64 z.fc, .slice D z.data.length c] 54)).alloc (.cells #[.int .i64 0, .int .i64 0, .slice none 0 0] 39)) (w.heap.size + 1) 0 0 none 0 0) := heap_alloc2_new w _ _
  have R := Lib.hid hr
  have hcell := fun W (h : Desk k xs W) (hb : Box W w.heap.size z D c) => And.intro h.cells.2.2.2.1 (And.intro (hb.cells) (And.intro (h.elem hx) (And.intro (h.frozen (k.o + i * 3)) (And.intro (h.frozen (k.o + i * 3 + 1)) (h.frozen (k.o + i * 3 + 2))))))
  clear h hx hr
  unfold zv putP at *
  rcases e0 : (e == 0)
  · go_enter Tryz.func75, Tryz.ntmps75
    go_upto_region 3 with fail
    generalize (w.alloc (.cells #[.int .i64 z.st, .int .i64 z.fc, .slice D z.data.length c] 54)).alloc (.cells #[.int .i64 0, .int .i64 0, .slice none 0 0] 39) = w1 at *
    obtain ⟨n0, n1, n2⟩ := N1.out.cells
    obtain ⟨f0, f1, f2⟩ := N1.out.frozen
    go_wp2_with fail
    refine bodyPost_ret_by (results_cell_row rfl _ _ (w.heap.size + 1) _ _ _ _ rfl (EBox.store N1.out e 0 none 0 0) Tryz.underlying39 rfl (by kernel_rfl)) rfl ?_
    exact acted_end H.out (H.out.below L1.out) N1.out (by omega) (But.of_below L1.out) (fail_ e) none 0 (Away.nil _ _) rfl rfl
  · go_enter Tryz.func75, Tryz.ntmps75
    go_upto_region 2 with fail
    generalize (w.alloc (.cells #[.int .i64 z.st, .int .i64 z.fc, .slice D z.data.length c] 54)).alloc (.cells #[.int .i64 0, .int .i64 0, .slice none 0 0] 39) = w1 at *
    have H2 : Hid (Desk k xs w1.drew) := (H.out.below L1.out).below (Below.refl _ w1).drew
    have N2 : Hid (EBox w1.drew (w.heap.size + 1) 0 0 none 0 0) := N1
    have B2 : Hid (Box w1.drew w.heap.size z D c) := B1
    have R2 : Hid (Row cb w1.drew D z.data.length c z.data) := (R.out.below L1.out).drew
    have U2 : Hid (But k.q w w1.drew) := But.of_below L1.out.drew
    clear N1 B1 L1 R
    have HS := Lib.hid (H2.out.store ⟨z, D, c⟩ HX.out R2.out hlo)
    have HN := Lib.hid (EBox.but N2.out (But.set3 (But.refl k.q w1.drew) (k.o + i * 3) (k.o + i * 3 + 1) (k.o + i * 3 + 2) (.int .i64 z.st) (.int .i64 z.fc) (.slice D z.data.length c)) (by have := H.out.q_lt; omega))
    have HZ := Lib.hid (Box.but B2.out (But.set3 (But.refl k.q w1.drew) (k.o + i * 3) (k.o + i * 3 + 1) (k.o + i * 3 + 2) (.int .i64 z.st) (.int .i64 z.fc) (.slice D z.data.length c)) (by have := H.out.q_lt; omega))
    have HB := Lib.hid (But.set3 U2.out (k.o + i * 3) (k.o + i * 3 + 1) (k.o + i * 3 + 2) (.int .i64 z.st) (.int .i64 z.fc) (.slice D z.data.length c))
    obtain ⟨d3, q0, q1, s0, s1, s2⟩ := hcell _ H2.out B2.out
    refine wp_region_held_drew (S := fun W => W.cell? ⟨k.g, 3, none⟩ = some (.slice (some ⟨k.q, k.o, none⟩) k.n k.c) ∧ (W.cell? ⟨w.heap.size, 0, none⟩ = some (.int .i64 z.st) ∧ W.cell? ⟨w.heap.size, 1, none⟩ = some (.int .i64 z.fc) ∧ W.cell? ⟨w.heap.size, 2, none⟩ = some (.slice D z.data.length c)))
      (by kernel_rfl) ⟨d3, q0⟩ (fun hHeld => ?_)
    generalize w1.drew = w2 at *
    refine Reg.tk 0 rfl ?_
    refine Reg.tk 1 rfl ?_
    refine Reg.tk 2 rfl ?_
    refine Reg.tk 3 rfl ?_
    refine Reg.tk 4 rfl ?_
    refine Reg.tk 5 rfl ?_
    refine Reg.tk 6 rfl ?_
    refine Reg.tk 7 rfl ?_
    refine Reg.step 8 rfl (by kernel_rfl) (by rfl) (fun K hK => ?_)
    obtain ⟨g0, g1, g2⟩ := q1
    go_simp
    refine hK.out _ _ ⟨HS.out.cells.2.2.2.1, HZ.out.cells⟩ (fun hHeld2 => ?_)
    clear hK K
    (try simp only [Act.put, List.setIfInBounds_toArray, List.set_cons_zero, List.set_cons_succ])
    refine wpAnyH_done (by kernel_rfl) ?_ _
    clear d3 q0 g0 g1 g2 s0 s1 s2 hHeld hHeld2
    generalize ((w2.setCell ⟨k.q, k.o + i * 3, none⟩ (.int .i64 z.st)).setCell ⟨k.q, k.o + i * 3 + 1, none⟩ (.int .i64 z.fc)).setCell ⟨k.q, k.o + i * 3 + 2, none⟩ (.slice D z.data.length c) = w3 at *
    obtain ⟨n0, n1, n2⟩ := HN.out.cells
    obtain ⟨f0, f1, f2⟩ := HN.out.frozen
    go_wp2_with fail
    refine bodyPost_ret_by (results_cell_row rfl _ _ (w.heap.size + 1) _ _ _ _ rfl (EBox.store HN.out e 0 none 0 0) Tryz.underlying39 rfl (by kernel_rfl)) rfl ?_
    obtain rfl : e = 0 := by simpa using e0
    exact acted_end H.out HS.out HN.out (by omega) HB.out (fail_ 0) none 0 (Away.nil _ _) (map_set xs i _) rfl
end Zns
end Go.Proofs.YtedandbkdjmfhaaGreat
/-
  A WALK: a zone is laid in its place, which had to be opened for it (putOpen).
-/
namespace Go.Proofs.YtedandbkdjmfhaaGreat
open Go.RowKit Mem Zon
namespace Zns

theorem toCl_cases (op ac : Int) (zs : List Zn) (z : Zn) : (toCl op ac zs z = (-1, 0)) ∨ (toCl op ac zs z = (-1, 44) ∨ toCl op ac zs z = (-1, 43)) ∨ ∃ (j : Nat) (y : Zn), toCl op ac zs z = ((j : Int), 0) ∧ zs[j]? = some y ∧ y.st = 1 := by
  unfold toCl
  rcases openB z
  · rcases (!actB z && decide (ac ≤ (cA zs : Int)))
    · rcases decide ((cO zs : Int) < op)
      · simp only [cond_false]
        rcases e : firstI zs with _ | j
        · exact .inr (.inl (.inr rfl))
        · have e' := e
          unfold firstI at e'
          rw [List.findIdx?_eq_some_iff_getElem] at e'
          obtain ⟨hj, h1, -⟩ := e'
          exact .inr (.inr ⟨j, zs[j], rfl, List.getElem?_eq_getElem hj, by simpa using h1⟩)
      · exact .inl rfl
    · exact .inr (.inl (.inl rfl))
  · exact .inl rfl

/-- What putOpen came to. -/
def PutO (k : Dk) (w : World) (r : List Zn × Int) (en : Ending) (w' : World) : Prop := ∃ xs', en = .returned (.int .i64 r.2) ∧ Desk k xs' w' ∧ xs'.map Zv.z = r.1 ∧ But k.q w w'

set_option maxRecDepth 100000 in
set_option maxHeartbeats 3200000 in
theorem putOpen_any {k : Dk} {xs : List Zv} {w : World} {i : Nat} {x : Zv} (z : Zn) (D : Option Addr) (c : Nat) (h : Desk k xs w) (hx : xs[i]? = some x) (hr : Row cb w D z.data.length c z.data) (hlo : Lo k.g D) :
    Calls Tryz.prog 70 #[.pointer (some ⟨k.g, 0, none⟩), .int .i64 (i : Int), zv z D c] w (PutO k w (putO k.op k.ac (xs.map Zv.z) i z)) := by
  have H := Lib.hid h
  have HX := Lib.hid hx
  have hi0 : (0 : Int) ≤ (i : Int) := by omega
  have hi1 : (i : Int) < (k.n : Int) := by have := (List.getElem?_eq_some_iff.1 hx).1; have := h.len; omega
  have L1 := Lib.hid ((Below.refl w.heap.size w).alloc (Nat.le_refl _) (.cells #[.int .i64 z.st, .int .i64 z.fc, .slice D z.data.length c] 54))
  have B1 : Hid (Box (w.alloc (.cells #[.int .i64 z.st, .int .i64 z.fc, .slice D z.data.length c] 54)) w.heap.size z D c) := Box.new w z D c
  have R := Lib.hid hr
  have HT := fun w (h : Desk k xs w) => Lib.hid (toClose_any h hx)
  have HC := fun (y : Zn) E d w (h : Row cb w E y.data.length d y.data) => Lib.hid (close_any h)
  have hq : Hid (w.heap.size ≠ k.q) := by have := h.q_lt; show _ ≠ _; omega
  have hcell := fun W (xs : List Zv) (x : Zv) (hx : xs[i]? = some x) (h : Desk k xs W) (hb : Box W w.heap.size z D c) => And.intro h.cells.2.2.2.1 (And.intro (hb.cells) (And.intro (h.elem hx) (And.intro (h.frozen (k.o + i * 3)) (And.intro (h.frozen (k.o + i * 3 + 1)) (h.frozen (k.o + i * 3 + 2))))))
  have hcellj := fun W (j : Nat) (y : Zv) (hy : xs[j]? = some y) (h : Desk k xs W) (hb : Box W w.heap.size z D c) => And.intro h.cells.2.2.2.1 (And.intro (hb.cells) (And.intro (h.elem hy) (And.intro (h.frozen (k.o + j * 3)) (And.intro (h.frozen (k.o + j * 3 + 1)) (h.frozen (k.o + j * 3 + 2))))))
  have hat := atI_of hx
  have hxl := (List.getElem?_eq_some_iff.1 hx).1
  clear h hx hr
  unfold putO
  rw [hat]
  unfold zv GaveZ PutO at *
  rcases toCl_cases k.op k.ac (xs.map Zv.z) x.z with ht | ht | ⟨j, y0, ht, hy0, hy1⟩
  · rw [ht] at HT ⊢
    go_enter Tryz.func70, Tryz.ntmps70
    go_upto_region 1 with fail
    generalize w.alloc (.cells #[.int .i64 z.st, .int .i64 z.fc, .slice D z.data.length c] 54) = w1 at *
    go_wp2_with fail
    refine (HT w1 (H.out.below L1.out)).out.mono ?_
    rintro e wx ⟨rfl, hb⟩
    have LX := Lib.hid (L1.out.trans (hb.mono L1.out.size))
    have BX := Lib.hid (B1.out.below hb)
    clear hb L1 B1 HT
    go_upto_region 6 with fail
    have H2 : Hid (Desk k xs wx.drew) := H.out.below LX.out.drew
    have B2 : Hid (Box wx.drew w.heap.size z D c) := BX
    have R2 : Hid (Row cb wx.drew D z.data.length c z.data) := R.out.below LX.out.drew
    have U2 : Hid (But k.q w wx.drew) := But.of_below LX.out.drew
    have hx2 := HX.out
    clear LX BX
    refine wp_region_held_drew (S := fun W => W.cell? ⟨k.g, 3, none⟩ = some (.slice (some ⟨k.q, k.o, none⟩) k.n k.c) ∧ (W.cell? ⟨w.heap.size, 0, none⟩ = some (.int .i64 z.st) ∧ W.cell? ⟨w.heap.size, 1, none⟩ = some (.int .i64 z.fc) ∧ W.cell? ⟨w.heap.size, 2, none⟩ = some (.slice D z.data.length c)))
      (by kernel_rfl) ⟨(hcell _ _ _ hx2 H2.out B2.out).1, (hcell _ _ _ hx2 H2.out B2.out).2.1⟩ (fun hHeld => ?_)
    generalize wx.drew = w2 at *
    have HS := Lib.hid (H2.out.store ⟨z, D, c⟩ hx2 R2.out hlo)
    have HZ := Lib.hid (Box.but B2.out (But.set3 (But.refl k.q w2) (k.o + i * 3) (k.o + i * 3 + 1) (k.o + i * 3 + 2) (.int .i64 z.st) (.int .i64 z.fc) (.slice D z.data.length c)) hq.out)
    have HB := Lib.hid (But.set3 U2.out (k.o + i * 3) (k.o + i * 3 + 1) (k.o + i * 3 + 2) (.int .i64 z.st) (.int .i64 z.fc) (.slice D z.data.length c))
    obtain ⟨d3, q0, q1, s0, s1, s2⟩ := hcell _ _ _ hx2 H2.out B2.out
    refine Reg.tk 0 rfl ?_
    refine Reg.tk 1 rfl ?_
    refine Reg.tk 2 rfl ?_
    refine Reg.tk 3 rfl ?_
    refine Reg.tk 4 rfl ?_
    refine Reg.tk 5 rfl ?_
    refine Reg.tk 6 rfl ?_
    refine Reg.tk 7 rfl ?_
    refine Reg.step 8 rfl (by kernel_rfl) (by rfl) (fun K hK => ?_)
    obtain ⟨g0, g1, g2⟩ := q1
    go_simp
    refine hK.out _ _ ⟨HS.out.cells.2.2.2.1, HZ.out.cells⟩ (fun hHeld2 => ?_)
    clear hK K
    (try simp only [Act.put, List.setIfInBounds_toArray, List.set_cons_zero, List.set_cons_succ])
    refine wpAnyH_done (by kernel_rfl) ?_ _
    clear d3 q0 g0 g1 g2 s0 s1 s2 hHeld hHeld2
    generalize ((w2.setCell ⟨k.q, k.o + i * 3, none⟩ (.int .i64 z.st)).setCell ⟨k.q, k.o + i * 3 + 1, none⟩ (.int .i64 z.fc)).setCell ⟨k.q, k.o + i * 3 + 2, none⟩ (.slice D z.data.length c) = w9 at *
    go_wp2_with fail
    go_ret
    exact ⟨_, rfl, HS.out, map_set xs i _, HB.out⟩
  · obtain ⟨er, ht, hne⟩ : ∃ er, toCl k.op k.ac (xs.map Zv.z) x.z = (-1, er) ∧ er ≠ 0 := by
      rcases ht with ht | ht
      · exact ⟨_, ht, by decide⟩
      · exact ⟨_, ht, by decide⟩
    rw [ht] at HT ⊢
    have hne1 : (er != 0) = true := bne_iff_ne.2 hne
    have hne2 : (er == 0) = false := beq_eq_false_iff_ne.2 hne
    rw [hne2]
    go_enter Tryz.func70, Tryz.ntmps70
    go_upto_region 1 with fail
    generalize w.alloc (.cells #[.int .i64 z.st, .int .i64 z.fc, .slice D z.data.length c] 54) = w1 at *
    clear hne
    go_wp2_with fail
    refine (HT w1 (H.out.below L1.out)).out.mono ?_
    rintro e wx ⟨rfl, hb⟩
    have LX := Lib.hid (L1.out.trans (hb.mono L1.out.size))
    clear hb L1 B1 HT
    go_wp2_with fail
    go_ret
    exact ⟨xs, rfl, H.out.below LX.out, rfl, But.of_below LX.out⟩
  · obtain ⟨y, hy, rfl⟩ : ∃ y, xs[j]? = some y ∧ y.z = y0 := by
      rw [List.getElem?_map] at hy0
      obtain ⟨y, h1, h2⟩ := Option.map_eq_some_iff.1 hy0
      exact ⟨y, h1, h2⟩
    have HY := Lib.hid hy
    have hj0 : (0 : Int) ≤ (j : Int) := by omega
    have hj1 : (j : Int) < (k.n : Int) := by have := (List.getElem?_eq_some_iff.1 hy).1; have := H.out.len; omega
    have hjn : ((j : Int) != -1) = true := bne_iff_ne.2 (by omega)
    have hjn2 : ((j : Int) == -1) = false := beq_eq_false_iff_ne.2 (by omega)
    have hatj := atI_of hy
    rw [ht] at HT ⊢
    clear hy hy0 hy1
    go_enter Tryz.func70, Tryz.ntmps70
    go_upto_region 1 with fail
    generalize w.alloc (.cells #[.int .i64 z.st, .int .i64 z.fc, .slice D z.data.length c] 54) = w1 at *
    go_wp2_with fail
    refine (HT w1 (H.out.below L1.out)).out.mono ?_
    rintro e wx ⟨rfl, hb⟩
    have LX := Lib.hid (L1.out.trans (hb.mono L1.out.size))
    have BX := Lib.hid (B1.out.below hb)
    clear hb L1 B1 HT
    go_upto_region 5 with fail
    have H2 : Hid (Desk k xs wx.drew) := H.out.below LX.out.drew
    have B2 : Hid (Box wx.drew w.heap.size z D c) := BX
    have L2 : Hid (Below w.heap.size w wx.drew) := LX.out.drew
    clear LX BX
    refine wp_region_held_drew (S := fun W => W.cell? ⟨k.g, 3, none⟩ = some (.slice (some ⟨k.q, k.o, none⟩) k.n k.c) ∧ (W.cell? ⟨w.heap.size, 0, none⟩ = some (.int .i64 z.st) ∧ W.cell? ⟨w.heap.size, 1, none⟩ = some (.int .i64 z.fc) ∧ W.cell? ⟨w.heap.size, 2, none⟩ = some (.slice D z.data.length c)))
      (by kernel_rfl) (by obtain ⟨a, b, d, -⟩ := hcellj _ j y HY.out H2.out B2.out; exact ⟨a, b⟩) (fun hHeld => ?_)
    generalize wx.drew = w2 at *
    refine Reg.tk 0 rfl ?_
    refine Reg.tk 1 rfl ?_
    refine Reg.tk 2 rfl ?_
    refine Reg.tk 3 rfl ?_
    refine Reg.tk 4 rfl ?_
    refine Reg.tk 5 rfl ?_
    refine Reg.tk 6 rfl ?_
    refine Reg.tk 7 rfl ?_
    refine Reg.tk 8 rfl ?_
    refine Reg.tk 9 rfl ?_
    refine Reg.tk 10 rfl ?_
    refine Reg.tk 11 rfl ?_
    refine Reg.tk 12 rfl ?_
    refine Reg.step 13 rfl (by kernel_rfl) (by rfl) (fun K hK => ?_)
    obtain ⟨a1, a2, ⟨a3, a4, a5⟩, a6, a7, a8⟩ := hcellj _ j y HY.out H2.out B2.out
    go_simp
    clear a3 a4 a5 a6 a7 a8
    refine hK.out _ _ ⟨a1, a2⟩ (fun hHeld2 => ?_)
    clear hK K a1 a2 hHeld2
    (try simp only [Act.put, List.setIfInBounds_toArray, List.set_cons_zero, List.set_cons_succ])
    refine Reg.step 14 rfl (by kernel_rfl) (by rfl) (fun K hK => ?_)
    go_simp
    refine (HC y.z y.D y.c w2 (H2.out.data_at HY.out)).out.mono ?_
    rintro e w3 ⟨X, q, rfl, hX, hb⟩
    unfold zv
    have HVL : Hid ((closeZ y.z).data.length ≤ 140737488351232) := by
      show _ ≤ _
      have := (H2.out.data_at HY.out).big
      unfold closeZ
      rcases (y.z.st == 0 || y.z.st == 4)
      · rcases (y.z.data.length == 0) <;> exact this
      · exact Nat.zero_le _
    have HMP : Hid (∀ X q, (((xs.set j ⟨closeZ y.z, X, q⟩).set i ⟨z, D, c⟩).map Zv.z) = (closeAt (xs.map Zv.z) j).set i z) := by
      show ∀ _, _
      intro X q
      unfold closeAt
      rw [hjn2, cond_false, Int.toNat_natCast, hatj, map_set, map_set]
    generalize closeZ y.z = v at *
    have RX := Lib.hid hX
    have H3 := Lib.hid (H2.out.below hb)
    have B3 := Lib.hid (B2.out.below hb)
    have L3 := Lib.hid (L2.out.trans (hb.mono L2.out.size))
    have LOX := Lib.hid (lo_own hX (Nat.le_of_lt H2.out.g_lt))
    clear hX hb H2 B2 L2
    refine hK.out _ _ (by obtain ⟨a, b, d, -⟩ := hcellj _ j y HY.out H3.out B3.out; exact ⟨a, b⟩) (fun hHeld2 => ?_)
    clear hK K
    (try simp only [Act.put, List.setIfInBounds_toArray, List.set_cons_zero, List.set_cons_succ])
    have RX3 := Lib.hid (gave_row RX.out (by have := RX.out.len; have := HVL.out; omega)).1
    have HSj := Lib.hid (H3.out.store ⟨v, X, q⟩ HY.out RX3.out LOX.out)
    have HZj := Lib.hid (Box.but B3.out (But.set3 (But.refl k.q w3) (k.o + j * 3) (k.o + j * 3 + 1) (k.o + j * 3 + 2) (.int .i64 v.st) (.int .i64 v.fc) (.slice X v.data.length q)) hq.out)
    have HBj := Lib.hid (But.set3 (But.of_below (q := k.q) L3.out) (k.o + j * 3) (k.o + j * 3 + 1) (k.o + j * 3 + 2) (.int .i64 v.st) (.int .i64 v.fc) (.slice X v.data.length q))
    have RZ3 := Lib.hid (R.out.below L3.out)
    refine Reg.tk 15 rfl ?_
    refine Reg.tk 16 rfl ?_
    refine Reg.tk 17 rfl ?_
    refine Reg.tk 18 rfl ?_
    refine Reg.step 19 rfl (by kernel_rfl) (by rfl) (fun K hK => ?_)
    obtain ⟨a1, a2, ⟨a3, a4, a5⟩, a6, a7, a8⟩ := hcellj _ j y HY.out H3.out B3.out
    go_simp
    have RZ4 := Lib.hid (Row.setNot (Row.setNot (Row.setNot RZ3.out a3 (int_not _) (.int .i64 v.st)) ((World.cell?_setCell_other _ _ _ _ (by simp)).trans a4) (int_not _) (.int .i64 v.fc)) ((World.cell?_setCell_other _ _ _ _ (by simp)).trans ((World.cell?_setCell_other _ _ _ _ (by simp)).trans a5)) (slice_not _ _ _) (.slice X v.data.length q))
    refine hK.out _ _ ⟨HSj.out.cells.2.2.2.1, HZj.out.cells⟩ (fun hHeld2 => ?_)
    clear hK K
    (try simp only [Act.put, List.setIfInBounds_toArray, List.set_cons_zero, List.set_cons_succ])
    refine wpAnyH_done (by kernel_rfl) ?_ _
    clear a1 a2 a3 a4 a5 a6 a7 a8 hHeld hHeld2
    generalize ((w3.setCell ⟨k.q, k.o + j * 3, none⟩ (.int .i64 v.st)).setCell ⟨k.q, k.o + j * 3 + 1, none⟩ (.int .i64 v.fc)).setCell ⟨k.q, k.o + j * 3 + 2, none⟩ (.slice X v.data.length q) = w4 at *
    go_upto_region 6 with fail
    have H2 : Hid (Desk k (xs.set j ⟨v, X, q⟩) w4.drew) := HSj.out.below (Below.refl _ w4).drew
    have B2 : Hid (Box w4.drew w.heap.size z D c) := HZj
    have R2 : Hid (Row cb w4.drew D z.data.length c z.data) := RZ4.out.drew
    have U2 : Hid (But k.q w w4.drew) := HBj.out.trans (But.of_below (Below.refl _ w4).drew)
    obtain ⟨x2, hx2⟩ : ∃ x2, (xs.set j ⟨v, X, q⟩)[i]? = some x2 := ⟨_, List.getElem?_eq_getElem (by rw [List.length_set]; exact hxl)⟩
    clear HSj HZj HBj RZ4 RZ3 H3 B3 L3 RX RX3
    refine wp_region_held_drew (S := fun W => W.cell? ⟨k.g, 3, none⟩ = some (.slice (some ⟨k.q, k.o, none⟩) k.n k.c) ∧ (W.cell? ⟨w.heap.size, 0, none⟩ = some (.int .i64 z.st) ∧ W.cell? ⟨w.heap.size, 1, none⟩ = some (.int .i64 z.fc) ∧ W.cell? ⟨w.heap.size, 2, none⟩ = some (.slice D z.data.length c)))
      (by kernel_rfl) ⟨(hcell _ _ _ hx2 H2.out B2.out).1, (hcell _ _ _ hx2 H2.out B2.out).2.1⟩ (fun hHeld => ?_)
    generalize w4.drew = w2 at *
    have HS := Lib.hid (H2.out.store ⟨z, D, c⟩ hx2 R2.out hlo)
    have HZ := Lib.hid (Box.but B2.out (But.set3 (But.refl k.q w2) (k.o + i * 3) (k.o + i * 3 + 1) (k.o + i * 3 + 2) (.int .i64 z.st) (.int .i64 z.fc) (.slice D z.data.length c)) hq.out)
    have HB := Lib.hid (But.set3 U2.out (k.o + i * 3) (k.o + i * 3 + 1) (k.o + i * 3 + 2) (.int .i64 z.st) (.int .i64 z.fc) (.slice D z.data.length c))
    obtain ⟨d3, q0, q1, s0, s1, s2⟩ := hcell _ _ _ hx2 H2.out B2.out
    refine Reg.tk 0 rfl ?_
    refine Reg.tk 1 rfl ?_
    refine Reg.tk 2 rfl ?_
    refine Reg.tk 3 rfl ?_
    refine Reg.tk 4 rfl ?_
    refine Reg.tk 5 rfl ?_
    refine Reg.tk 6 rfl ?_
    refine Reg.tk 7 rfl ?_
    refine Reg.step 8 rfl (by kernel_rfl) (by rfl) (fun K hK => ?_)
    obtain ⟨g0, g1, g2⟩ := q1
    go_simp
    refine hK.out _ _ ⟨HS.out.cells.2.2.2.1, HZ.out.cells⟩ (fun hHeld2 => ?_)
    clear hK K
    (try simp only [Act.put, List.setIfInBounds_toArray, List.set_cons_zero, List.set_cons_succ])
    refine wpAnyH_done (by kernel_rfl) ?_ _
    clear d3 q0 g0 g1 g2 s0 s1 s2 hHeld hHeld2
    generalize ((w2.setCell ⟨k.q, k.o + i * 3, none⟩ (.int .i64 z.st)).setCell ⟨k.q, k.o + i * 3 + 1, none⟩ (.int .i64 z.fc)).setCell ⟨k.q, k.o + i * 3 + 2, none⟩ (.slice D z.data.length c) = w9 at *
    go_wp2_with fail
    go_ret
    exact ⟨_, rfl, HS.out, HMP.out X q, HB.out⟩
end Zns
end Go.Proofs.YtedandbkdjmfhaaGreat
