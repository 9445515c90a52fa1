/-
  WHAT WAS ANSWERED, IN MEMORY: answers, those who asked, lists of them; of one's own, and any.
-/
import Derived.Test.YtndcflchdecofaaDedPlain
import Derived.Test.YtndcflchdecofaaOwnW
import Derived.Test.YtndcflchdecofaaNetClone
namespace Go.Proofs.Ytndcflchdecofaa
open Go.RowKit Mem Box
namespace Ded
open Net (Mp Mx MAt cellsM mxv Fits)

structure Dx where
  id : Int
  m : Mx
structure Sx where
  f : Int
  b : Int
  A : Option Addr
  n : Nat
  c : Nat
  l : List Dx
def Dx.p (x : Dx) : Dp := ⟨x.id, x.m.p⟩
def Sx.p (x : Sx) : Sp := ⟨x.f, x.b, x.l.map Dx.p⟩
def cellsD (x : Dx) : List Value := .int .i64 x.id :: cellsM x.m
def cellsS (x : Sx) : List Value := [.int .i64 x.f, .int .i64 x.b, .slice x.A x.n x.c]
def dxv (x : Dx) : Value := .agg #[.int .i64 x.id, .int .i64 x.m.k, .int .i64 x.m.f, .int .i64 x.m.t, .int .i64 x.m.i, .slice x.m.A x.m.n x.m.c, .slice x.m.B x.m.m x.m.d]
def sxv (x : Sx) : Value := .agg #[.int .i64 x.f, .int .i64 x.b, .slice x.A x.n x.c]
theorem fitD : OwnS.Fit cellsD 7 := ⟨by omega, fun _ => rfl, fun x u hu => by
  simp [cellsD, cellsM] at hu
  rcases hu with rfl | rfl | rfl | rfl | rfl | rfl | rfl <;> rfl⟩
theorem fitS : OwnS.Fit cellsS 3 := ⟨by omega, fun _ => rfl, fun x u hu => by
  simp [cellsS] at hu
  rcases hu with rfl | rfl | rfl <;> rfl⟩
theorem info_said : (Try.prog.info? 56).map (fun i => (i.zero, i.size, i.bytes)) = some (some (.agg #[.int .i64 0, .int .i64 0, .int .i64 0, .int .i64 0, .int .i64 0, .slice none 0 0, .slice none 0 0]), 7, 88) := by kernel_rfl
theorem info_seen : (Try.prog.info? 51).map (fun i => (i.zero, i.size, i.bytes)) = some (some (.agg #[.int .i64 0, .int .i64 0, .slice none 0 0]), 3, 40) := by kernel_rfl

/-! ### Any -/
structure SaidAt (w : World) (A : Option Addr) (n c : Nat) (l : List Dx) : Prop where
  row : RowS cellsD 7 w A n c l
  at_ : ∀ d ∈ l, MAt w d.m
def SeenAt (w : World) (x : Sx) : Prop := SaidAt w x.A x.n x.c x.l
structure ListAt (w : World) (A : Option Addr) (n c : Nat) (l : List Sx) : Prop where
  row : RowS cellsS 3 w A n c l
  at_ : ∀ x ∈ l, SeenAt w x
section
variable {w w' : World} {A : Option Addr} {n c : Nat}
theorem SaidAt.below {l : List Dx} (h : SaidAt w A n c l) (hb : Below w.heap.size w w') : SaidAt w' A n c l := ⟨h.row.below hb, fun x hx => (h.at_ x hx).below hb⟩
theorem SeenAt.below {x : Sx} (h : SeenAt w x) (hb : Below w.heap.size w w') : SeenAt w' x := SaidAt.below h hb
theorem ListAt.below {l : List Sx} (h : ListAt w A n c l) (hb : Below w.heap.size w w') : ListAt w' A n c l := ⟨h.row.below hb, fun x hx => (h.at_ x hx).below hb⟩
theorem SaidAt.nil (w : World) : SaidAt w none 0 0 [] := ⟨RowS.nil _ _ _, by simp⟩
theorem ListAt.nil (w : World) : ListAt w none 0 0 [] := ⟨RowS.nil _ _ _, by simp⟩
theorem SaidAt.get {l : List Dx} (h : SaidAt w A n c l) {i : Nat} (hi : i < n) : ∃ x, l[i]? = some x ∧ MAt w x.m := by
  obtain ⟨x, hx⟩ := h.row.get hi
  exact ⟨x, hx, h.at_ x (List.mem_of_getElem? hx)⟩
theorem ListAt.get {l : List Sx} (h : ListAt w A n c l) {i : Nat} (hi : i < n) : ∃ x, l[i]? = some x ∧ SeenAt w x := by
  obtain ⟨x, hx⟩ := h.row.get hi
  exact ⟨x, hx, h.at_ x (List.mem_of_getElem? hx)⟩
theorem ListAt.cells {l : List Sx} (h : ListAt w A n c l) {i : Nat} {x : Sx} (hx : l[i]? = some x) : ∃ b o, A = some ⟨b, o, none⟩ ∧ b < w.heap.size ∧ ∀ W : World, Below w.heap.size w W →
    W.cell? ⟨b, o + i * 3, none⟩ = some (.int .i64 x.f) ∧ W.cell? ⟨b, o + i * 3 + 1, none⟩ = some (.int .i64 x.b) ∧ W.cell? ⟨b, o + i * 3 + 2, none⟩ = some (.slice x.A x.n x.c) := by
  obtain ⟨b, o, e, hb, hc⟩ := h.row.elem hx
  refine ⟨b, o, e, hb, fun W hW => ?_⟩
  have hh := hc W (hW.block b hb)
  exact ⟨hh 0 _ rfl, hh 1 _ rfl, hh 2 _ rfl⟩
def seven (W : World) (b o : Nat) (x : Dx) : Prop :=
  W.cell? ⟨b, o, none⟩ = some (.int .i64 x.id) ∧ W.cell? ⟨b, o + 1, none⟩ = some (.int .i64 x.m.k) ∧ W.cell? ⟨b, o + 2, none⟩ = some (.int .i64 x.m.f) ∧ W.cell? ⟨b, o + 3, none⟩ = some (.int .i64 x.m.t) ∧ W.cell? ⟨b, o + 4, none⟩ = some (.int .i64 x.m.i) ∧
    W.cell? ⟨b, o + 5, none⟩ = some (.slice x.m.A x.m.n x.m.c) ∧ W.cell? ⟨b, o + 6, none⟩ = some (.slice x.m.B x.m.m x.m.d)
theorem SaidAt.cells {l : List Dx} (h : SaidAt w A n c l) {i : Nat} {x : Dx} (hx : l[i]? = some x) : ∃ b o, A = some ⟨b, o, none⟩ ∧ b < w.heap.size ∧ ∀ W : World, Below w.heap.size w W → seven W b (o + i * 7) x := by
  obtain ⟨b, o, e, hb, hc⟩ := h.row.elem hx
  refine ⟨b, o, e, hb, fun W hW => ?_⟩
  have hh := hc W (hW.block b hb)
  exact ⟨hh 0 _ rfl, hh 1 _ rfl, hh 2 _ rfl, hh 3 _ rfl, hh 4 _ rfl, hh 5 _ rfl, hh 6 _ rfl⟩
end
/-! ### Of one's own -/
structure OwnM (base : Nat) (w : World) (m : Mx) : Prop where
  ints : Mem.Owns ci 3 base w (.slice m.A m.n m.c) m.n m.a
  text : Mem.Owns cb 5 base w (.slice m.B m.m m.d) m.m m.x
  fits : Fits m.p
  few : m.m ≤ 140737488351232
structure OwnD (base : Nat) (w : World) (A : Option Addr) (n c : Nat) (l : List Dx) : Prop where
  own : OwnS.Owns cellsD 7 56 base w (.slice A n c) n l
  at_ : ∀ d ∈ l, OwnM base w d.m
def OwnX (base : Nat) (w : World) (x : Sx) : Prop := OwnD base w x.A x.n x.c x.l
def Sx.ob (x : Sx) : Option Nat := (Value.slice x.A x.n x.c).ownBlock
def Apart (x y : Sx) : Prop := x.ob = none ∨ x.ob ≠ y.ob
structure OwnL (base : Nat) (w : World) (A : Option Addr) (n c : Nat) (l : List Sx) : Prop where
  own : OwnS.Owns cellsS 3 51 base w (.slice A n c) n l
  at_ : ∀ x ∈ l, OwnX base w x
  pw : l.Pairwise Apart
section
variable {base : Nat} {w w' : World} {A : Option Addr} {n c : Nat}
theorem OwnM.below {m : Mx} (h : OwnM base w m) (hb : Below w.heap.size w w') : OwnM base w' m := ⟨h.ints.below hb, h.text.below hb, h.fits, h.few⟩
theorem OwnM.mono {base' : Nat} {m : Mx} (h : OwnM base w m) (hb : base' ≤ base) : OwnM base' w m := ⟨h.ints.mono hb, h.text.mono hb, h.fits, h.few⟩
theorem OwnM.chg {m : Mx} {t : TypeId} {r : Option Nat} (h : OwnM base w m) (hc : Chg t r w w') (h1 : 3 ≠ t) (h2 : 5 ≠ t) : OwnM base w' m := ⟨hc.ownI h.ints h1, hc.ownI h.text h2, h.fits, h.few⟩
theorem OwnM.at_ {m : Mx} (h : OwnM base w m) : MAt w m := (Net.made_msg (k := m.k) (f := m.f) (t := m.t) (i := m.i) h.ints h.text h.fits h.few).1
theorem OwnD.below {l : List Dx} (h : OwnD base w A n c l) (hb : Below w.heap.size w w') : OwnD base w' A n c l := ⟨h.own.below hb, fun d hd => (h.at_ d hd).below hb⟩
theorem OwnD.mono {base' : Nat} {l : List Dx} (h : OwnD base w A n c l) (hb : base' ≤ base) : OwnD base' w A n c l := ⟨h.own.mono hb, fun d hd => (h.at_ d hd).mono hb⟩
/-- A row of those who asked is written to. -/
theorem OwnD.seen {l : List Dx} {r : Option Nat} (h : OwnD base w A n c l) (hc : Chg 51 r w w') : OwnD base w' A n c l := ⟨hc.owns h.own (by decide), fun d hd => (h.at_ d hd).chg hc (by decide) (by decide)⟩
/-- Another row of answers is. -/
theorem OwnD.said {l : List Dx} {r : Option Nat} (h : OwnD base w A n c l) (hc : Chg 56 r w w') (hn : (Value.slice A n c).ownBlock = none ∨ (Value.slice A n c).ownBlock ≠ r) : OwnD base w' A n c l := ⟨hc.owns_ne h.own hn, fun d hd => (h.at_ d hd).chg hc (by decide) (by decide)⟩
theorem OwnD.any {l : List Dx} (h : OwnD base w A n c l) (hn : n ≤ 140737488351232) : SaidAt w A n c l := ⟨h.own.row fitD hn, fun d hd => (h.at_ d hd).at_⟩
theorem OwnD.nil (base : Nat) (w : World) : OwnD base w none 0 0 [] := ⟨OwnS.Owns.nil _ _ _ _ _, by simp⟩
theorem OwnL.below {l : List Sx} (h : OwnL base w A n c l) (hb : Below w.heap.size w w') : OwnL base w' A n c l := ⟨h.own.below hb, fun x hx => (h.at_ x hx).below hb, h.pw⟩
theorem OwnL.any {l : List Sx} (h : OwnL base w A n c l) (hn : n ≤ 140737488351232) (hm : ∀ x ∈ l, x.n ≤ 140737488351232) : ListAt w A n c l := ⟨h.own.row fitS hn, fun x hx => (h.at_ x hx).any (hm x hx)⟩
theorem OwnL.nil (base : Nat) (w : World) : OwnL base w none 0 0 [] := ⟨OwnS.Owns.nil _ _ _ _ _, by simp, by simp⟩
end
/-! ### Boxes -/
abbrev DBox (w : World) (g : Nat) (x : Dx) : Prop := Cells w g 56 #[.int .i64 x.id, .int .i64 x.m.k, .int .i64 x.m.f, .int .i64 x.m.t, .int .i64 x.m.i, .slice x.m.A x.m.n x.m.c, .slice x.m.B x.m.m x.m.d]
abbrev SBox (w : World) (g : Nat) (x : Sx) : Prop := Cells w g 51 #[.int .i64 x.f, .int .i64 x.b, .slice x.A x.n x.c]
def s0 : Sx := ⟨0, 0, none, 0, 0, []⟩
def x0 : Mx := ⟨0, 0, 0, 0, none, 0, 0, [], none, 0, 0, []⟩
theorem own0 (base : Nat) (w : World) : OwnM base w x0 := ⟨Mem.Owns.nil _ _ _ _, Mem.Owns.nil _ _ _ _, ⟨by intro z hz; simp [x0, Mx.p] at hz; omega, by simp [x0, Mx.p], by simp [x0, Mx.p]⟩, by simp [x0]⟩
theorem at0 (w : World) : MAt w x0 := (own0 0 w).at_
section
variable {w : World} {g : Nat}
theorem SBox.cells {x : Sx} (h : SBox w g x) : w.cell? ⟨g, 0, none⟩ = some (.int .i64 x.f) ∧ w.cell? ⟨g, 1, none⟩ = some (.int .i64 x.b) ∧ w.cell? ⟨g, 2, none⟩ = some (.slice x.A x.n x.c) := ⟨Cells.cell h 0, Cells.cell h 1, Cells.cell h 2⟩
theorem DBox.cells {x : Dx} (h : DBox w g x) : seven w g 0 x := ⟨Cells.cell h 0, Cells.cell h 1, Cells.cell h 2, Cells.cell h 3, Cells.cell h 4, Cells.cell h 5, Cells.cell h 6⟩
theorem three_free {t : TypeId} {cs : Array Value} (h : Cells w g t cs) : w.frozen? ⟨g, 0, none⟩ = false ∧ w.frozen? ⟨g, 1, none⟩ = false ∧ w.frozen? ⟨g, 2, none⟩ = false := ⟨h.frozen 0, h.frozen 1, h.frozen 2⟩
end
theorem Cells.set3 {w : World} {g : Nat} {t : TypeId} {a b c : Value} (h : Cells w g t #[a, b, c]) (x y z : Value) : Cells (((w.setCell ⟨g, 0, none⟩ x).setCell ⟨g, 1, none⟩ y).setCell ⟨g, 2, none⟩ z) g t #[x, y, z] := by
  simpa using ((h.set_ 0 x).set_ 1 y).set_ 2 z
theorem Mov.set3 (w : World) (g : Nat) (x y z : Value) : Mov [g] w (((w.setCell ⟨g, 0, none⟩ x).setCell ⟨g, 1, none⟩ y).setCell ⟨g, 2, none⟩ z) :=
  ((Mov.set1 w (by simp) 0 x).trans (Mov.set1 _ (by simp) 1 y) (fun _ h => .inl h)).trans (Mov.set1 _ (by simp) 2 z) (fun _ h => .inl h)
/-- What a call gave: one who asked, of its own. -/
def GaveS (w : World) (p : Sp) (e : Ending) (w' : World) : Prop := ∃ y, e = .returned (sxv y) ∧ y.p = p ∧ OwnX w.heap.size w' y ∧ Below w.heap.size w w'
end Ded
end Go.Proofs.Ytndcflchdecofaa
