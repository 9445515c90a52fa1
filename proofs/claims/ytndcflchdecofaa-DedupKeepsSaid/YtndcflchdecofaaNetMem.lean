/-
  MESSAGES AND NETS: in plain, as values, in memory; rows of messages of one's own.
-/
import Derived.Test.YtndcflchdecofaaOwnO
import Derived.Test.YtndcflchdecofaaBox
import Derived.Test.YtndcflchdecofaaWireTakeMsg
import Derived.Lib.Hide
namespace Go.Proofs.Ytndcflchdecofaa
open Go.RowKit Mem Box
namespace Net
open Wire (B8)

/-- A message in plain. -/
structure Mp where
  k : Int
  f : Int
  t : Int
  i : Int
  a : List Int
  x : List B8
deriving DecidableEq
/-- A message in memory: where its numbers and its bytes lie. -/
structure Mx where
  k : Int
  f : Int
  t : Int
  i : Int
  A : Option Addr
  n : Nat
  c : Nat
  a : List Int
  B : Option Addr
  m : Nat
  d : Nat
  x : List B8
def Mx.p (x : Mx) : Mp := ⟨x.k, x.f, x.t, x.i, x.a, x.x⟩
def cellsM (x : Mx) : List Value := [.int .i64 x.k, .int .i64 x.f, .int .i64 x.t, .int .i64 x.i, .slice x.A x.n x.c, .slice x.B x.m x.d]
def mxv (x : Mx) : Value := .agg #[.int .i64 x.k, .int .i64 x.f, .int .i64 x.t, .int .i64 x.i, .slice x.A x.n x.c, .slice x.B x.m x.d]
/-- A net as a value. -/
def nv (cap : Nat) (Q : Option Addr) (n c : Nat) : Value := .agg #[.int .i64 (cap : Int), .slice Q n c]
theorem fitM : OwnS.Fit cellsM 6 := ⟨by omega, fun _ => rfl, fun x u hu => by
  simp [cellsM] at hu
  rcases hu with rfl | rfl | rfl | rfl | rfl | rfl <;> rfl⟩
theorem info_msg : (Try.prog.info? 33).map (fun i => (i.zero, i.size, i.bytes)) = some (some (.agg #[.int .i64 0, .int .i64 0, .int .i64 0, .int .i64 0, .slice none 0 0, .slice none 0 0]), 6, 80) := by kernel_rfl
/-- What any message of Go's meets: its numbers fit, it has no more of them than memory bears. -/
def Fits (p : Mp) : Prop := (∀ z ∈ [p.k, p.f, p.t, p.i], -9223372036854775808 ≤ z ∧ z < 9223372036854775808) ∧ (∀ z ∈ p.a, z < 9223372036854775808) ∧ p.a.length ≤ 17592186044416
structure MAt (w : World) (x : Mx) : Prop where
  ints : Row ci w x.A x.n x.c x.a
  text : Row cb w x.B x.m x.d x.x
  fits : Fits x.p
/-- Where a message's numbers and bytes lie. -/
def Bl (x : Mx) (k : Nat) : Prop := (0 < x.n ∧ ∃ o, x.A = some ⟨k, o, none⟩) ∨ (0 < x.m ∧ ∃ o, x.B = some ⟨k, o, none⟩)
section
variable {w w' : World} {x : Mx}
theorem MAt.below (h : MAt w x) (hb : Below w.heap.size w w') : MAt w' x := ⟨h.ints.below hb, h.text.below hb, h.fits⟩
theorem row_lt {α : Type} {f : α → Value} {A : Option Addr} {n c : Nat} {l : List α} (h : Row f w A n c l) {k o : Nat} (h0 : 0 < n) (e : A = some ⟨k, o, none⟩) : k < w.heap.size := by
  obtain ⟨b, o', e', hb, -⟩ := h.at_ h0
  rw [e] at e'
  injection e' with e'
  injection e' with e'
  omega
theorem row_keep {α : Type} {f : α → Value} {A : Option Addr} {n c : Nat} {l : List α} (h : Row f w A n c l) (hs : w.heap.size ≤ w'.heap.size) (hb : ∀ k o, 0 < n → A = some ⟨k, o, none⟩ → w'.heap[k]? = w.heap[k]?) : Row f w' A n c l := by
  refine ⟨h.len, h.cap, h.big, fun h0 => ?_⟩
  obtain ⟨b, o, e, hlt, hc⟩ := h.at_ h0
  refine ⟨b, o, e, Nat.lt_of_lt_of_le hlt hs, fun i x hi => ?_⟩
  rw [World.cell?_of_block (w := w) (hb b o h0 e)]
  exact hc i x hi
theorem MAt.lt (h : MAt w x) {k : Nat} (hb : Bl x k) : k < w.heap.size := by
  rcases hb with ⟨h0, o, e⟩ | ⟨h0, o, e⟩
  · exact row_lt h.ints h0 e
  · exact row_lt h.text h0 e
theorem MAt.keepB (h : MAt w x) (hs : w.heap.size ≤ w'.heap.size) (hb : ∀ k, Bl x k → w'.heap[k]? = w.heap[k]?) : MAt w' x :=
  ⟨row_keep h.ints hs fun k o h0 e => hb k (.inl ⟨h0, o, e⟩), row_keep h.text hs fun k o h0 e => hb k (.inr ⟨h0, o, e⟩), h.fits⟩
end
/-- No block of the message lies below lo. -/
def New (lo : Nat) (x : Mx) : Prop := ∀ k, Bl x k → lo ≤ k
theorem New.mono {lo lo' : Nat} {x : Mx} (h : New lo x) (hl : lo' ≤ lo) : New lo' x := fun k hk => Nat.le_trans hl (h k hk)
theorem new_zero (x : Mx) : New 0 x := fun _ _ => Nat.zero_le _

/-- A row of messages. -/
structure NetAt (w : World) (Q : Option Addr) (n c : Nat) (l : List Mx) : Prop where
  row : RowS cellsM 6 w Q n c l
  at_ : ∀ x ∈ l, MAt w x
section
variable {w w' : World} {Q : Option Addr} {n c : Nat} {l : List Mx}
theorem NetAt.below (h : NetAt w Q n c l) (hb : Below w.heap.size w w') : NetAt w' Q n c l := ⟨h.row.below hb, fun x hx => (h.at_ x hx).below hb⟩
theorem NetAt.nil (w : World) : NetAt w none 0 0 [] := ⟨RowS.nil _ _ _, by simp⟩
theorem NetAt.get (h : NetAt w Q n c l) {i : Nat} (hi : i < n) : ∃ x, l[i]? = some x ∧ MAt w x := by
  obtain ⟨x, hx⟩ := h.row.get hi
  exact ⟨x, hx, h.at_ x (List.mem_of_getElem? hx)⟩
/-- An element's cells. -/
theorem NetAt.cells (h : NetAt w Q n c l) {i : Nat} {x : Mx} (hx : l[i]? = some x) : ∃ b o, Q = some ⟨b, o, none⟩ ∧ b < w.heap.size ∧ ∀ W : World, Below w.heap.size w W →
    W.cell? ⟨b, o + i * 6, none⟩ = some (.int .i64 x.k) ∧ W.cell? ⟨b, o + i * 6 + 1, none⟩ = some (.int .i64 x.f) ∧ W.cell? ⟨b, o + i * 6 + 2, none⟩ = some (.int .i64 x.t) ∧ W.cell? ⟨b, o + i * 6 + 3, none⟩ = some (.int .i64 x.i) ∧
    W.cell? ⟨b, o + i * 6 + 4, none⟩ = some (.slice x.A x.n x.c) ∧ W.cell? ⟨b, o + i * 6 + 5, none⟩ = some (.slice x.B x.m x.d) := by
  obtain ⟨b, o, e, hb, hc⟩ := h.row.elem hx
  refine ⟨b, o, e, hb, fun W hW => ?_⟩
  have hh := hc W (hW.block b hb)
  exact ⟨hh 0 _ rfl, hh 1 _ rfl, hh 2 _ rfl, hh 3 _ rfl, hh 4 _ rfl, hh 5 _ rfl⟩
end
/-- A row of messages of one's own; lo: where their numbers and bytes begin to lie. -/
structure OwnN (lo base : Nat) (w : World) (s : Value) (n : Nat) (l : List Mx) : Prop where
  own : OwnS.Owns cellsM 6 33 base w s n l
  at_ : ∀ x ∈ l, MAt w x
  low : ∀ x ∈ l, New lo x
  ap : ∀ x ∈ l, ∀ k, Bl x k → s.ownBlock ≠ some k
section
variable {lo base : Nat} {w w' : World} {s s' : Value} {n m : Nat} {l l' : List Mx}
theorem OwnN.nil (lo base : Nat) (w : World) : OwnN lo base w (.slice none 0 0) 0 [] := ⟨OwnS.Owns.nil _ _ _ _ _, by simp, by simp, by simp⟩
theorem OwnN.below (h : OwnN lo base w s n l) (hb : Below w.heap.size w w') : OwnN lo base w' s n l := ⟨h.own.below hb, fun x hx => (h.at_ x hx).below hb, h.low, h.ap⟩
theorem OwnN.alloc (h : OwnN lo base w s n l) (o : Obj) : OwnN lo base (w.alloc o) s n l := h.below ((Below.refl _ w).alloc (Nat.le_refl _) o)
theorem OwnN.len (h : OwnN lo base w s n l) : l.length = n := h.own.2
theorem OwnN.grown_at (h : OwnN lo base w s n l) (hg : w.grownBy w' s.ownBlock) : ∀ x ∈ l, MAt w' x := fun x hx =>
  (h.at_ x hx).keepB hg.size fun k hk => hg.block k ((h.at_ x hx).lt hk) (fun e => h.ap x hx k hk e.symm)
/-- Messages appended. -/
theorem OwnN.more (h : OwnN lo base w s n l) (ho : OwnS.Owns cellsM 6 33 base w' s' (n + m) (l ++ l')) (hg : w.grownBy w' s.ownBlock) (hn : s'.ownBlock = s.ownBlock ∨ s'.ownBlock = some w.heap.size)
    (hx : ∀ y ∈ l', MAt w y ∧ New lo y ∧ ∀ k, Bl y k → s.ownBlock ≠ some k) : OwnN lo base w' s' (n + m) (l ++ l') := by
  have both : ∀ y ∈ l ++ l', MAt w y ∧ New lo y ∧ ∀ k, Bl y k → s.ownBlock ≠ some k := fun y hy => by
    rcases List.mem_append.1 hy with hy | hy
    · exact ⟨h.at_ y hy, h.low y hy, h.ap y hy⟩
    · exact hx y hy
  refine ⟨ho, fun y hy => ?_, fun y hy => (both y hy).2.1, fun y hy k hk => ?_⟩
  · obtain ⟨h1, -, h3⟩ := both y hy
    exact h1.keepB hg.size fun k hk => hg.block k (h1.lt hk) (fun e => h3 k hk e.symm)
  · obtain ⟨h1, -, h3⟩ := both y hy
    rcases hn with hn | hn
    · rw [hn]; exact h3 k hk
    · rw [hn]
      intro e
      injection e with e
      have := h1.lt hk
      omega
theorem OwnN.net {A : Option Addr} {c : Nat} (h : OwnN lo base w (.slice A n c) n l) (hn : n ≤ 140737488351232) : NetAt w A n c l := ⟨h.own.row fitM hn, h.at_⟩
theorem OwnN.lower {lo' : Nat} (h : OwnN lo base w s n l) (hl : lo' ≤ lo) : OwnN lo' base w s n l := ⟨h.own, h.at_, fun x hx => (h.low x hx).mono hl, h.ap⟩
theorem OwnN.base_ (h : OwnN lo base w s n l) {base' : Nat} (hb : base' ≤ base) : OwnN lo base' w s n l := ⟨⟨⟨h.own.1.1, by
  rcases h.own.1.2 with hn | ⟨g, cap, cur, e', hbg, r⟩
  · exact .inl hn
  · exact .inr ⟨g, cap, cur, e', Nat.le_trans hb hbg, r⟩⟩, h.own.2⟩, h.at_, h.low, h.ap⟩
end
/-! ### Boxes beside a row of one's own -/
theorem own_ne {α : Type} {cells : α → List Value} {k : Nat} {e : TypeId} {base : Nat} {w : World} {s : Value} {n : Nat} {l : List α} (h : OwnS.Owns cells k e base w s n l) {g : Nat} {t : TypeId} {cs : Array Value} (hc : Cells w g t cs) (hne : e ≠ t) : s.ownBlock ≠ some g := by
  rcases h.1.2 with ⟨rfl, -⟩ | ⟨q, cap, cur, rfl, -, hq, -⟩
  · simp [Value.ownBlock]
  · intro e1
    have e2 : q = g := by simpa [Value.ownBlock] using e1
    exact Cells.ne (show Cells w q e cur from hq) hc hne e2
theorem cells_grown {w w' : World} {g : Nat} {t : TypeId} {cs : Array Value} {row : Option Nat} (h : Cells w g t cs) (hg : w.grownBy w' row) (hr : row ≠ some g) : Cells w' g t cs := (hg.block g h.lt (fun e => hr e.symm)).trans h
/-- A row of one's own stays where a box of another type is written to. -/
theorem OwnN.mov {lo base : Nat} {w w' : World} {s : Value} {n : Nat} {l : List Mx} (h : OwnN lo base w s n l) {g : Nat} {t : TypeId} {cs : Array Value} (hg : Cells w g t cs) (ht : 33 ≠ t) (hb : ∀ x ∈ l, ∀ k, Bl x k → k ≠ g) (hm : Mov [g] w w') : OwnN lo base w' s n l := by
  refine ⟨⟨⟨h.own.1.1, ?_⟩, h.own.2⟩, fun x hx => (h.at_ x hx).keepB hm.size fun k hk => hm.block k ((h.at_ x hx).lt hk) (by simpa using hb x hx k hk), h.low, h.ap⟩
  rcases h.own.1.2 with hn | ⟨k, cap, cur, e1, hbk, hk, r⟩
  · exact .inl hn
  · have hck : Cells w k _ cur := hk
    exact .inr ⟨k, cap, cur, e1, hbk, (hm.block k hck.lt (by simpa using hck.ne hg ht)).trans hk, r⟩
theorem OwnN.mov_ {lo base : Nat} {w w' : World} {s : Value} {n : Nat} {l : List Mx} (h : OwnN lo base w s n l) {g : Nat} (hne : s.ownBlock ≠ some g) (hb : ∀ x ∈ l, ∀ k, Bl x k → k ≠ g) (hm : Mov [g] w w') : OwnN lo base w' s n l := by
  refine ⟨⟨⟨h.own.1.1, ?_⟩, h.own.2⟩, fun x hx => (h.at_ x hx).keepB hm.size fun k hk => hm.block k ((h.at_ x hx).lt hk) (by simpa using hb x hx k hk), h.low, h.ap⟩
  rcases h.own.1.2 with hn | ⟨k, cap, cur, e1, hbk, hk, r⟩
  · exact .inl hn
  · have hck : Cells w k _ cur := hk
    refine .inr ⟨k, cap, cur, e1, hbk, (hm.block k hck.lt ?_).trans hk, r⟩
    have : k ≠ g := fun e => hne (by rw [e1, e]; rfl)
    simpa using this
/-- One message that was just laid. -/
theorem one_msg (w : World) (x : Mx) : RowS cellsM 6 (w.alloc (.cells #[.int .i64 x.k, .int .i64 x.f, .int .i64 x.t, .int .i64 x.i, .slice x.A x.n x.c, .slice x.B x.m x.d] 33)) (some ⟨w.heap.size, 0, none⟩) 1 1 [x] := by
  have hc := Cells.new w #[.int .i64 x.k, .int .i64 x.f, .int .i64 x.t, .int .i64 x.i, .slice x.A x.n x.c, .slice x.B x.m x.d] 33
  refine ⟨rfl, by omega, by omega, fun _ => ⟨_, _, rfl, hc.lt, fun i y hy j u hu => ?_⟩⟩
  have hi : i = 0 := by have := (List.getElem?_eq_some_iff.1 hy).1; simpa using this
  subst hi
  simp at hy
  subst hy
  rw [show 0 + 0 * 6 + j = j by omega, hc.cell]
  simpa [cellsM] using hu
/-- What a call gave: a message of its own. -/
def GaveX (w : World) (p : Mp) (e : Ending) (w' : World) : Prop := ∃ y, e = .returned (mxv y) ∧ y.p = p ∧ MAt w' y ∧ New w.heap.size y ∧ Below w.heap.size w w' ∧ Owns cb 5 w.heap.size w' (.slice y.B y.m y.d) y.m y.x
/-- .. a net of its own; a net of its own and a number. -/
def GaveN (w : World) (cap : Nat) (pl : List Mp) (e : Ending) (w' : World) : Prop :=
  ∃ Q n c l, e = .returned (nv cap Q n c) ∧ OwnN w.heap.size w.heap.size w' (.slice Q n c) n l ∧ l.map Mx.p = pl ∧ Below w.heap.size w w'
def GaveN1 (w : World) (cap : Nat) (pl : List Mp) (v : Int) (e : Ending) (w' : World) : Prop :=
  ∃ Q n c l, e = .returned (.tuple #[nv cap Q n c, .int .i64 v]) ∧ OwnN w.heap.size w.heap.size w' (.slice Q n c) n l ∧ l.map Mx.p = pl ∧ Below w.heap.size w w'
end Net
end Go.Proofs.Ytndcflchdecofaa
