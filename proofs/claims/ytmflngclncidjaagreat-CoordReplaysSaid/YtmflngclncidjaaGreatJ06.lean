/-
  SEVERAL TEXTS IN ONE FILE: CooBox, CooActs, LeaMay, SortLay.
-/
import Derived.Test.YtmflngclncidjaaGreatJ05
import Derived.Maps.OwnOps
import Derived.Test.YtmflngclncidjaaGreatJ04
import Derived.Test.YtmflngclncidjaaGreatRows
import Derived.Shelf.Sort.Plain
import Derived.Shelf.Slices.CompactI
/-
  COORDINATORS, EVENTS, ANSWERS IN MEMORY; a desk that has its rows for its own, and what may change while it works.
-/
namespace Go.Proofs.YtmflngclncidjaaGreat
open Go.RowKit Mem
namespace Coo
open Lea (Cells But OneBox Lv Tv)
open Spa (Sp)

/-- A coordinator as it lies: what it is, where its rows lie. -/
structure Cx where
  p : Cv
  A : Option Addr
  n : Nat
  a : Nat
  S : Option Addr
  m : Nat
  s : Nat
  W : Option Addr
  q : Nat
  k : Nat
abbrev cs7 (x : Cx) : Array Value := #[.int .i64 x.p.t.last, .int .i64 x.p.t.now, .slice x.A x.n x.a, .slice x.S x.m x.s, .slice x.W x.q x.k, .int .i64 x.p.ttl, .int .i64 x.p.zones]
abbrev cxv (x : Cx) : Value := .agg #[.int .i64 x.p.t.last, .int .i64 x.p.t.now, .slice x.A x.n x.a, .slice x.S x.m x.s, .slice x.W x.q x.k, .int .i64 x.p.ttl, .int .i64 x.p.zones]
structure CoordAt (w : World) (x : Cx) : Prop where
  l : Lea.RowL w x.A x.n x.a x.p.t.l
  s : Spa.RowL w x.S x.m x.s x.p.s
  f : RowF w x.W x.q x.k x.p.wt
theorem CoordAt.below {w w' : World} {x : Cx} (h : CoordAt w x) (hb : Below w.heap.size w w') : CoordAt w' x := ⟨RowS.below h.l hb, RowS.below h.s hb, RowS.below h.f hb⟩
abbrev CBox (w : World) (g : Nat) (x : Cx) : Prop := Cells w g 31 (cs7 x)
abbrev KBox (w : World) (g : Nat) (x : Cx) : Prop := Cells w g 86 (cs7 x)
theorem seven {w : World} {g : Nat} {t : TypeId} {x : Cx} (h : Cells w g t (cs7 x)) : w.cell? ⟨g, 0, none⟩ = some (.int .i64 x.p.t.last) ∧ w.cell? ⟨g, 1, none⟩ = some (.int .i64 x.p.t.now) ∧ w.cell? ⟨g, 2, none⟩ = some (.slice x.A x.n x.a) ∧ w.cell? ⟨g, 3, none⟩ = some (.slice x.S x.m x.s) ∧ w.cell? ⟨g, 4, none⟩ = some (.slice x.W x.q x.k) ∧ w.cell? ⟨g, 5, none⟩ = some (.int .i64 x.p.ttl) ∧ w.cell? ⟨g, 6, none⟩ = some (.int .i64 x.p.zones) :=
  ⟨Cells.cell h 0, Cells.cell h 1, Cells.cell h 2, Cells.cell h 3, Cells.cell h 4, Cells.cell h 5, Cells.cell h 6⟩
theorem seven_frozen {w : World} {g : Nat} {t : TypeId} {cs : Array Value} (h : Cells w g t cs) : w.frozen? ⟨g, 0, none⟩ = false ∧ w.frozen? ⟨g, 1, none⟩ = false ∧ w.frozen? ⟨g, 2, none⟩ = false ∧ w.frozen? ⟨g, 3, none⟩ = false ∧ w.frozen? ⟨g, 4, none⟩ = false ∧ w.frozen? ⟨g, 5, none⟩ = false ∧ w.frozen? ⟨g, 6, none⟩ = false :=
  ⟨Cells.frozen h 0, Cells.frozen h 1, Cells.frozen h 2, Cells.frozen h 3, Cells.frozen h 4, Cells.frozen h 5, Cells.frozen h 6⟩
/-- An event. -/
abbrev evv (e : Ev) : Value := .agg #[.int .i64 e.d, .int .i64 e.host, .int .i64 e.zone, .int .i64 e.epoch, .int .i64 e.fr, .int .i64 e.to, .int .i64 e.now, .int .i64 e.key]
abbrev cs8 (e : Ev) : Array Value := #[.int .i64 e.d, .int .i64 e.host, .int .i64 e.zone, .int .i64 e.epoch, .int .i64 e.fr, .int .i64 e.to, .int .i64 e.now, .int .i64 e.key]
def cellsE (e : Ev) : List Value := [.int .i64 e.d, .int .i64 e.host, .int .i64 e.zone, .int .i64 e.epoch, .int .i64 e.fr, .int .i64 e.to, .int .i64 e.now, .int .i64 e.key]
abbrev EBox (w : World) (g : Nat) (e : Ev) : Prop := Cells w g 36 (cs8 e)
theorem EBox.cells {w : World} {g : Nat} {e : Ev} (h : EBox w g e) : w.cell? ⟨g, 0, none⟩ = some (.int .i64 e.d) ∧ w.cell? ⟨g, 1, none⟩ = some (.int .i64 e.host) ∧ w.cell? ⟨g, 2, none⟩ = some (.int .i64 e.zone) ∧ w.cell? ⟨g, 3, none⟩ = some (.int .i64 e.epoch) ∧ w.cell? ⟨g, 4, none⟩ = some (.int .i64 e.fr) ∧ w.cell? ⟨g, 5, none⟩ = some (.int .i64 e.to) ∧ w.cell? ⟨g, 6, none⟩ = some (.int .i64 e.now) ∧ w.cell? ⟨g, 7, none⟩ = some (.int .i64 e.key) :=
  ⟨Cells.cell h 0, Cells.cell h 1, Cells.cell h 2, Cells.cell h 3, Cells.cell h 4, Cells.cell h 5, Cells.cell h 6, Cells.cell h 7⟩
/-- An answer. -/
abbrev anv (e ep : Int) (B : Option Addr) (n d : Nat) : Value := .agg #[.int .i64 e, .int .i64 ep, .slice B n d]
abbrev ABox (w : World) (g : Nat) (e ep : Int) (B : Option Addr) (n d : Nat) : Prop := Cells w g 39 #[.int .i64 e, .int .i64 ep, .slice B n d]
theorem ABox.cells {w : World} {g : Nat} {e ep : Int} {B : Option Addr} {n d : Nat} (h : ABox w g e ep B n d) : w.cell? ⟨g, 0, none⟩ = some (.int .i64 e) ∧ w.cell? ⟨g, 1, none⟩ = some (.int .i64 ep) ∧ w.cell? ⟨g, 2, none⟩ = some (.slice B n d) :=
  ⟨Cells.cell h 0, Cells.cell h 1, Cells.cell h 2⟩
theorem ABox.frozen {w : World} {g : Nat} {e ep : Int} {B : Option Addr} {n d : Nat} (h : ABox w g e ep B n d) : w.frozen? ⟨g, 0, none⟩ = false ∧ w.frozen? ⟨g, 1, none⟩ = false ∧ w.frozen? ⟨g, 2, none⟩ = false :=
  ⟨Cells.frozen h 0, Cells.frozen h 1, Cells.frozen h 2⟩
theorem ABox.store {w : World} {g : Nat} {e0 ep0 : Int} {B0 : Option Addr} {n0 d0 : Nat} (h : ABox w g e0 ep0 B0 n0 d0) (e ep : Int) (B : Option Addr) (n d : Nat) : ABox (((w.setCell ⟨g, 0, none⟩ (.int .i64 e)).setCell ⟨g, 1, none⟩ (.int .i64 ep)).setCell ⟨g, 2, none⟩ (.slice B n d)) g e ep B n d :=
  Lea.Cells.set3 h _ _ _

/-! ### Whose block is whose -/
theorem own_ne {base : Nat} {w : World} {e : TypeId} {k : Nat} {s : Value} {n : Nat} {xs : List Value} {p : Nat} {t : TypeId} {cs : Array Value} (h : w.ownsRow base e k s n xs) (hc : Cells w p t cs) (ht : t ≠ e) : s.ownBlock ≠ some p := by
  intro e1
  rcases h.2 with ⟨rfl, _⟩ | ⟨g, cap, cur, rfl, _, hg, _⟩
  · cases e1
  · injection e1 with e1
    have e1 : g = p := e1
    subst e1
    unfold Cells at hc
    rw [hc] at hg
    injection hg with hg
    injection hg with _ hg
    exact ht hg
/-- A block that the desk writes into is none of these. -/
def Off (g : Nat) (oL oW : Option Nat) (k : Nat) : Prop := k ≠ g ∧ oL ≠ some k ∧ oW ≠ some k
abbrev oL (x : Cx) : Option Nat := (Value.slice x.A x.n x.a).ownBlock
abbrev oW (x : Cx) : Option Nat := (Value.slice x.W x.q x.k).ownBlock
/-- The desk's box and its rows, its own since base. -/
structure Desk (base : Nat) (w : World) (g : Nat) (x : Cx) : Prop where
  box : KBox w g x
  l : Lea.OwnsL base w (.slice x.A x.n x.a) x.n x.p.t.l
  s : Spa.OwnsL base w (.slice x.S x.m x.s) x.m x.p.s
  f : OwnsF base w (.slice x.W x.q x.k) x.q x.p.wt
  le : base ≤ g
section
variable {base g : Nat} {w w' : World} {x : Cx}
theorem Desk.below (h : Desk base w g x) (hb : Below w.heap.size w w') : Desk base w' g x := ⟨Lea.Cells.below h.box hb, Lea.OwnsL.below h.l hb, Spa.OwnsL.below h.s hb, OwnsF.below h.f hb, h.le⟩
theorem Desk.alloc (h : Desk base w g x) (o : Obj) : Desk base (w.alloc o) g x := h.below ((Below.refl _ w).alloc (Nat.le_refl _) o)
theorem Desk.drew (h : Desk base w g x) : Desk base w.drew g x := h.below (Below.refl _ w).drew
theorem Desk.lt (h : Desk base w g x) : g < w.heap.size := Lea.Cells.lt h.box
theorem Desk.low (h : Desk base w g x) : base ≤ w.heap.size := Nat.le_trans h.le (Nat.le_of_lt h.lt)
theorem Desk.at_ (h : Desk base w g x) (h1 : x.n ≤ 1000000) (h2 : x.m ≤ 1000000) (h3 : x.q ≤ 1000000) : CoordAt w x := ⟨Lea.OwnsL.row h.l (by omega), Spa.OwnsL.row h.s (by omega), OwnsF.row h.f (by omega)⟩
/-- A box of another type is written: the desk stays. -/
theorem Desk.but {p : Nat} {t : TypeId} {cs : Array Value} (h : Desk base w g x) (hc : Cells w p t cs) (hb : But p w w') (h0 : t ≠ 86) (h1 : t ≠ 65) (h2 : t ≠ 48) (h3 : t ≠ 51) : Desk base w' g x := by
  have hg : g ≠ p := by
    intro e
    subst e
    have h4 := h.box
    unfold KBox Cells at h4
    unfold Cells at hc
    rw [hc] at h4
    injection h4 with h4
    injection h4 with _ h4
    exact h0 h4
  exact ⟨Lea.Cells.but h.box hb hg, Lea.OwnsL.kept h.l hb.by_ (.inr (own_ne h.l.1 hc h1)), Spa.OwnsL.kept h.s hb.by_ (.inr (own_ne h.s.1 hc h2)), OwnsF.kept h.f hb.by_ (.inr (own_ne h.f.1 hc h3)), h.le⟩
/-- A fresh box is written: the desk stays. -/
theorem Desk.far {p : Nat} (h : Desk base w g x) (hb : But p w w') (hp : Off g (oL x) (oW x) p) (hs : (Value.slice x.S x.m x.s).ownBlock ≠ some p) : Desk base w' g x :=
  ⟨Lea.Cells.but h.box hb (Ne.symm hp.1), Lea.OwnsL.kept h.l hb.by_ (.inr hp.2.1), Spa.OwnsL.kept h.s hb.by_ (.inr hs), OwnsF.kept h.f hb.by_ (.inr hp.2.2), h.le⟩
theorem Desk.gL (h : Desk base w g x) : oL x ≠ some g := own_ne h.l.1 h.box (by decide)
theorem Desk.gS (h : Desk base w g x) : (Value.slice x.S x.m x.s).ownBlock ≠ some g := own_ne h.s.1 h.box (by decide)
theorem Desk.gW (h : Desk base w g x) : oW x ≠ some g := own_ne h.f.1 h.box (by decide)
/-- The table is replaced. -/
theorem Desk.setT (h : Desk base w g x) {last now : Int} {A : Option Addr} {n a : Nat} {l : List Lv} (hl : Lea.OwnsL base w (.slice A n a) n l) :
    Desk base (((w.setCell ⟨g, 0, none⟩ (.int .i64 last)).setCell ⟨g, 1, none⟩ (.int .i64 now)).setCell ⟨g, 2, none⟩ (.slice A n a)) g ⟨Coo.setT x.p ⟨last, now, l⟩, A, n, a, x.S, x.m, x.s, x.W, x.q, x.k⟩ := by
  have hb := Lea.But.set3 w g (.int .i64 last) (.int .i64 now) (.slice A n a)
  refine ⟨Lea.Cells.set_ (Lea.Cells.set_ (Lea.Cells.set_ h.box 0 _) 1 _) 2 _, Lea.OwnsL.kept hl hb.by_ (.inr (own_ne hl.1 h.box (by decide))), Spa.OwnsL.kept h.s hb.by_ (.inr h.gS), OwnsF.kept h.f hb.by_ (.inr h.gW), h.le⟩
theorem Desk.setL (h : Desk base w g x) {A : Option Addr} {n a : Nat} {l : List Lv} (hl : Lea.OwnsL base w (.slice A n a) n l) :
    Desk base (w.setCell ⟨g, 2, none⟩ (.slice A n a)) g ⟨Coo.setT x.p ⟨x.p.t.last, x.p.t.now, l⟩, A, n, a, x.S, x.m, x.s, x.W, x.q, x.k⟩ := by
  have hb := Lea.But.set1 w g 2 (.slice A n a)
  refine ⟨Lea.Cells.set_ h.box 2 _, Lea.OwnsL.kept hl hb.by_ (.inr (own_ne hl.1 h.box (by decide))), Spa.OwnsL.kept h.s hb.by_ (.inr h.gS), OwnsF.kept h.f hb.by_ (.inr h.gW), h.le⟩
theorem Desk.setLast (h : Desk base w g x) (last : Int) :
    Desk base (w.setCell ⟨g, 0, none⟩ (.int .i64 last)) g ⟨Coo.setT x.p ⟨last, x.p.t.now, x.p.t.l⟩, x.A, x.n, x.a, x.S, x.m, x.s, x.W, x.q, x.k⟩ := by
  have hb := Lea.But.set1 w g 0 (.int .i64 last)
  refine ⟨Lea.Cells.set_ h.box 0 _, Lea.OwnsL.kept h.l hb.by_ (.inr h.gL), Spa.OwnsL.kept h.s hb.by_ (.inr h.gS), OwnsF.kept h.f hb.by_ (.inr h.gW), h.le⟩
/-- The spans are replaced. -/
theorem Desk.setS (h : Desk base w g x) {S : Option Addr} {m s : Nat} {l : List Sp} (hl : Spa.OwnsL base w (.slice S m s) m l) :
    Desk base (w.setCell ⟨g, 3, none⟩ (.slice S m s)) g ⟨⟨x.p.t, l, x.p.wt, x.p.ttl, x.p.zones⟩, x.A, x.n, x.a, S, m, s, x.W, x.q, x.k⟩ := by
  have hb := Lea.But.set1 w g 3 (.slice S m s)
  refine ⟨Lea.Cells.set_ h.box 3 _, Lea.OwnsL.kept h.l hb.by_ (.inr h.gL), Spa.OwnsL.kept hl hb.by_ (.inr (own_ne hl.1 h.box (by decide))), OwnsF.kept h.f hb.by_ (.inr h.gW), h.le⟩
end
/-- The fences are replaced: what lay there may have been written into. -/
theorem desk_setW {base g : Nat} {w : World} {x : Cx} (hbox : KBox w g x) (hL : Lea.OwnsL base w (.slice x.A x.n x.a) x.n x.p.t.l) (hS : Spa.OwnsL base w (.slice x.S x.m x.s) x.m x.p.s) (hle : base ≤ g) {W : Option Addr} {q k : Nat} {l : List Fv} (hl : OwnsF base w (.slice W q k) q l) :
    Desk base (w.setCell ⟨g, 4, none⟩ (.slice W q k)) g ⟨⟨x.p.t, x.p.s, l, x.p.ttl, x.p.zones⟩, x.A, x.n, x.a, x.S, x.m, x.s, W, q, k⟩ := by
  have hb := Lea.But.set1 w g 4 (.slice W q k)
  exact ⟨Lea.Cells.set_ hbox 4 _, Lea.OwnsL.kept hL hb.by_ (.inr (own_ne hL.1 hbox (by decide))), Spa.OwnsL.kept hS hb.by_ (.inr (own_ne hS.1 hbox (by decide))), OwnsF.kept hl hb.by_ (.inr (own_ne hl.1 hbox (by decide))), hle⟩
/-- Two rows of one's own of different types lie in different blocks. -/
theorem own_apart {base base' : Nat} {w : World} {e e' : TypeId} {k k' : Nat} {s s' : Value} {n n' : Nat} {xs xs' : List Value} (h : w.ownsRow base e k s n xs) (h' : w.ownsRow base' e' k' s' n' xs') (he : e ≠ e') : s.ownBlock = none ∨ s.ownBlock ≠ s'.ownBlock := by
  rcases h.2 with ⟨rfl, _⟩ | ⟨g, cap, cur, rfl, _, hg, _⟩
  · exact .inl rfl
  · refine .inr fun e1 => ?_
    exact own_ne h' (show Cells w g e cur from hg) he e1.symm

/-! ### What may change -/
structure Move (base g : Nat) (oL oW oL' oW' : Option Nat) (w w' : World) : Prop where
  below : Below base w w'
  keep : ∀ k, k < w.heap.size → Off g oL oW k → w'.heap[k]? = w.heap[k]? ∧ Off g oL' oW' k
section
variable {base g : Nat} {w w' w'' : World} {a b a' b' a'' b'' : Option Nat}
theorem Move.refl (base g : Nat) (a b : Option Nat) (w : World) : Move base g a b a b w w := ⟨Below.refl _ _, fun _ _ h => ⟨rfl, h⟩⟩
theorem Move.trans (h : Move base g a b a' b' w w') (k : Move base g a' b' a'' b'' w' w'') : Move base g a b a'' b'' w w'' :=
  ⟨h.below.trans k.below, fun i hi ho => by
    obtain ⟨h1, h2⟩ := h.keep i hi ho
    obtain ⟨h3, h4⟩ := k.keep i (Nat.lt_of_lt_of_le hi h.below.size) h2
    exact ⟨h3.trans h1, h4⟩⟩
theorem Move.of_below (hb : Below w.heap.size w w') (h0 : base ≤ w.heap.size) : Move base g a b a b w w' := ⟨hb.mono h0, fun i hi ho => ⟨hb.block i hi, ho⟩⟩
/-- The desk's box alone is written; its rows are what they were, or new. -/
theorem Move.box (hb : But g w w') (hg : base ≤ g) (h0 : base ≤ w.heap.size) : Move base g a b a b w w' := ⟨hb.below h0 hg, fun _ hi ho => ⟨hb.block hi ho.1, ho⟩⟩
/-- One of its rows is written. -/
theorem Move.rowL (hb : w.grownBy w' a) (h0 : base ≤ w.heap.size) (hk : ∀ k, a = some k → base ≤ k) : Move base g a b a b w w' := ⟨(Below.refl base w).grown hb h0 hk, fun i hi ho => ⟨hb.block i hi (fun e => ho.2.1 e.symm), ho⟩⟩
theorem Move.rowW (hb : w.grownBy w' b) (h0 : base ≤ w.heap.size) (hk : ∀ k, b = some k → base ≤ k) : Move base g a b a b w w' := ⟨(Below.refl base w).grown hb h0 hk, fun i hi ho => ⟨hb.block i hi (fun e => ho.2.2 e.symm), ho⟩⟩
/-- Other rows, new since w. -/
theorem Move.new (h : Move base g a b a b w w') (ha : a' = a ∨ ∀ k, a' = some k → w.heap.size ≤ k) (hb : b' = b ∨ ∀ k, b' = some k → w.heap.size ≤ k) : Move base g a b a' b' w w' :=
  ⟨h.below, fun i hi ho => by
    obtain ⟨h1, h2⟩ := h.keep i hi ho
    refine ⟨h1, h2.1, fun e => ?_, fun e => ?_⟩
    · rcases ha with rfl | ha
      · exact h2.2.1 e
      · have := ha i e; omega
    · rcases hb with rfl | hb
      · exact h2.2.2 e
      · have := hb i e; omega⟩
theorem Move.size (h : Move base g a b a' b' w w') : w.heap.size ≤ w'.heap.size := h.below.size
end
theorem Off.new {base : Nat} {w : World} {g : Nat} {x : Cx} (h : Desk base w g x) {p : Nat} (hp : w.heap.size ≤ p) : Off g (oL x) (oW x) p :=
  ⟨by have := h.lt; omega, fun e => by have := (Lea.OwnsL.lt h.l p e).2; omega, fun e => by have := (OwnsF.lt h.f p e).2; omega⟩
/-- What an act came to. -/
def Acted (base g : Nat) (x : Cx) (w : World) (r : Cv × An) (en : Ending) (w' : World) : Prop :=
  ∃ x' B n d, en = .returned (anv r.2.e r.2.epoch B n d) ∧ x'.p = r.1 ∧ Desk base w' g x' ∧ RowF w' B n d r.2.todo ∧ (∀ k o, B = some ⟨k, o, none⟩ → w.heap.size ≤ k ∧ Off g (oL x') (oW x') k) ∧ Move base g (oL x) (oW x) (oL x') (oW x') w w'
theorem Acted.bad {base g : Nat} {x : Cx} {w w' : World} {c : Cv} {e : Int} (hx : x.p = c) (hd : Desk base w' g x) (hm : Move base g (oL x) (oW x) (oL x) (oW x) w w') : Acted base g x w (bad c e) (.returned (anv e 0 none 0 0)) w' :=
  ⟨x, none, 0, 0, rfl, hx, hd, RowS.nil _ _ _, fun k o e => (by cases e), hm⟩
end Coo
end Go.Proofs.YtmflngclncidjaaGreat
/-
  WALKS: the map of acts (acts), and what is looked up there. (Written by gen_coodo.py.)
-/
namespace Go.Proofs.YtmflngclncidjaaGreat
open Go.RowKit Go.MapKept Mem
namespace Coo
open Lea (Cells But OneBox Lv Tv)
open Spa (Sp)

def ent (g : Nat) (k : Int) (f born : Nat) : MapEntry := ⟨.int .i64 k, .func (.func f) #[.pointer (some ⟨g, 0, none⟩)] #[], born⟩
def actEs (g : Nat) : Array MapEntry := #[ent g 1 43 0, ent g 2 44 1, ent g 3 45 2, ent g 4 46 3, ent g 5 47 4, ent g 6 48 5, ent g 7 49 6, ent g 8 50 7]
def Acts (w : World) (r g : Nat) : Prop := w.heap[r]? = some (.map (actEs g) 8)
theorem Acts.below {w w' : World} {r g : Nat} (h : Acts w r g) (hb : Below w.heap.size w w') : Acts w' r g := (hb.block r (Array.getElem?_eq_some_iff.1 h).1).trans h
theorem Acts.lt {w : World} {r g : Nat} (h : Acts w r g) : r < w.heap.size := (Array.getElem?_eq_some_iff.1 h).1
/-- A map is no row, and no desk: what an act does leaves it. -/
theorem Acts.off {base g r g0 : Nat} {w : World} {x : Cx} (h : Acts w r g0) (hd : Desk base w g x) : Off g (oL x) (oW x) r := by
  refine ⟨fun e => ?_, fun e => ?_, fun e => ?_⟩
  · subst e
    have := hd.box
    unfold KBox Cells at this
    rw [show w.heap[r]? = some (.map (actEs g0) 8) from h] at this
    cases this
  · rcases hd.l.1.2 with ⟨hn, _⟩ | ⟨q, cap, cur, hn, _, hq, _⟩
    · rw [show oL x = (Value.slice x.A x.n x.a).ownBlock from rfl, hn] at e; cases e
    · rw [show oL x = (Value.slice x.A x.n x.a).ownBlock from rfl, hn] at e
      injection e with e
      have e : q = r := e
      subst e
      rw [show w.heap[q]? = some (.map (actEs g0) 8) from h] at hq
      cases hq
  · rcases hd.f.1.2 with ⟨hn, _⟩ | ⟨q, cap, cur, hn, _, hq, _⟩
    · rw [show oW x = (Value.slice x.W x.q x.k).ownBlock from rfl, hn] at e; cases e
    · rw [show oW x = (Value.slice x.W x.q x.k).ownBlock from rfl, hn] at e
      injection e with e
      have e : q = r := e
      subst e
      rw [show w.heap[q]? = some (.map (actEs g0) 8) from h] at hq
      cases hq

/-- A new key is laid into a map of the call's own. -/
theorem wpList_insert_new {P : Program} {w : World} {ops : Array Oper} {rest : List Oper} {o : Oper} {a : Act} {Q : Exit → Act → World → Prop}
    (hg : o.guard = none) (m x v : Operand) (t : TypeId) (hop : o.op = Op.insert t m x v)
    {k e : TypeId} (ht : P.underlying t = some (.map k e)) (hk : P.underlying k = some (.int .i64)) {b B : Nat} (hB : B ≤ b) {es : Array MapEntry} {clock : Nat}
    (hm : a.eval m = .map (some b)) (hb : w.heap[b]? = some (.map es clock)) {n : Int} (hx : a.eval x = .int .i64 n) (hnew : Instr.findNow (.int .i64) (.int .i64 n) es.toList 0 = some none)
    (hK : ∀ w', w'.heap[b]? = some (.map (es.push ⟨.int .i64 n, a.eval v, clock⟩) (clock + 1)) → Below B w w' → wpList P ops Q rest (a.put o.dst undef) w') :
    wpList P ops Q (o :: rest) a w := by
  refine wpList_plain hg fun K' hK' => ?_
  have hkey : IsKey (.int .i64) (.int .i64 n) := rfl
  have hr : (Instr.mapUpdate t (.map (some b)) (.int .i64 n) (a.eval v)).run P w = .ok () { w with heap := w.heap.setIfInBounds b (.map (es.push ⟨.int .i64 n, a.eval v, clock⟩) (clock + 1)) } := by
    simp [Instr.mapUpdate, run_underlying ht, MapKept.run_getObj_map (P := P) hb, MapKept.run_checkKey (P := P) (w := w) hk hkey, MapKept.run_findKey (P := P) (w := w) hk hnew, MapKept.run_setObj_map (P := P) _ hb, Result.andThen]
  unfold Oper.wp
  simp [execOp, hop, hm, hx, hr, Result.andThen]
  have h2 := heap_set hb (o' := .map (es.push ⟨.int .i64 n, a.eval v, clock⟩) (clock + 1))
  exact hK' _ _ (hK _ h2.1 ⟨rfl, rfl, rfl, by simp, fun i hi => h2.2 i (by omega)⟩)


set_option maxRecDepth 100000 in
set_option maxHeartbeats 3200000 in
theorem acts_any (g : Nat) (w : World) :
    Calls Tryz.prog 32 #[.pointer (some ⟨g, 0, none⟩)] w fun e w' => e = .returned (.map (some w.heap.size)) ∧ Acts w' w.heap.size g ∧ Below w.heap.size w w' := by
  have hmm := @run_makeMap Tryz.prog
  have hmf : ∀ (fn : Fn) (first cap : Array Value) (w : World), (Instr.makeFunc fn first cap).run Tryz.prog w = .ok (.func fn first cap) w := fun _ _ _ _ => rfl
  have h0 : (w.alloc (.map #[] 0)).heap[w.heap.size]? = some (.map #[] 0) := heap_alloc_new w _
  have hb0 : Below w.heap.size w (w.alloc (.map #[] 0)) := (Below.refl _ w).alloc (Nat.le_refl _) _
  go_enter Tryz.func32, Tryz.ntmps32
  go_wp2_with (refine wpList_insert_new rfl _ _ _ 81 rfl Tryz.underlying81 Tryz.underlying3 (Nat.le_refl w.heap.size) rfl (by assumption) rfl (by rfl) ?_
               intro w' h1 h2
               have hb0 := hb0.trans h2
               clear h2)
  go_ret
  refine ⟨rfl, ?_, by assumption⟩
  show _ = _
  assumption

/-- The act of a kind of events. -/
def actF (d : Int) : Nat :=
  bif d == 1 then 43 else bif d == 2 then 44 else bif d == 3 then 45 else bif d == 4 then 46 else bif d == 5 then 47 else bif d == 6 then 48 else bif d == 7 then 49 else 50
theorem known_of {d : Int} (h : knownB d = true) : d = 1 ∨ d = 2 ∨ d = 3 ∨ d = 4 ∨ d = 5 ∨ d = 6 ∨ d = 7 ∨ d = 8 := by
  unfold knownB at h
  simp only [Bool.and_eq_true, decide_eq_true_eq] at h
  omega
theorem run_lookup_new {w : World} {r g : Nat} {d : Int} (h : Acts w r g) (hk : knownB d = false) : (Instr.lookup 81 (.map (some r)) (.int .i64 d) true).run Tryz.prog w = .ok (.tuple #[.nilFunc, .bool false]) w := by
  have hkey : IsKey (.int .i64) (.int .i64 d) := rfl
  have hf : Instr.findNow (.int .i64) (.int .i64 d) (actEs g).toList 0 = some none := by
    unfold knownB at hk
    simp only [Bool.and_eq_false_iff, decide_eq_false_iff_not] at hk
    have h1 : (d == 1) = false := beq_eq_false_iff_ne.2 (by omega)
    have h2 : (d == 2) = false := beq_eq_false_iff_ne.2 (by omega)
    have h3 : (d == 3) = false := beq_eq_false_iff_ne.2 (by omega)
    have h4 : (d == 4) = false := beq_eq_false_iff_ne.2 (by omega)
    have h5 : (d == 5) = false := beq_eq_false_iff_ne.2 (by omega)
    have h6 : (d == 6) = false := beq_eq_false_iff_ne.2 (by omega)
    have h7 : (d == 7) = false := beq_eq_false_iff_ne.2 (by omega)
    have h8 : (d == 8) = false := beq_eq_false_iff_ne.2 (by omega)
    simp [actEs, ent, Instr.findNow, Instr.sameNow, h1, h2, h3, h4, h5, h6, h7, h8]
  have hz : (zeroValue 98).run Tryz.prog w = .ok .nilFunc w := by kernel_rfl
  simp [Instr.lookup, run_underlying Tryz.underlying81, MapKept.run_getObj_map (P := Tryz.prog) h, MapKept.run_checkKey (P := Tryz.prog) (w := w) Tryz.underlying3 hkey, MapKept.run_findKey (P := Tryz.prog) (w := w) Tryz.underlying3 hf, hz, Result.andThen]
theorem run_lookup_act {w : World} {r g : Nat} {d : Int} (h : Acts w r g) (hk : knownB d = true) : (Instr.lookup 81 (.map (some r)) (.int .i64 d) true).run Tryz.prog w = .ok (.tuple #[.func (.func (actF d)) #[.pointer (some ⟨g, 0, none⟩)] #[], .bool true]) w := by
  have hkey : IsKey (.int .i64) (.int .i64 d) := rfl
  have hf : ∃ j, Instr.findNow (.int .i64) (.int .i64 d) (actEs g).toList 0 = some (some (j, .func (.func (actF d)) #[.pointer (some ⟨g, 0, none⟩)] #[])) := by
    rcases known_of hk with rfl | rfl | rfl | rfl | rfl | rfl | rfl | rfl
    all_goals exact ⟨_, rfl⟩
  obtain ⟨j, hf⟩ := hf
  simp [Instr.lookup, run_underlying Tryz.underlying81, MapKept.run_getObj_map (P := Tryz.prog) h, MapKept.run_checkKey (P := Tryz.prog) (w := w) Tryz.underlying3 hkey, MapKept.run_findKey (P := Tryz.prog) (w := w) Tryz.underlying3 hf, Result.andThen]
end Coo
end Go.Proofs.YtmflngclncidjaaGreat
/-
  WALKS: which hosts, times and leases may be; whether keys rise.
-/
namespace Go.Proofs.YtmflngclncidjaaGreat
open Go.RowKit Mem
namespace Lea

set_option maxRecDepth 100000 in
set_option maxHeartbeats 800000 in
theorem host_any (h : Int) (w : World) : Calls Tryz.prog 80 #[.int .i64 h] w fun e w' => e = .returned (.bool (hostB h)) ∧ w' = w := by
  unfold hostB
  rcases e1 : decide (0 ≤ h)
  · go_enter Tryz.func80, Tryz.ntmps80
    go_wp2
    go_ret
    exact ⟨rfl, rfl⟩
  · rcases e2 : decide (h < 8)
    · go_enter Tryz.func80, Tryz.ntmps80
      go_wp2
      go_ret
      exact ⟨rfl, rfl⟩
    · go_enter Tryz.func80, Tryz.ntmps80
      go_wp2
      go_ret
      exact ⟨rfl, rfl⟩

set_option maxRecDepth 100000 in
set_option maxHeartbeats 800000 in
theorem ttl_any (h : Int) (w : World) : Calls Tryz.prog 99 #[.int .i64 h] w fun e w' => e = .returned (.bool (ttlB h)) ∧ w' = w := by
  unfold ttlB
  rcases e1 : decide (1 ≤ h)
  · go_enter Tryz.func99, Tryz.ntmps99
    go_wp2
    go_ret
    exact ⟨rfl, rfl⟩
  · rcases e2 : decide (h ≤ 1099511627776)
    · go_enter Tryz.func99, Tryz.ntmps99
      go_wp2
      go_ret
      exact ⟨rfl, rfl⟩
    · go_enter Tryz.func99, Tryz.ntmps99
      go_wp2
      go_ret
      exact ⟨rfl, rfl⟩

set_option maxRecDepth 100000 in
set_option maxHeartbeats 3200000 in
theorem may_any (last now : Int) (A : Option Addr) (n c : Nat) (x : Lv) (w : World) :
    Calls Tryz.prog 58 #[tv last now A n c, lv x] w fun e w' => e = .returned (.bool (mayB last now x)) ∧ Below w.heap.size w w' := by
  have HH := fun w => Lib.hid (host_any x.host w)
  have L1 : Hid (Below w.heap.size w ((w.alloc (.cells #[.int .i64 last, .int .i64 now, .slice A n c] 27)).alloc (.cells #[.int .i64 x.key, .int .i64 x.host, .int .i64 x.epoch, .int .i64 x.til] 65))) := ((Below.refl w.heap.size w).alloc (Nat.le_refl _) _).alloc (by simp) _
  have B1 : Hid (TBox ((w.alloc (.cells #[.int .i64 last, .int .i64 now, .slice A n c] 27)).alloc (.cells #[.int .i64 x.key, .int .i64 x.host, .int .i64 x.epoch, .int .i64 x.til] 65)) w.heap.size last now A n c) := heap_alloc2_old w _ _
  have B2 : Hid (LBox ((w.alloc (.cells #[.int .i64 last, .int .i64 now, .slice A n c] 27)).alloc (.cells #[.int .i64 x.key, .int .i64 x.host, .int .i64 x.epoch, .int .i64 x.til] 65)) (w.heap.size + 1) x) := heap_alloc2_new w _ _
  unfold mayB
  rcases e1 : decide (0 ≤ x.key)
  · go_enter Tryz.func58, Tryz.ntmps58
    go_upto_region 1 with fail
    generalize (w.alloc (.cells #[.int .i64 last, .int .i64 now, .slice A n c] 27)).alloc (.cells #[.int .i64 x.key, .int .i64 x.host, .int .i64 x.epoch, .int .i64 x.til] 65) = w1 at *
    obtain ⟨m0, m1, m2⟩ := TBox.cells B1.out
    obtain ⟨n0, n1, n2, n3⟩ := LBox.cells B2.out
    go_wp2_with fail
    go_ret
    exact ⟨rfl, L1.out⟩
  · rcases e2 : hostB x.host
    · rw [e2] at HH
      go_enter Tryz.func58, Tryz.ntmps58
      go_upto_region 1 with fail
      generalize (w.alloc (.cells #[.int .i64 last, .int .i64 now, .slice A n c] 27)).alloc (.cells #[.int .i64 x.key, .int .i64 x.host, .int .i64 x.epoch, .int .i64 x.til] 65) = w1 at *
      obtain ⟨m0, m1, m2⟩ := TBox.cells B1.out
      obtain ⟨n0, n1, n2, n3⟩ := LBox.cells B2.out
      go_wp2_with (go_at_call 80; refine (HH _).out.mono ?_; rintro e w2 ⟨rfl, rfl⟩)
      go_ret
      exact ⟨rfl, L1.out⟩
    · rw [e2] at HH
      rcases e3 : decide (1 ≤ x.epoch)
      · go_enter Tryz.func58, Tryz.ntmps58
        go_upto_region 1 with fail
        generalize (w.alloc (.cells #[.int .i64 last, .int .i64 now, .slice A n c] 27)).alloc (.cells #[.int .i64 x.key, .int .i64 x.host, .int .i64 x.epoch, .int .i64 x.til] 65) = w1 at *
        obtain ⟨m0, m1, m2⟩ := TBox.cells B1.out
        obtain ⟨n0, n1, n2, n3⟩ := LBox.cells B2.out
        go_wp2_with (go_at_call 80; refine (HH _).out.mono ?_; rintro e w2 ⟨rfl, rfl⟩)
        go_ret
        exact ⟨rfl, L1.out⟩
      · rcases e4 : decide (x.epoch ≤ last)
        · go_enter Tryz.func58, Tryz.ntmps58
          go_upto_region 1 with fail
          generalize (w.alloc (.cells #[.int .i64 last, .int .i64 now, .slice A n c] 27)).alloc (.cells #[.int .i64 x.key, .int .i64 x.host, .int .i64 x.epoch, .int .i64 x.til] 65) = w1 at *
          obtain ⟨m0, m1, m2⟩ := TBox.cells B1.out
          obtain ⟨n0, n1, n2, n3⟩ := LBox.cells B2.out
          go_wp2_with (go_at_call 80; refine (HH _).out.mono ?_; rintro e w2 ⟨rfl, rfl⟩)
          go_ret
          exact ⟨rfl, L1.out⟩
        · go_enter Tryz.func58, Tryz.ntmps58
          go_upto_region 1 with fail
          generalize (w.alloc (.cells #[.int .i64 last, .int .i64 now, .slice A n c] 27)).alloc (.cells #[.int .i64 x.key, .int .i64 x.host, .int .i64 x.epoch, .int .i64 x.til] 65) = w1 at *
          obtain ⟨m0, m1, m2⟩ := TBox.cells B1.out
          obtain ⟨n0, n1, n2, n3⟩ := LBox.cells B2.out
          go_wp2_with (go_at_call 80; refine (HH _).out.mono ?_; rintro e w2 ⟨rfl, rfl⟩)
          go_ret
          exact ⟨rfl, L1.out⟩

set_option maxRecDepth 100000 in
set_option maxHeartbeats 1600000 in
/-- Check's own question of a lease: the table lies in block g. -/
theorem check1_any (last now : Int) (A : Option Addr) (n c g : Nat) (x : Lv) (w : World) (hg : TBox w g last now A n c) :
    Calls Tryz.prog 57 #[lv x, .pointer (some ⟨g, 0, none⟩)] w fun e w' => e = .returned (.bool (!mayB last now x)) ∧ Below w.heap.size w w' := by
  have HM := fun w => Lib.hid (may_any last now A n c x w)
  have L1 : Hid (Below w.heap.size w (w.alloc (.cells #[.int .i64 x.key, .int .i64 x.host, .int .i64 x.epoch, .int .i64 x.til] 65))) := (Below.refl w.heap.size w).alloc (Nat.le_refl _) _
  have B1 : Hid (TBox (w.alloc (.cells #[.int .i64 x.key, .int .i64 x.host, .int .i64 x.epoch, .int .i64 x.til] 65)) g last now A n c) := Cells.alloc hg _
  have B2 : Hid (LBox (w.alloc (.cells #[.int .i64 x.key, .int .i64 x.host, .int .i64 x.epoch, .int .i64 x.til] 65)) w.heap.size x) := Cells.new w _ _
  clear hg
  go_enter Tryz.func57, Tryz.ntmps57
  go_upto_region 1 with fail
  generalize w.alloc (.cells #[.int .i64 x.key, .int .i64 x.host, .int .i64 x.epoch, .int .i64 x.til] 65) = w1 at *
  obtain ⟨m0, m1, m2⟩ := TBox.cells B1.out
  obtain ⟨n0, n1, n2, n3⟩ := LBox.cells B2.out
  go_wp2_with fail
  refine (HM w1).out.mono ?_
  rintro e w2 ⟨rfl, hb⟩
  have L2 := Lib.hid (L1.out.trans (hb.mono L1.out.size))
  clear hb
  go_wp2_with fail
  go_ret
  exact ⟨rfl, L2.out⟩

theorem rises_of {l : List Lv} (h : ∀ i x y, l[i]? = some x → l[i + 1]? = some y → x.key < y.key) : Rises l := by
  unfold Rises
  induction l with
  | nil => exact List.Pairwise.nil
  | cons a l ih =>
    have ih' := ih (fun i x y hx hy => h (i + 1) x y (by simpa using hx) (by simpa using hy))
    refine List.Pairwise.cons ?_ ih'
    rcases l with _ | ⟨b, r⟩
    · intro y hy; cases hy
    · have h0 := h 0 a b rfl rfl
      intro y hy
      rcases List.mem_cons.1 hy with rfl | hy
      · exact h0
      · have := (List.pairwise_cons.1 ih').1 y hy; omega

set_option maxRecDepth 100000 in
set_option maxHeartbeats 1600000 in
theorem rise_any {A : Option Addr} {n c : Nat} {l : List Lv} {w : World} (h : RowL w A n c l) :
    Calls Tryz.prog 54 #[.slice A n c] w fun e w' => e = .returned (.bool (risesB l)) ∧ Below w.heap.size w w' := by
  have HR := Lib.hid h
  have hbig := h.big
  have hlen := Lib.hid h.len
  clear h
  go_enter Tryz.func54, Tryz.ntmps54
  go_wp2
  go_loopw [3] (fun i wr => ∃ k : Nat, i = .int .i64 k ∧ 1 ≤ k ∧ k ≤ n + 1 ∧ Hid (Below w.heap.size w wr ∧ ∀ j x y, j + 1 < k → l[j]? = some x → l[j + 1]? = some y → x.key < y.key)) (fun i _ => n + 1 - (intOf i).toNat)
  case atStart => exact ⟨1, rfl, by omega, by omega, Below.refl _ _, fun j x y hj => by omega⟩
  case round =>
    obtain ⟨k, rfl, hk1, hk, hH⟩ := hrel
    by_cases hlt : k < n
    · obtain ⟨y, hy⟩ := HR.out.get hlt
      obtain ⟨x, hx⟩ := HR.out.get (i := k - 1) (by omega)
      have RW := HR.out.below hH.out.1
      obtain ⟨b, o, hA, c0, c1, c2, c3⟩ := RowS.lease_at RW hy
      obtain ⟨b', o', hA', d0, d1, d2, d3⟩ := RowS.lease_at RW hx
      subst hA
      injection hA' with hA'
      injection hA' with e1 e2
      subst e1 e2
      clear RW c1 c2 c3 d1 d2 d3
      have hk0 : (0 : Int) ≤ (k : Int) := by omega
      have hkn : (k : Int) < (n : Int) := by omega
      have hj0 : (k : Int) - 1 = ((k - 1 : Nat) : Int) := by omega
      have HX := Lib.hid hx
      have HY := Lib.hid hy
      clear hx hy
      obtain ⟨j, hj⟩ : ∃ j, j = k - 1 := ⟨_, rfl⟩
      rw [← hj] at hj0 d0 HX
      have hjn : (j : Int) < (n : Int) := by omega
      have hj00 : (0 : Int) ≤ (j : Int) := by omega
      have hwr : IntKind.i64.wrap (j : Int) = (j : Int) := by rw [IntKind.wrap_i64]; omega
      have HJ := Lib.hid hj
      clear hj
      rcases e3 : decide (y.key ≤ x.key)
      · go_upto_region 4 with fail
        refine wp_region_held_drew (S := fun W => W.cell? ⟨b, o + k * 4, none⟩ = some (.int .i64 y.key) ∧ W.cell? ⟨b, o + j * 4, none⟩ = some (.int .i64 x.key)) (by kernel_rfl) ⟨c0, d0⟩ (fun hHeld => ?_)
        (first | (refine Reg.take 0 (v := ?_) rfl (by kernel_rfl) (by kernel_rfl) (by kernel_rfl) (fun _ _ _ h => h) (Or.inl ⟨by rfl, ?_⟩) (by assumption) ?_; rotate_left; (focus ((intro W hSW); (try dsimp only at hSW); (try go_split_ands); go_simp; (try (with_reducible rfl)); done))) | (refine Reg.take 0 (v := undef) rfl (by kernel_rfl) (by kernel_rfl) (by kernel_rfl) (fun _ _ _ h => h) (Or.inr ⟨by rfl, rfl⟩) (by assumption) ?_))
        (try simp only [Act.put, List.setIfInBounds_toArray, List.set_cons_zero, List.set_cons_succ])
        (first | (refine Reg.take 1 (v := ?_) rfl (by kernel_rfl) (by kernel_rfl) (by kernel_rfl) (fun _ _ _ h => h) (Or.inl ⟨by rfl, ?_⟩) (by assumption) ?_; rotate_left; (focus ((intro W hSW); (try dsimp only at hSW); (try go_split_ands); go_simp; (try (with_reducible rfl)); done))) | (refine Reg.take 1 (v := undef) rfl (by kernel_rfl) (by kernel_rfl) (by kernel_rfl) (fun _ _ _ h => h) (Or.inr ⟨by rfl, rfl⟩) (by assumption) ?_))
        (try simp only [Act.put, List.setIfInBounds_toArray, List.set_cons_zero, List.set_cons_succ])
        (first | (refine Reg.take 2 (v := ?_) rfl (by kernel_rfl) (by kernel_rfl) (by kernel_rfl) (fun _ _ _ h => h) (Or.inl ⟨by rfl, ?_⟩) (by assumption) ?_; rotate_left; (focus ((intro W hSW); (try dsimp only at hSW); (try go_split_ands); go_simp; (try (with_reducible rfl)); done))) | (refine Reg.take 2 (v := undef) rfl (by kernel_rfl) (by kernel_rfl) (by kernel_rfl) (fun _ _ _ h => h) (Or.inr ⟨by rfl, rfl⟩) (by assumption) ?_))
        (try simp only [Act.put, List.setIfInBounds_toArray, List.set_cons_zero, List.set_cons_succ])
        (first | (refine Reg.take 3 (v := ?_) rfl (by kernel_rfl) (by kernel_rfl) (by kernel_rfl) (fun _ _ _ h => h) (Or.inl ⟨by rfl, ?_⟩) (by assumption) ?_; rotate_left; (focus ((intro W hSW); (try dsimp only at hSW); (try go_split_ands); go_simp; (try (with_reducible rfl)); done))) | (refine Reg.take 3 (v := undef) rfl (by kernel_rfl) (by kernel_rfl) (by kernel_rfl) (fun _ _ _ h => h) (Or.inr ⟨by rfl, rfl⟩) (by assumption) ?_))
        (try simp only [Act.put, List.setIfInBounds_toArray, List.set_cons_zero, List.set_cons_succ])
        (first | (refine Reg.take 4 (v := ?_) rfl (by kernel_rfl) (by kernel_rfl) (by kernel_rfl) (fun _ _ _ h => h) (Or.inl ⟨by rfl, ?_⟩) (by assumption) ?_; rotate_left; (focus ((intro W hSW); (try dsimp only at hSW); (try go_split_ands); go_simp; (try (with_reducible rfl)); done))) | (refine Reg.take 4 (v := undef) rfl (by kernel_rfl) (by kernel_rfl) (by kernel_rfl) (fun _ _ _ h => h) (Or.inr ⟨by rfl, rfl⟩) (by assumption) ?_))
        (try simp only [Act.put, List.setIfInBounds_toArray, List.set_cons_zero, List.set_cons_succ])
        (first | (refine Reg.take 5 (v := ?_) rfl (by kernel_rfl) (by kernel_rfl) (by kernel_rfl) (fun _ _ _ h => h) (Or.inl ⟨by rfl, ?_⟩) (by assumption) ?_; rotate_left; (focus ((intro W hSW); (try dsimp only at hSW); (try go_split_ands); go_simp; (try (with_reducible rfl)); done))) | (refine Reg.take 5 (v := undef) rfl (by kernel_rfl) (by kernel_rfl) (by kernel_rfl) (fun _ _ _ h => h) (Or.inr ⟨by rfl, rfl⟩) (by assumption) ?_))
        (try simp only [Act.put, List.setIfInBounds_toArray, List.set_cons_zero, List.set_cons_succ])
        (first | (refine Reg.take 6 (v := ?_) rfl (by kernel_rfl) (by kernel_rfl) (by kernel_rfl) (fun _ _ _ h => h) (Or.inl ⟨by rfl, ?_⟩) (by assumption) ?_; rotate_left; (focus ((intro W hSW); (try dsimp only at hSW); (try go_split_ands); go_simp; (try (with_reducible rfl)); done))) | (refine Reg.take 6 (v := undef) rfl (by kernel_rfl) (by kernel_rfl) (by kernel_rfl) (fun _ _ _ h => h) (Or.inr ⟨by rfl, rfl⟩) (by assumption) ?_))
        (try simp only [Act.put, List.setIfInBounds_toArray, List.set_cons_zero, List.set_cons_succ])
        (first | (refine Reg.take 7 (v := ?_) rfl (by kernel_rfl) (by kernel_rfl) (by kernel_rfl) (fun _ _ _ h => h) (Or.inl ⟨by rfl, ?_⟩) (by assumption) ?_; rotate_left; (focus ((intro W hSW); (try dsimp only at hSW); (try go_split_ands); go_simp; (try (with_reducible rfl)); done))) | (refine Reg.take 7 (v := undef) rfl (by kernel_rfl) (by kernel_rfl) (by kernel_rfl) (fun _ _ _ h => h) (Or.inr ⟨by rfl, rfl⟩) (by assumption) ?_))
        (try simp only [Act.put, List.setIfInBounds_toArray, List.set_cons_zero, List.set_cons_succ])
        (first | (refine Reg.take 8 (v := ?_) rfl (by kernel_rfl) (by kernel_rfl) (by kernel_rfl) (fun _ _ _ h => h) (Or.inl ⟨by rfl, ?_⟩) (by assumption) ?_; rotate_left; (focus ((intro W hSW); (try dsimp only at hSW); (try go_split_ands); go_simp; (try (with_reducible rfl)); done))) | (refine Reg.take 8 (v := undef) rfl (by kernel_rfl) (by kernel_rfl) (by kernel_rfl) (fun _ _ _ h => h) (Or.inr ⟨by rfl, rfl⟩) (by assumption) ?_))
        (try simp only [Act.put, List.setIfInBounds_toArray, List.set_cons_zero, List.set_cons_succ])
        (first | (refine Reg.take 9 (v := ?_) rfl (by kernel_rfl) (by kernel_rfl) (by kernel_rfl) (fun _ _ _ h => h) (Or.inl ⟨by rfl, ?_⟩) (by assumption) ?_; rotate_left; (focus ((intro W hSW); (try dsimp only at hSW); (try go_split_ands); go_simp; (try (with_reducible rfl)); done))) | (refine Reg.take 9 (v := undef) rfl (by kernel_rfl) (by kernel_rfl) (by kernel_rfl) (fun _ _ _ h => h) (Or.inr ⟨by rfl, rfl⟩) (by assumption) ?_))
        (try simp only [Act.put, List.setIfInBounds_toArray, List.set_cons_zero, List.set_cons_succ])
        (first | (refine Reg.take 10 (v := ?_) rfl (by kernel_rfl) (by kernel_rfl) (by kernel_rfl) (fun _ _ _ h => h) (Or.inl ⟨by rfl, ?_⟩) (by assumption) ?_; rotate_left; (focus ((intro W hSW); (try dsimp only at hSW); (try go_split_ands); go_simp; (try (with_reducible rfl)); done))) | (refine Reg.take 10 (v := undef) rfl (by kernel_rfl) (by kernel_rfl) (by kernel_rfl) (fun _ _ _ h => h) (Or.inr ⟨by rfl, rfl⟩) (by assumption) ?_))
        (try simp only [Act.put, List.setIfInBounds_toArray, List.set_cons_zero, List.set_cons_succ])
        (first | (refine Reg.take 11 (v := ?_) rfl (by kernel_rfl) (by kernel_rfl) (by kernel_rfl) (fun _ _ _ h => h) (Or.inl ⟨by rfl, ?_⟩) (by assumption) ?_; rotate_left; (focus ((intro W hSW); (try dsimp only at hSW); (try go_split_ands); go_simp; (try (with_reducible rfl)); done))) | (refine Reg.take 11 (v := undef) rfl (by kernel_rfl) (by kernel_rfl) (by kernel_rfl) (fun _ _ _ h => h) (Or.inr ⟨by rfl, rfl⟩) (by assumption) ?_))
        (try simp only [Act.put, List.setIfInBounds_toArray, List.set_cons_zero, List.set_cons_succ])
        refine wpAnyH_done (by kernel_rfl) ?_ _
        go_wp2_with fail
        go_roundw
        case rel =>
          refine ⟨k + 1, by go_num, by omega, by omega, hH.out.1.drew, fun i a b' hi ha hb' => ?_⟩
          by_cases h1 : i + 1 < k
          · exact hH.out.2 i a b' h1 ha hb'
          · have h2 : i = j := by have := HJ.out; omega
            subst h2
            have h3 := HX.out.symm.trans ha
            injection h3 with h3; subst h3
            have h4 := HY.out.symm.trans ((by have := HJ.out; rw [show k = i + 1 by omega]; exact hb') : l[k]? = some b')
            injection h4 with h4; subst h4
            have := of_decide_eq_false e3; omega
        case measure => simp [intOf]; omega
      · go_upto_region 4 with fail
        refine wp_region_held_drew (S := fun W => W.cell? ⟨b, o + k * 4, none⟩ = some (.int .i64 y.key) ∧ W.cell? ⟨b, o + j * 4, none⟩ = some (.int .i64 x.key)) (by kernel_rfl) ⟨c0, d0⟩ (fun hHeld => ?_)
        (first | (refine Reg.take 0 (v := ?_) rfl (by kernel_rfl) (by kernel_rfl) (by kernel_rfl) (fun _ _ _ h => h) (Or.inl ⟨by rfl, ?_⟩) (by assumption) ?_; rotate_left; (focus ((intro W hSW); (try dsimp only at hSW); (try go_split_ands); go_simp; (try (with_reducible rfl)); done))) | (refine Reg.take 0 (v := undef) rfl (by kernel_rfl) (by kernel_rfl) (by kernel_rfl) (fun _ _ _ h => h) (Or.inr ⟨by rfl, rfl⟩) (by assumption) ?_))
        (try simp only [Act.put, List.setIfInBounds_toArray, List.set_cons_zero, List.set_cons_succ])
        (first | (refine Reg.take 1 (v := ?_) rfl (by kernel_rfl) (by kernel_rfl) (by kernel_rfl) (fun _ _ _ h => h) (Or.inl ⟨by rfl, ?_⟩) (by assumption) ?_; rotate_left; (focus ((intro W hSW); (try dsimp only at hSW); (try go_split_ands); go_simp; (try (with_reducible rfl)); done))) | (refine Reg.take 1 (v := undef) rfl (by kernel_rfl) (by kernel_rfl) (by kernel_rfl) (fun _ _ _ h => h) (Or.inr ⟨by rfl, rfl⟩) (by assumption) ?_))
        (try simp only [Act.put, List.setIfInBounds_toArray, List.set_cons_zero, List.set_cons_succ])
        (first | (refine Reg.take 2 (v := ?_) rfl (by kernel_rfl) (by kernel_rfl) (by kernel_rfl) (fun _ _ _ h => h) (Or.inl ⟨by rfl, ?_⟩) (by assumption) ?_; rotate_left; (focus ((intro W hSW); (try dsimp only at hSW); (try go_split_ands); go_simp; (try (with_reducible rfl)); done))) | (refine Reg.take 2 (v := undef) rfl (by kernel_rfl) (by kernel_rfl) (by kernel_rfl) (fun _ _ _ h => h) (Or.inr ⟨by rfl, rfl⟩) (by assumption) ?_))
        (try simp only [Act.put, List.setIfInBounds_toArray, List.set_cons_zero, List.set_cons_succ])
        (first | (refine Reg.take 3 (v := ?_) rfl (by kernel_rfl) (by kernel_rfl) (by kernel_rfl) (fun _ _ _ h => h) (Or.inl ⟨by rfl, ?_⟩) (by assumption) ?_; rotate_left; (focus ((intro W hSW); (try dsimp only at hSW); (try go_split_ands); go_simp; (try (with_reducible rfl)); done))) | (refine Reg.take 3 (v := undef) rfl (by kernel_rfl) (by kernel_rfl) (by kernel_rfl) (fun _ _ _ h => h) (Or.inr ⟨by rfl, rfl⟩) (by assumption) ?_))
        (try simp only [Act.put, List.setIfInBounds_toArray, List.set_cons_zero, List.set_cons_succ])
        (first | (refine Reg.take 4 (v := ?_) rfl (by kernel_rfl) (by kernel_rfl) (by kernel_rfl) (fun _ _ _ h => h) (Or.inl ⟨by rfl, ?_⟩) (by assumption) ?_; rotate_left; (focus ((intro W hSW); (try dsimp only at hSW); (try go_split_ands); go_simp; (try (with_reducible rfl)); done))) | (refine Reg.take 4 (v := undef) rfl (by kernel_rfl) (by kernel_rfl) (by kernel_rfl) (fun _ _ _ h => h) (Or.inr ⟨by rfl, rfl⟩) (by assumption) ?_))
        (try simp only [Act.put, List.setIfInBounds_toArray, List.set_cons_zero, List.set_cons_succ])
        (first | (refine Reg.take 5 (v := ?_) rfl (by kernel_rfl) (by kernel_rfl) (by kernel_rfl) (fun _ _ _ h => h) (Or.inl ⟨by rfl, ?_⟩) (by assumption) ?_; rotate_left; (focus ((intro W hSW); (try dsimp only at hSW); (try go_split_ands); go_simp; (try (with_reducible rfl)); done))) | (refine Reg.take 5 (v := undef) rfl (by kernel_rfl) (by kernel_rfl) (by kernel_rfl) (fun _ _ _ h => h) (Or.inr ⟨by rfl, rfl⟩) (by assumption) ?_))
        (try simp only [Act.put, List.setIfInBounds_toArray, List.set_cons_zero, List.set_cons_succ])
        (first | (refine Reg.take 6 (v := ?_) rfl (by kernel_rfl) (by kernel_rfl) (by kernel_rfl) (fun _ _ _ h => h) (Or.inl ⟨by rfl, ?_⟩) (by assumption) ?_; rotate_left; (focus ((intro W hSW); (try dsimp only at hSW); (try go_split_ands); go_simp; (try (with_reducible rfl)); done))) | (refine Reg.take 6 (v := undef) rfl (by kernel_rfl) (by kernel_rfl) (by kernel_rfl) (fun _ _ _ h => h) (Or.inr ⟨by rfl, rfl⟩) (by assumption) ?_))
        (try simp only [Act.put, List.setIfInBounds_toArray, List.set_cons_zero, List.set_cons_succ])
        (first | (refine Reg.take 7 (v := ?_) rfl (by kernel_rfl) (by kernel_rfl) (by kernel_rfl) (fun _ _ _ h => h) (Or.inl ⟨by rfl, ?_⟩) (by assumption) ?_; rotate_left; (focus ((intro W hSW); (try dsimp only at hSW); (try go_split_ands); go_simp; (try (with_reducible rfl)); done))) | (refine Reg.take 7 (v := undef) rfl (by kernel_rfl) (by kernel_rfl) (by kernel_rfl) (fun _ _ _ h => h) (Or.inr ⟨by rfl, rfl⟩) (by assumption) ?_))
        (try simp only [Act.put, List.setIfInBounds_toArray, List.set_cons_zero, List.set_cons_succ])
        (first | (refine Reg.take 8 (v := ?_) rfl (by kernel_rfl) (by kernel_rfl) (by kernel_rfl) (fun _ _ _ h => h) (Or.inl ⟨by rfl, ?_⟩) (by assumption) ?_; rotate_left; (focus ((intro W hSW); (try dsimp only at hSW); (try go_split_ands); go_simp; (try (with_reducible rfl)); done))) | (refine Reg.take 8 (v := undef) rfl (by kernel_rfl) (by kernel_rfl) (by kernel_rfl) (fun _ _ _ h => h) (Or.inr ⟨by rfl, rfl⟩) (by assumption) ?_))
        (try simp only [Act.put, List.setIfInBounds_toArray, List.set_cons_zero, List.set_cons_succ])
        (first | (refine Reg.take 9 (v := ?_) rfl (by kernel_rfl) (by kernel_rfl) (by kernel_rfl) (fun _ _ _ h => h) (Or.inl ⟨by rfl, ?_⟩) (by assumption) ?_; rotate_left; (focus ((intro W hSW); (try dsimp only at hSW); (try go_split_ands); go_simp; (try (with_reducible rfl)); done))) | (refine Reg.take 9 (v := undef) rfl (by kernel_rfl) (by kernel_rfl) (by kernel_rfl) (fun _ _ _ h => h) (Or.inr ⟨by rfl, rfl⟩) (by assumption) ?_))
        (try simp only [Act.put, List.setIfInBounds_toArray, List.set_cons_zero, List.set_cons_succ])
        (first | (refine Reg.take 10 (v := ?_) rfl (by kernel_rfl) (by kernel_rfl) (by kernel_rfl) (fun _ _ _ h => h) (Or.inl ⟨by rfl, ?_⟩) (by assumption) ?_; rotate_left; (focus ((intro W hSW); (try dsimp only at hSW); (try go_split_ands); go_simp; (try (with_reducible rfl)); done))) | (refine Reg.take 10 (v := undef) rfl (by kernel_rfl) (by kernel_rfl) (by kernel_rfl) (fun _ _ _ h => h) (Or.inr ⟨by rfl, rfl⟩) (by assumption) ?_))
        (try simp only [Act.put, List.setIfInBounds_toArray, List.set_cons_zero, List.set_cons_succ])
        (first | (refine Reg.take 11 (v := ?_) rfl (by kernel_rfl) (by kernel_rfl) (by kernel_rfl) (fun _ _ _ h => h) (Or.inl ⟨by rfl, ?_⟩) (by assumption) ?_; rotate_left; (focus ((intro W hSW); (try dsimp only at hSW); (try go_split_ands); go_simp; (try (with_reducible rfl)); done))) | (refine Reg.take 11 (v := undef) rfl (by kernel_rfl) (by kernel_rfl) (by kernel_rfl) (fun _ _ _ h => h) (Or.inr ⟨by rfl, rfl⟩) (by assumption) ?_))
        (try simp only [Act.put, List.setIfInBounds_toArray, List.set_cons_zero, List.set_cons_succ])
        refine wpAnyH_done (by kernel_rfl) ?_ _
        go_wp2_with fail
        go_ret
        refine ⟨?_, hH.out.1.drew⟩
        have : risesB l = false := by
          unfold risesB
          rw [decide_eq_false_iff_not]
          intro hr
          have h1 := rises_lt hr (by have := HJ.out; omega : j < k) HX.out HY.out
          have := of_decide_eq_true e3; omega
        rw [this]; rfl
    · go_wp2_with fail
      go_ret
      refine ⟨?_, hH.out.1⟩
      have : risesB l = true := by
        unfold risesB
        rw [decide_eq_true_eq]
        refine rises_of (fun i x y hx hy => hH.out.2 i x y ?_ hx hy)
        have := (List.getElem?_eq_some_iff.1 hy).1
        have := hlen.out
        omega
      rw [this]; rfl
end Lea
end Go.Proofs.YtmflngclncidjaaGreat
/-
  slices.Sort AND slices.Compact OVER ints: the library's contracts laid at this program, in plain words. (Written by lay.py for one seat.)
-/
namespace Go.Proofs.YtmflngclncidjaaGreat
open Go.Shelf
def Lea.laysSort_ren : Go.Shelf.Ren := ⟨fun | 189 => 77 | 125 => 104 | 257 => 103 | 128 => 121 | 129 => 122 | 294 => 112 | 295 => 113 | 296 => 114 | 297 => 115 | 298 => 116 | 299 => 117 | 216 => 118 | 300 => 119 | 301 => 120 | 328 => 125 | 329 => 126 | 330 => 127 | 331 => 128 | 332 => 129 | 215 => 130 | 343 => 132 | n => n, fun | 28 => 54 | 3 => 3 | 46 => 109 | 0 => 0 | 51 => 167 | 53 => 94 | 4 => 4 | 183 => 161 | 182 => 160 | 131 => 91 | 5 => 5 | 9 => 9 | 218 => 169 | 222 => 173 | 228 => 176 | 229 => 45 | n => n, fun | n => n⟩
theorem Lea.laysSort : Go.Proofs.Lays.n189 Tryz.prog Lea.laysSort_ren := {
  mixed := by kernel_rfl,
  f125 := Tryz.func104.trans (congrArg some (by kernel_rfl)),
  f128 := Tryz.func121.trans (congrArg some (by kernel_rfl)),
  f129 := Tryz.func122.trans (congrArg some (by kernel_rfl)),
  f189 := Tryz.func77.trans (congrArg some (by kernel_rfl)),
  f215 := Tryz.func130.trans (congrArg some (by kernel_rfl)),
  f216 := Tryz.func118.trans (congrArg some (by kernel_rfl)),
  f257 := Tryz.func103.trans (congrArg some (by kernel_rfl)),
  f294 := Tryz.func112.trans (congrArg some (by kernel_rfl)),
  f295 := Tryz.func113.trans (congrArg some (by kernel_rfl)),
  f296 := Tryz.func114.trans (congrArg some (by kernel_rfl)),
  f297 := Tryz.func115.trans (congrArg some (by kernel_rfl)),
  f298 := Tryz.func116.trans (congrArg some (by kernel_rfl)),
  f299 := Tryz.func117.trans (congrArg some (by kernel_rfl)),
  f300 := Tryz.func119.trans (congrArg some (by kernel_rfl)),
  f301 := Tryz.func120.trans (congrArg some (by kernel_rfl)),
  f328 := Tryz.func125.trans (congrArg some (by kernel_rfl)),
  f329 := Tryz.func126.trans (congrArg some (by kernel_rfl)),
  f330 := Tryz.func127.trans (congrArg some (by kernel_rfl)),
  f331 := Tryz.func128.trans (congrArg some (by kernel_rfl)),
  f332 := Tryz.func129.trans (congrArg some (by kernel_rfl)),
  f343 := Tryz.func132.trans (congrArg some (by kernel_rfl)),
  t0 := Tryz.underlying0,
  a0 := Tryz.isAgg0,
  z0 := Tryz.sizeOf0,
  v0 := Tryz.zeroValue0,
  t3 := Tryz.underlying3,
  a3 := Tryz.isAgg3,
  z3 := Tryz.sizeOf3,
  v3 := Tryz.zeroValue3,
  t4 := Tryz.underlying4,
  a4 := Tryz.isAgg4,
  z4 := Tryz.sizeOf4,
  v4 := Tryz.zeroValue4,
  t5 := Tryz.underlying5,
  a5 := Tryz.isAgg5,
  z5 := Tryz.sizeOf5,
  v5 := Tryz.zeroValue5,
  t9 := Tryz.underlying9,
  a9 := Tryz.isAgg9,
  z9 := Tryz.sizeOf9,
  v9 := Tryz.zeroValue9,
  t28 := Tryz.underlying54,
  a28 := Tryz.isAgg54,
  z28 := Tryz.sizeOf54,
  v28 := Tryz.zeroValue54,
  t46 := Tryz.underlying109,
  a46 := Tryz.isAgg109,
  z46 := Tryz.sizeOf109,
  v46 := Tryz.zeroValue109,
  t51 := Tryz.underlying167,
  a51 := Tryz.isAgg167,
  z51 := Tryz.sizeOf167,
  v51 := Tryz.zeroValue167,
  t53 := Tryz.underlying94,
  a53 := Tryz.isAgg94,
  z53 := Tryz.sizeOf94,
  v53 := Tryz.zeroValue94,
  t131 := Tryz.underlying91,
  a131 := Tryz.isAgg91,
  z131 := Tryz.sizeOf91,
  v131 := Tryz.zeroValue91,
  t182 := Tryz.underlying160,
  a182 := Tryz.isAgg160,
  z182 := Tryz.sizeOf160,
  v182 := Tryz.zeroValue160,
  t183 := Tryz.underlying161,
  a183 := Tryz.isAgg161,
  z183 := Tryz.sizeOf161,
  v183 := Tryz.zeroValue161,
  t218 := Tryz.underlying169,
  a218 := Tryz.isAgg169,
  z218 := Tryz.sizeOf169,
  v218 := Tryz.zeroValue169,
  t222 := Tryz.underlying173,
  a222 := Tryz.isAgg173,
  z222 := Tryz.sizeOf173,
  v222 := Tryz.zeroValue173,
  t228 := Tryz.underlying176,
  a228 := Tryz.isAgg176,
  z228 := Tryz.sizeOf176,
  v228 := Tryz.zeroValue176,
  t229 := Tryz.underlying45,
  a229 := Tryz.isAgg45,
  z229 := Tryz.sizeOf45,
  v229 := Tryz.zeroValue45 }
def Lea.laysCompact_ren : Go.Shelf.Ren := ⟨fun | 20 => 78 | n => n, fun | 22 => 54 | 3 => 3 | 4 => 4 | 0 => 0 | n => n, fun | n => n⟩
theorem Lea.laysCompact : Go.Proofs.Lays2.n20 Tryz.prog Lea.laysCompact_ren := {
  mixed := by kernel_rfl,
  f20 := Tryz.func78.trans (congrArg some (by kernel_rfl)),
  t0 := Tryz.underlying0,
  a0 := Tryz.isAgg0,
  z0 := Tryz.sizeOf0,
  v0 := Tryz.zeroValue0,
  t3 := Tryz.underlying3,
  a3 := Tryz.isAgg3,
  z3 := Tryz.sizeOf3,
  v3 := Tryz.zeroValue3,
  t4 := Tryz.underlying4,
  a4 := Tryz.isAgg4,
  z4 := Tryz.sizeOf4,
  v4 := Tryz.zeroValue4,
  t22 := Tryz.underlying54,
  a22 := Tryz.isAgg54,
  z22 := Tryz.sizeOf54,
  v22 := Tryz.zeroValue54,
  i3 := by kernel_rfl }
end Go.Proofs.YtmflngclncidjaaGreat
