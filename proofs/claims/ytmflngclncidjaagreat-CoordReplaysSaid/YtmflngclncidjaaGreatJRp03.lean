/-
  SEVERAL TEXTS IN ONE FILE: CooRows, LeaRefChk, LeaRefA.
-/
import Derived.Test.YtmflngclncidjaaGreatJRp02
import Derived.Test.YtmflngclncidjaaGreatJ26
import Derived.Test.YtmflngclncidjaaGreatJ09
import Derived.Test.YtmflngclncidjaaGreatJ22
import Derived.Laws.StructEq
/-
  ROWS OF COORDINATORS of one's own, and what keeps them where they are while other rows grow. (Written by gen_coorows.py.)
-/
namespace Go.Proofs.YtmflngclncidjaaGreat
open Go.RowKit Mem
namespace Coo
open Lea (Cells But OneBox Lv Tv)
open Spa (Sp)
open Wire (B8 ints)
def cellsK (x : Cx) : List Value := [.int .i64 x.p.t.last, .int .i64 x.p.t.now, .slice x.A x.n x.a, .slice x.S x.m x.s, .slice x.W x.q x.k, .int .i64 x.p.ttl, .int .i64 x.p.zones]
theorem fitK : OwnS.Fit cellsK 7 := ⟨by omega, fun _ => rfl, fun x u hu => by
  simp [cellsK] at hu
  rcases hu with rfl | rfl | rfl | rfl | rfl | rfl | rfl <;> rfl⟩
theorem fit1 {α : Type} {f : α → Value} (hf : ∀ x, (f x).oneCell' = true) : OwnS.Fit (fun x => [f x]) 1 := ⟨by omega, fun _ => rfl, fun x u hu => by
  obtain rfl := List.mem_singleton.1 hu
  exact hf x⟩
theorem info_coord : (Tryz.prog.info? 31).map (fun i => (i.zero, i.size, i.bytes)) = some (some (.agg #[.int .i64 0, .int .i64 0, .slice none 0 0, .slice none 0 0, .slice none 0 0, .int .i64 0, .int .i64 0]), 7, 104) := by kernel_rfl
theorem info_i : (Tryz.prog.info? 3).map (fun i => (i.zero, i.size, i.bytes)) = some (some (.int .i64 0), 1, 8) := by kernel_rfl
theorem row_to {α : Type} {f : α → Value} {w : World} {A : Option Addr} {n c : Nat} {l : List α} (h : Row f w A n c l) : RowS (fun x => [f x]) 1 w A n c l := by
  refine ⟨h.len, h.cap, h.big, fun h0 => ?_⟩
  obtain ⟨b, o, e, hb, hc⟩ := h.at_ h0
  refine ⟨b, o, e, hb, fun i x hx j u hu => ?_⟩
  have hj : j = 0 := by have := (List.getElem?_eq_some_iff.1 hu).1; simpa using this
  subst hj
  simp at hu
  subst hu
  rw [Nat.mul_one, Nat.add_zero]
  exact hc i x hx
theorem row_back {α : Type} {f : α → Value} {w : World} {A : Option Addr} {n c : Nat} {l : List α} (h : RowS (fun x => [f x]) 1 w A n c l) : Row f w A n c l := by
  refine ⟨h.len, h.cap, h.big, fun h0 => ?_⟩
  obtain ⟨b, o, e, hb, hc⟩ := h.at_ h0
  refine ⟨b, o, e, hb, fun i x hx => ?_⟩
  have := hc i x hx 0 _ rfl
  rwa [Nat.mul_one, Nat.add_zero] at this
theorem one_int {w : World} {q : Nat} {z : Int} (h : Cells w q 3 #[.int .i64 z]) : RowS (fun x => [ci x]) 1 w (some ⟨q, 0, none⟩) 1 1 [z] := by
  refine ⟨rfl, by omega, by omega, fun _ => ⟨_, _, rfl, Lea.Cells.lt h, fun i y hy j u hu => ?_⟩⟩
  have hi : i = 0 := by have := (List.getElem?_eq_some_iff.1 hy).1; simpa using this
  subst hi
  simp at hy
  subst hy
  rw [show 0 + 0 * 1 + j = j by omega, Lea.Cells.cell h]
  simpa [ci] using hu
theorem one_coord {w : World} {q : Nat} {x : Cx} (h : CBox w q x) : RowS cellsK 7 w (some ⟨q, 0, none⟩) 1 1 [x] := by
  refine ⟨rfl, by omega, by omega, fun _ => ⟨_, _, rfl, Lea.Cells.lt h, fun i y hy j u hu => ?_⟩⟩
  have hi : i = 0 := by have := (List.getElem?_eq_some_iff.1 hy).1; simpa using this
  subst hi
  simp at hy
  subst hy
  rw [show 0 + 0 * 7 + j = j by omega, Lea.Cells.cell h]
  simpa [cellsK] using hu
/-- Where a coordinator's rows lie. -/
def Bl (y : Cx) (k : Nat) : Prop := (0 < y.n ∧ ∃ o, y.A = some ⟨k, o, none⟩) ∨ (0 < y.m ∧ ∃ o, y.S = some ⟨k, o, none⟩) ∨ (0 < y.q ∧ ∃ o, y.W = some ⟨k, o, none⟩)
theorem row_lt {α : Type} {cells : α → List Value} {j : Nat} {w : World} {A : Option Addr} {n c : Nat} {l : List α} (h : RowS cells j w A n c l) {k o : Nat} (h0 : 0 < n) (e : A = some ⟨k, o, none⟩) : k < w.heap.size := by
  obtain ⟨b, o', e', hb, -⟩ := h.at_ h0
  rw [e] at e'
  injection e' with e'
  injection e' with e'
  omega
theorem row_keep {α : Type} {cells : α → List Value} {j : Nat} {w w' : World} {A : Option Addr} {n c : Nat} {l : List α} (h : RowS cells j w A n c l) (hs : w.heap.size ≤ w'.heap.size) (hb : ∀ k o, 0 < n → A = some ⟨k, o, none⟩ → w'.heap[k]? = w.heap[k]?) : RowS cells j w' A n c l := by
  refine ⟨h.len, h.cap, h.big, fun h0 => ?_⟩
  obtain ⟨b, o, e, hlt, hc⟩ := h.at_ h0
  refine ⟨b, o, e, Nat.lt_of_lt_of_le hlt hs, fun i x hi q u hu => ?_⟩
  rw [World.cell?_of_block (w := w) (hb b o h0 e)]
  exact hc i x hi q u hu
theorem CoordAt.lt {w : World} {y : Cx} (h : CoordAt w y) {k : Nat} (hb : Bl y k) : k < w.heap.size := by
  rcases hb with ⟨h0, o, e⟩ | ⟨h0, o, e⟩ | ⟨h0, o, e⟩
  · exact row_lt h.l h0 e
  · exact row_lt h.s h0 e
  · exact row_lt h.f h0 e
theorem CoordAt.keepB {w w' : World} {y : Cx} (h : CoordAt w y) (hs : w.heap.size ≤ w'.heap.size) (hb : ∀ k, Bl y k → w'.heap[k]? = w.heap[k]?) : CoordAt w' y :=
  ⟨row_keep h.l hs fun k o h0 e => hb k (.inl ⟨h0, o, e⟩), row_keep h.s hs fun k o h0 e => hb k (.inr (.inl ⟨h0, o, e⟩)), row_keep h.f hs fun k o h0 e => hb k (.inr (.inr ⟨h0, o, e⟩))⟩
theorem Fresh.bl {w : World} {x : Cx} (h : Fresh w x) {k : Nat} (hb : Bl x k) : w.heap.size ≤ k := by
  rcases hb with ⟨-, o, e⟩ | ⟨-, o, e⟩ | ⟨-, o, e⟩
  · exact h.l k o e
  · exact h.s k o e
  · exact h.f k o e
/-- Coordinators that are there, apart from three rows and a box. -/
structure Kept (w : World) (ys : List Cx) (T E S : Option Nat) (g : Nat) : Prop where
  at_ : ∀ y ∈ ys, CoordAt w y
  t : ∀ y ∈ ys, ∀ k, Bl y k → T ≠ some k
  e : ∀ y ∈ ys, ∀ k, Bl y k → E ≠ some k
  s : ∀ y ∈ ys, ∀ k, Bl y k → S ≠ some k
  g : ∀ y ∈ ys, ∀ k, Bl y k → k ≠ g
section
variable {w w' : World} {ys : List Cx} {T E S T' : Option Nat} {g : Nat}
theorem Kept.below (h : Kept w ys T E S g) (hb : Below w.heap.size w w') : Kept w' ys T E S g := ⟨fun y hy => (h.at_ y hy).below hb, h.t, h.e, h.s, h.g⟩
theorem Kept.but (h : Kept w ys T E S g) (hb : But g w w') : Kept w' ys T E S g :=
  ⟨fun y hy => (h.at_ y hy).keepB hb.size fun k hk => hb.block ((h.at_ y hy).lt hk) (h.g y hy k hk), h.t, h.e, h.s, h.g⟩
theorem grown_at {row : Option Nat} (h : Kept w ys T E S g) (hg : w.grownBy w' row) (hr : ∀ y ∈ ys, ∀ k, Bl y k → row ≠ some k) : ∀ y ∈ ys, CoordAt w' y := fun y hy =>
  (h.at_ y hy).keepB hg.size fun k hk => hg.block k ((h.at_ y hy).lt hk) (fun e => hr y hy k hk e.symm)
theorem new_own (h : Kept w ys T E S g) {R : Option Nat} (hr : ∀ y ∈ ys, ∀ k, Bl y k → R ≠ some k) (hn : T' = R ∨ T' = some w.heap.size) : ∀ y ∈ ys, ∀ k, Bl y k → T' ≠ some k := fun y hy k hk e => by
  rcases hn with hn | hn
  · exact hr y hy k hk (hn ▸ e)
  · rw [hn] at e
    injection e with e
    have := (h.at_ y hy).lt hk
    omega
theorem Kept.tape (h : Kept w ys T E S g) (hg : w.grownBy w' T) (hn : T' = T ∨ T' = some w.heap.size) : Kept w' ys T' E S g := ⟨grown_at h hg h.t, new_own h h.t hn, h.e, h.s, h.g⟩
theorem Kept.ends (h : Kept w ys T E S g) (hg : w.grownBy w' E) (hn : T' = E ∨ T' = some w.heap.size) : Kept w' ys T T' S g := ⟨grown_at h hg h.e, h.t, new_own h h.e hn, h.s, h.g⟩
theorem Kept.states (h : Kept w ys T E S g) (hg : w.grownBy w' S) (hn : T' = S ∨ T' = some w.heap.size) : Kept w' ys T E T' g := ⟨grown_at h hg h.s, h.t, h.e, new_own h h.s hn, h.g⟩
theorem Kept.more (h : Kept w ys T E S g) {x : Cx} (hb : Below w.heap.size w w') (hx : CoordAt w' x) (hf : Fresh w x) (hT : ∀ k, T = some k → k < w.heap.size) (hE : ∀ k, E = some k → k < w.heap.size) (hS : ∀ k, S = some k → k < w.heap.size) (hg : g < w.heap.size) : Kept w' (ys ++ [x]) T E S g := by
  have hh := h.below hb
  have one : ∀ {P : Cx → Prop}, (∀ y ∈ ys, P y) → P x → ∀ y ∈ ys ++ [x], P y := fun h1 h2 y hy => by
    rcases List.mem_append.1 hy with hy | hy
    · exact h1 y hy
    · obtain rfl := List.mem_singleton.1 hy; exact h2
  refine ⟨one hh.at_ hx, one hh.t fun k hk e => ?_, one hh.e fun k hk e => ?_, one hh.s fun k hk e => ?_, one hh.g fun k hk e => ?_⟩
  · have := hf.bl hk; have := hT k e; omega
  · have := hf.bl hk; have := hE k e; omega
  · have := hf.bl hk; have := hS k e; omega
  · have := hf.bl hk; omega
end
/-- Where the events end, from none on. -/
def endsL (ws : List Ev) : List Int := (List.range (ws.length + 1)).map (fun k => (endE ws k : Int))
theorem endsL_len (ws : List Ev) : (endsL ws).length = ws.length + 1 := by simp [endsL]
theorem endsL_at (ws : List Ev) {k : Nat} (h : k ≤ ws.length) : (endsL ws)[k]? = some (endE ws k : Int) := by
  unfold endsL
  rw [List.getElem?_map, List.getElem?_range (by omega)]; rfl
theorem endsL_snoc (ws : List Ev) (e : Ev) : endsL (ws ++ [e]) = endsL ws ++ [((tapeE (ws ++ [e])).length : Int)] := by
  unfold endsL
  rw [List.length_append, List.length_singleton, List.range_succ, List.map_append, List.map_singleton]
  congr 1
  · refine List.map_congr_left fun k hk => ?_
    have : k ≤ ws.length := by have := List.mem_range.1 hk; omega
    unfold endE
    rw [List.take_append_of_le_length this]
  · unfold endE
    rw [List.take_of_length_le (by simp)]
/-- The coordinators behind each of the events. -/
def Hist (c : Cv) (ws : List Ev) (ys : List Cx) : Prop := ys.length = ws.length + 1 ∧ ∀ i y, ys[i]? = some y → y.p = (allC c (ws.take i)).1
theorem hist_snoc {c : Cv} {ws : List Ev} {ys : List Cx} (h : Hist c ws ys) {e : Ev} {x : Cx} (hx : x.p = (allC c (ws ++ [e])).1) : Hist c (ws ++ [e]) (ys ++ [x]) := by
  refine ⟨by simp [h.1], fun i y hy => ?_⟩
  rw [List.getElem?_append] at hy
  split at hy
  · rename_i hlt
    rw [List.take_append_of_le_length (by have := h.1; omega)]
    exact h.2 i y hy
  · rename_i hge
    have hi : i = ys.length := by have := (List.getElem?_eq_some_iff.1 hy).1; simp at this; omega
    subst hi
    simp at hy
    subst hy
    rw [List.take_of_length_le (by simp [h.1])]
    exact hx
theorem hist_one {c : Cv} {x : Cx} (h : x.p = c) : Hist c [] [x] := by
  refine ⟨rfl, fun i y hy => ?_⟩
  have hi : i = 0 := by have := (List.getElem?_eq_some_iff.1 hy).1; simpa using this
  subst hi
  simp at hy
  subst hy
  exact h
def wsOf (l : List Ev) (j : Nat) : List Ev := (l.take j).filter wroteB
theorem ws_yes {l : List Ev} {j : Nat} {e : Ev} (h : l[j]? = some e) (hw : wroteB e = true) : wsOf l (j + 1) = wsOf l j ++ [e] := by
  unfold wsOf
  rw [List.take_add_one, h, List.filter_append]
  simp [hw]
theorem ws_no {l : List Ev} {j : Nat} {e : Ev} (h : l[j]? = some e) (hw : wroteB e = false) : wsOf l (j + 1) = wsOf l j := by
  unfold wsOf
  rw [List.take_add_one, h, List.filter_append]
  simp [hw]
theorem ws_mem {l : List Ev} {j : Nat} {e : Ev} (h : e ∈ wsOf l j) : e ∈ l ∧ wroteB e = true := by
  have := List.mem_filter.1 h
  exact ⟨List.mem_of_mem_take this.1, this.2⟩
theorem ws_len (l : List Ev) (j : Nat) : (wsOf l j).length ≤ l.length := Nat.le_trans (List.length_filter_le _ _) (by rw [List.length_take]; omega)

theorem cells_grownR {w w' : World} {g : Nat} {t : TypeId} {cs : Array Value} {row : Option Nat} (h : Cells w g t cs) (hg : w.grownBy w' row) (hne : row ≠ some g) : Cells w' g t cs := (hg.block g (Lea.Cells.lt h) (fun e => hne e.symm)).trans h
abbrev OwnT (base : Nat) (w : World) (s : Value) (n : Nat) (l : List B8) : Prop := OwnS.Owns (fun x => [cb x]) 1 5 base w s n l
abbrev OwnI (base : Nat) (w : World) (s : Value) (n : Nat) (l : List Int) : Prop := OwnS.Owns (fun x => [ci x]) 1 3 base w s n l
abbrev OwnK (base : Nat) (w : World) (s : Value) (n : Nat) (l : List Cx) : Prop := OwnS.Owns cellsK 7 31 base w s n l
theorem built {α : Type} {cells : α → List Value} {k : Nat} {e : TypeId} {base : Nat} {w : World} {g : Nat} {cs : Array Value} (F : OwnS.Fit cells k) (h : Cells w g e cs) (hb : base ≤ g) {x : α} (hx : cs.toList = cells x) : OwnS.Owns cells k e base w (.slice (some ⟨g, 0, none⟩) 1 1) 1 [x] :=
  ⟨⟨by simp [F.len], .inr ⟨g, 1, cs, rfl, hb, h, Nat.le_refl _, by unfold maxLen; omega, by have := congrArg List.length hx; rw [F.len] at this; simpa using this, by rw [hx, Nat.one_mul, ← F.len x, List.take_length]; simp⟩⟩, rfl⟩
/-- What the law's loop keeps. -/
structure RI (w0 : World) (gf gc : Nat) (x : Cx) (wr : World) (Tv Ev Sv : Value) (tl : Nat) (tp : List B8) (el : Nat) (en : List Int) (sl : Nat) (st : List Cx) (X : Cx) (ys : List Cx) : Prop where
  below : Below w0.heap.size w0 wr
  f : CBox wr gf x
  c : CBox wr gc X
  ne : gf ≠ gc
  low : w0.heap.size ≤ gc
  tape : OwnT w0.heap.size wr Tv tl tp
  ends : OwnI w0.heap.size wr Ev el en
  sts : OwnK w0.heap.size wr Sv sl st
  kept : Kept wr ys Tv.ownBlock Ev.ownBlock Sv.ownBlock gc
  sf : Sv.ownBlock ≠ some gf
  sc : Sv.ownBlock ≠ some gc
section
variable {w0 : World} {gf gc : Nat} {x : Cx} {w w' : World} {Tv Ev Sv Tv' : Value} {tl : Nat} {tp : List B8} {el : Nat} {en : List Int} {sl : Nat} {st : List Cx} {X X' : Cx} {ys : List Cx}
theorem RI.keep (h : RI w0 gf gc x w Tv Ev Sv tl tp el en sl st X ys) (hb : Below w.heap.size w w') : RI w0 gf gc x w' Tv Ev Sv tl tp el en sl st X ys :=
  ⟨h.below.trans (hb.mono h.below.size), Lea.Cells.below h.f hb, Lea.Cells.below h.c hb, h.ne, h.low, h.tape.below hb, h.ends.below hb, h.sts.below hb, h.kept.below hb, h.sf, h.sc⟩
theorem RI.did (h : RI w0 gf gc x w Tv Ev Sv tl tp el en sl st X ys) (hb : Below w.heap.size w w') (hx : CoordAt w' X') (hf : Fresh w X') : RI w0 gf gc x w' Tv Ev Sv tl tp el en sl st X (ys ++ [X']) :=
  ⟨h.below.trans (hb.mono h.below.size), Lea.Cells.below h.f hb, Lea.Cells.below h.c hb, h.ne, h.low, h.tape.below hb, h.ends.below hb, h.sts.below hb, h.kept.more hb hx hf (fun k e => (h.tape.lt k e).2) (fun k e => (h.ends.lt k e).2) (fun k e => (h.sts.lt k e).2) (Lea.Cells.lt h.c), h.sf, h.sc⟩
theorem RI.set (h : RI w0 gf gc x w Tv Ev Sv tl tp el en sl st X ys) (hb : But gc w w') (hc : CBox w' gc X') : RI w0 gf gc x w' Tv Ev Sv tl tp el en sl st X' ys :=
  ⟨h.below.trans (hb.below h.below.size h.low), Lea.Cells.but h.f hb h.ne, hc, h.ne, h.low, h.tape.kept hb.by_ (.inr (own_ne h.tape.1 h.c (by decide))), h.ends.kept hb.by_ (.inr (own_ne h.ends.1 h.c (by decide))), h.sts.kept hb.by_ (.inr h.sc), h.kept.but hb, h.sf, h.sc⟩
theorem RI.more {m : Nat} {b : List B8} (h : RI w0 gf gc x w Tv Ev Sv tl tp el en sl st X ys) (ho : OwnT w0.heap.size w' Tv' (tl + m) (tp ++ b)) (hg : w.grownBy w' Tv.ownBlock) (hn : Tv'.ownBlock = Tv.ownBlock ∨ Tv'.ownBlock = some w.heap.size) : RI w0 gf gc x w' Tv' Ev Sv (tl + m) (tp ++ b) el en sl st X ys :=
  ⟨h.below.trans (OwnS.below_row h.tape hg h.below.size), cells_grownR h.f hg (own_ne h.tape.1 h.f (by decide)), cells_grownR h.c hg (own_ne h.tape.1 h.c (by decide)), h.ne, h.low, ho, h.ends.kept hg (own_apart h.ends.1 h.tape.1 (by decide)), h.sts.kept hg (own_apart h.sts.1 h.tape.1 (by decide)), h.kept.tape hg hn, h.sf, h.sc⟩
theorem RI.end_ {m : Nat} {b : List Int} (h : RI w0 gf gc x w Tv Ev Sv tl tp el en sl st X ys) (ho : OwnI w0.heap.size w' Tv' (el + m) (en ++ b)) (hg : w.grownBy w' Ev.ownBlock) (hn : Tv'.ownBlock = Ev.ownBlock ∨ Tv'.ownBlock = some w.heap.size) : RI w0 gf gc x w' Tv Tv' Sv tl tp (el + m) (en ++ b) sl st X ys :=
  ⟨h.below.trans (OwnS.below_row h.ends hg h.below.size), cells_grownR h.f hg (own_ne h.ends.1 h.f (by decide)), cells_grownR h.c hg (own_ne h.ends.1 h.c (by decide)), h.ne, h.low, h.tape.kept hg (own_apart h.tape.1 h.ends.1 (by decide)), ho, h.sts.kept hg (own_apart h.sts.1 h.ends.1 (by decide)), h.kept.ends hg hn, h.sf, h.sc⟩
theorem RI.state {m : Nat} {b : List Cx} (h : RI w0 gf gc x w Tv Ev Sv tl tp el en sl st X ys) (ho : OwnK w0.heap.size w' Tv' (sl + m) (st ++ b)) (hg : w.grownBy w' Sv.ownBlock) (hn : Tv'.ownBlock = Sv.ownBlock ∨ Tv'.ownBlock = some w.heap.size) : RI w0 gf gc x w' Tv Ev Tv' tl tp el en (sl + m) (st ++ b) X ys :=
  ⟨h.below.trans (OwnS.below_row h.sts hg h.below.size), cells_grownR h.f hg h.sf, cells_grownR h.c hg h.sc, h.ne, h.low, h.tape.kept hg (own_apart h.tape.1 h.sts.1 (by decide)), h.ends.kept hg (own_apart h.ends.1 h.sts.1 (by decide)), ho, h.kept.states hg hn,
    fun e => by
      rcases hn with hn | hn
      · exact h.sf (hn ▸ e)
      · rw [hn] at e; injection e with e; have := Lea.Cells.lt h.f; omega,
    fun e => by
      rcases hn with hn | hn
      · exact h.sc (hn ▸ e)
      · rw [hn] at e; injection e with e; have := Lea.Cells.lt h.c; omega⟩
end
/-- No row of leases, spans or fences lies in a coordinator's box. -/
theorem three_ints {α : Type} {cells : α → List Value} {j : Nat} {w : World} {g : Nat} {y : Cx} (hc : CBox w g y) {A : Option Addr} {n c : Nat} {l : List α} (h : RowS cells j w A n c l) (h3 : ∀ x, ∃ a b d r, cells x = .int .i64 a :: .int .i64 b :: .int .i64 d :: r) {k o : Nat} (h0 : 0 < n) (e : A = some ⟨k, o, none⟩) : k ≠ g := by
  rintro rfl
  obtain ⟨b, o', e', -, hcell⟩ := h.at_ h0
  rw [e] at e'
  injection e' with e'
  injection e' with e1 e2
  subst e1 e2
  obtain ⟨x, hx⟩ := h.get h0
  obtain ⟨a1, a2, a3, r, hr⟩ := h3 x
  have c0 := hcell 0 x hx 0 (.int .i64 a1) (by rw [hr]; rfl)
  have c1 := hcell 0 x hx 1 (.int .i64 a2) (by rw [hr]; rfl)
  have c2 := hcell 0 x hx 2 (.int .i64 a3) (by rw [hr]; rfl)
  rw [Lea.Cells.cell hc, Nat.zero_mul, Nat.add_zero] at c0 c1 c2
  match o, c0, c1, c2 with
  | 0, _, _, c2 => simp at c2
  | 1, _, c1, _ => simp at c1
  | 2, c0, _, _ => simp at c0
  | 3, c0, _, _ => simp at c0
  | 4, c0, _, _ => simp at c0
  | 5, _, _, c2 => simp at c2
  | 6, _, c1, _ => simp at c1
  | o + 7, c0, _, _ => simp at c0
theorem bl_ne {w : World} {g : Nat} {y x : Cx} (hc : CBox w g y) (h : CoordAt w x) {k : Nat} (hb : Bl x k) : k ≠ g := by
  rcases hb with ⟨h0, o, e⟩ | ⟨h0, o, e⟩ | ⟨h0, o, e⟩
  · exact three_ints hc h.l (fun x => ⟨_, _, _, _, rfl⟩) h0 e
  · exact three_ints hc h.s (fun x => ⟨_, _, _, _, rfl⟩) h0 e
  · exact three_ints hc h.f (fun x => ⟨_, _, _, _, rfl⟩) h0 e
end Coo
end Go.Proofs.YtmflngclncidjaaGreat
/-
  A WALK: the document's Check.
-/
namespace Go.Proofs.YtmflngclncidjaaGreat
open Go.RowKit Mem
namespace Lea

theorem may_not {last now : Int} {x : Lv} : mayB last now x = (!decide (x.key < 0) && (!decide (x.host < 0) && (!decide (8 ≤ x.host) && (!decide (x.epoch < 1) && (!decide (last < x.epoch) && !decide (x.til ≤ now)))))) := by
  rw [Bool.eq_iff_iff, mayB_iff]
  simp only [Bool.and_eq_true, Bool.not_eq_true', decide_eq_false_iff_not]
  omega
/-- What the document's Check has seen of the first k. -/
def seen (last now : Int) (l : List Lv) (k : Nat) : Prop := ∀ i x, i < k → l[i]? = some x → mayB last now x = true ∧ ∀ j y, j < i → l[j]? = some y → y.key < x.key ∧ y.epoch ≠ x.epoch
theorem okT_seen {last now : Int} {l : List Lv} : okT ⟨last, now, l⟩ = true ↔ 0 ≤ last ∧ 0 ≤ now ∧ seen last now l l.length := by
  rw [okT_iff]
  simp only
  constructor
  · rintro ⟨h1, h2, h3, h4, h5⟩
    refine ⟨h1, h2, fun i x hi hx => ⟨h5 x (List.mem_of_getElem? hx), fun j y hj hy => ⟨rises_lt h3 hj hy hx, fun e => ?_⟩⟩⟩
    unfold Differ at h4
    rw [List.nodup_iff_pairwise_ne, List.pairwise_iff_getElem] at h4
    obtain ⟨hi', rfl⟩ := List.getElem?_eq_some_iff.1 hx
    obtain ⟨hj', rfl⟩ := List.getElem?_eq_some_iff.1 hy
    have := h4 j i (by simpa using hj') (by simpa using hi') hj
    simp only [List.getElem_map] at this
    exact this e
  · rintro ⟨h1, h2, h3⟩
    refine ⟨h1, h2, ?_, ?_, fun x hx => ?_⟩
    · unfold Rises
      rw [List.pairwise_iff_getElem]
      intro i j hi hj hij
      exact ((h3 j _ hj (List.getElem?_eq_getElem hj)).2 i _ hij (List.getElem?_eq_getElem hi)).1
    · unfold Differ
      rw [List.nodup_iff_pairwise_ne, List.pairwise_iff_getElem]
      intro i j hi hj hij
      simp only [List.length_map] at hi hj
      simp only [List.getElem_map]
      exact ((h3 j _ hj (List.getElem?_eq_getElem hj)).2 i _ hij (List.getElem?_eq_getElem hi)).2
    · obtain ⟨i, hi⟩ := List.mem_iff_getElem?.1 hx
      exact (h3 i x (List.getElem?_eq_some_iff.1 hi).1 hi).1
theorem ok_false {last now : Int} {l : List Lv} (h : ¬ (0 ≤ last ∧ 0 ≤ now ∧ seen last now l l.length)) : okT ⟨last, now, l⟩ = false := by
  rcases e : okT ⟨last, now, l⟩
  · rfl
  · exact absurd (okT_seen.1 e) h

set_option maxRecDepth 100000 in
set_option maxHeartbeats 6400000 in
theorem refCheck_any {last now : Int} {A : Option Addr} {n c : Nat} {l : List Lv} {w : World} (h : RowL w A n c l) (hn : n ≤ 1000000) :
    Calls Tryz.prog 12 #[tv last now A n c] w fun e w' => e = .returned (.int .i64 (errOf (okT ⟨last, now, l⟩))) ∧ Below w.heap.size w w' := by
  have HR := Lib.hid h
  have hbig := h.big
  have hcap := h.cap
  have hlen := Lib.hid h.len
  have L1 : Hid (Below w.heap.size w (w.alloc (.cells #[.int .i64 last, .int .i64 now, .slice A n c] 27))) := (Below.refl w.heap.size w).alloc (Nat.le_refl _) _
  have B1 : Hid (TBox (w.alloc (.cells #[.int .i64 last, .int .i64 now, .slice A n c] 27)) w.heap.size last now A n c) := Cells.new w _ _
  have HN := Lib.hid (fun hh => ok_false (last := last) (now := now) (l := l) hh)
  have HY := Lib.hid (okT_seen (last := last) (now := now) (l := l)).2
  clear h
  generalize okT ⟨last, now, l⟩ = ok at *
  rcases e1 : decide (last < 0)
  · rcases e2 : decide (now < 0)
    · have E1 := Lib.hid (of_decide_eq_false e1)
      have E2 := Lib.hid (of_decide_eq_false e2)
      go_enter Tryz.func12, Tryz.ntmps12
      go_upto_region 1 with fail
      generalize w.alloc (.cells #[.int .i64 last, .int .i64 now, .slice A n c] 27) = w1 at *
      obtain ⟨m0, m1, m2⟩ := TBox.cells B1.out
      go_wp2_with fail
      clear m0 m1 m2 e1 e2
      go_loopw [3, 4, 18] (fun _ _ i wr => ∃ k : Nat, i = .int .i64 k ∧ k ≤ n ∧ Hid (Below w1.heap.size w1 wr ∧ seen last now l k)) (fun _ _ i _ => n - (intOf i).toNat)
      case atStart => exact ⟨0, rfl, by omega, Below.refl _ _, fun i x hi => by omega⟩
      case round =>
        obtain ⟨k, rfl, hk, hH⟩ := hrel
        by_cases hlt : k < n
        · obtain ⟨x, hx⟩ := HR.out.get hlt
          obtain ⟨b, o, hA, hb, hcells⟩ := RowS.lease HR.out hx
          subst hA
          have HCE := Lib.hid hcells
          have HBB := Lib.hid hb
          have HX := Lib.hid hx
          have hk0 : (0 : Int) ≤ (k : Int) := by omega
          have hkn : (k : Int) < (n : Int) := by omega
          have LW := Lib.hid (L1.out.trans (hH.out.1.mono L1.out.size))
          obtain ⟨c0, c1, c2, c3⟩ := hcells wr (LW.out.block b hb)
          clear hcells hb hx
          have A1 : Hid (Below w1.heap.size w1 (wr.alloc (.cells #[.int .i64 x.key, .int .i64 x.host, .int .i64 x.epoch, .int .i64 x.til] 65))) := hH.out.1.alloc hH.out.1.size _
          have X1 : Hid (LBox (wr.alloc (.cells #[.int .i64 x.key, .int .i64 x.host, .int .i64 x.epoch, .int .i64 x.til] 65)) wr.heap.size x) := Cells.new _ _ _
          go_upto_region 6 with fail
          clear c0 c1 c2 c3
          have L2 := Lib.hid (L1.out.trans (A1.out.mono L1.out.size))
          have B2 := Lib.hid (Cells.below B1.out A1.out)
          generalize wr.alloc (.cells #[.int .i64 x.key, .int .i64 x.host, .int .i64 x.epoch, .int .i64 x.til] 65) = w2 at *
          obtain ⟨m0, m1, m2⟩ := TBox.cells B2.out
          obtain ⟨n0, n1, n2, n3⟩ := LBox.cells X1.out
          have BAD : Hid (mayB last now x = false → ok = false) := by
            show _ → _
            intro hf
            exact HN.out (fun h => by have := (h.2.2 k x (by have := hlen.out; omega) HX.out).1; rw [hf] at this; cases this)
          have HMN := Lib.hid (may_not (last := last) (now := now) (x := x))
          rcases f1 : decide (x.key < 0)
          · skip
            rcases f2 : decide (x.host < 0)
            · skip
              rcases f3 : decide (8 ≤ x.host)
              · skip
                rcases f4 : decide (x.epoch < 1)
                · skip
                  rcases f5 : decide (last < x.epoch)
                  · skip
                    rcases f6 : decide (x.til ≤ now)
                    · skip
                      have HMY : Hid (mayB last now x = true) := by show _ = _; rw [HMN.out, f1, f2, f3, f4, f5, f6]; rfl
                      have hsl : ∀ w, (Instr.slice 25 (.slice (some ⟨b, o, none⟩) n c) none (some (.int .i64 (k : Int))) none).run Tryz.prog w = .ok (.slice (some ⟨b, o, none⟩) k c) w := fun w => run_headL _ n c k (by omega) w
                      go_upto_region 8 with fail
                      clear f1 f2 f3 f4 f5 f6
                      go_wp2_with fail
                      clear m0 m1 m2 n0 n1 n2 n3 hsl
                      go_loopw [6, 60] (fun _ i wq => ∃ q : Nat, i = .int .i64 q ∧ q ≤ k ∧ Hid (Below w2.heap.size w2 wq ∧ ∀ j y, j < q → l[j]? = some y → y.key < x.key ∧ y.epoch ≠ x.epoch)) (fun _ i _ => k - (intOf i).toNat)
                      case atStart => exact ⟨0, rfl, by omega, Below.refl _ _, fun j y hj => by omega⟩
                      case round =>
                        obtain ⟨q, rfl, hq, hQ⟩ := hrel
                        by_cases hqk : q < k
                        · obtain ⟨y, hy⟩ := HR.out.get (show q < n by omega)
                          obtain ⟨b', o', hA, hb', hcy⟩ := RowS.lease HR.out hy
                          injection hA with hA
                          injection hA with g1 g2
                          subst g1 g2
                          have hq0 : (0 : Int) ≤ (q : Int) := by omega
                          have hqn : (q : Int) < (k : Int) := by omega
                          have HYY := Lib.hid hy
                          obtain ⟨d0, d1, d2, d3⟩ := hcy wr ((L2.out.trans (hQ.out.1.mono L2.out.size)).block b HBB.out)
                          clear hy hcy hb'
                          have A3 : Hid (Below w2.heap.size w2 (wr.alloc (.cells #[.int .i64 y.key, .int .i64 y.host, .int .i64 y.epoch, .int .i64 y.til] 65))) := hQ.out.1.alloc hQ.out.1.size _
                          have Y3 : Hid (LBox (wr.alloc (.cells #[.int .i64 y.key, .int .i64 y.host, .int .i64 y.epoch, .int .i64 y.til] 65)) wr.heap.size y) := Cells.new _ _ _
                          go_upto_region 11 with fail
                          clear d0 d1 d2 d3
                          have X3 := Lib.hid (Cells.below X1.out A3.out)
                          have BAD2 : Hid (¬ (y.key < x.key ∧ y.epoch ≠ x.epoch) → ok = false) := by
                            show _ → _
                            intro hf
                            exact HN.out (fun h => hf ((h.2.2 k x (by have := hlen.out; omega) HX.out).2 q y hqk HYY.out))
                          generalize wr.alloc (.cells #[.int .i64 y.key, .int .i64 y.host, .int .i64 y.epoch, .int .i64 y.til] 65) = w3 at *
                          obtain ⟨n0, n1, n2, n3⟩ := LBox.cells X3.out
                          obtain ⟨p0, p1, p2, p3⟩ := LBox.cells Y3.out
                          rcases g1 : decide (x.key ≤ y.key)
                          · rcases g2 : (y.epoch == x.epoch)
                            · go_wp2_with fail
                              go_roundw
                              case rel =>
                                refine ⟨q + 1, by go_num, by omega, A3.out, fun j z hj hz => ?_⟩
                                by_cases h1 : j = q
                                · subst h1
                                  have := HYY.out.symm.trans hz
                                  injection this with this; subst this
                                  exact ⟨by have := of_decide_eq_false g1; omega, by simpa using g2⟩
                                · exact hQ.out.2 j z (by omega) hz
                              case measure => simp [intOf]; omega
                            · go_wp2_with fail
                              go_ret
                              exact ⟨by rw [BAD2.out (fun h => h.2 (by simpa using g2))]; rfl, L2.out.trans (A3.out.mono L2.out.size)⟩
                          · go_wp2_with fail
                            go_ret
                            exact ⟨by rw [BAD2.out (fun h => by have := of_decide_eq_true g1; omega)]; rfl, L2.out.trans (A3.out.mono L2.out.size)⟩
                        · have hqk2 : q = k := by omega
                          subst hqk2
                          go_wp2_with fail
                          go_roundw
                          case rel =>
                            refine ⟨q + 1, by go_num, by omega, A1.out.trans (hQ.out.1.mono A1.out.size), fun i z hi hz => ?_⟩
                            by_cases h1 : i = q
                            · subst h1
                              have := HX.out.symm.trans hz
                              injection this with this; subst this
                              exact ⟨HMY.out, hQ.out.2⟩
                            · exact hH.out.2 i z (by omega) hz
                          case measure => simp [intOf]; omega
                    · go_wp2_with fail
                      go_ret
                      exact ⟨by rw [BAD.out (by rw [HMN.out, f1, f2, f3, f4, f5, f6]; simp)]; rfl, L2.out⟩
                  · go_wp2_with fail
                    go_ret
                    exact ⟨by rw [BAD.out (by rw [HMN.out, f1, f2, f3, f4, f5]; simp)]; rfl, L2.out⟩
                · go_wp2_with fail
                  go_ret
                  exact ⟨by rw [BAD.out (by rw [HMN.out, f1, f2, f3, f4]; simp)]; rfl, L2.out⟩
              · go_wp2_with fail
                go_ret
                exact ⟨by rw [BAD.out (by rw [HMN.out, f1, f2, f3]; simp)]; rfl, L2.out⟩
            · go_wp2_with fail
              go_ret
              exact ⟨by rw [BAD.out (by rw [HMN.out, f1, f2]; simp)]; rfl, L2.out⟩
          · go_wp2_with fail
            go_ret
            exact ⟨by rw [BAD.out (by rw [HMN.out, f1]; simp)]; rfl, L2.out⟩
        · have hkn : k = n := by omega
          subst hkn
          have HOK := Lib.hid (HY.out ⟨by have := E1.out; omega, by have := E2.out; omega, by rw [hlen.out]; exact hH.out.2⟩)
          go_wp2_with fail
          go_ret
          exact ⟨by rw [HOK.out]; rfl, L1.out.trans (hH.out.1.mono L1.out.size)⟩
    · go_enter Tryz.func12, Tryz.ntmps12
      go_upto_region 1 with fail
      generalize w.alloc (.cells #[.int .i64 last, .int .i64 now, .slice A n c] 27) = w1 at *
      obtain ⟨m0, m1, m2⟩ := TBox.cells B1.out
      go_wp2_with fail
      go_ret
      exact ⟨by rw [HN.out (fun h => by have := of_decide_eq_true e2; omega)]; rfl, L1.out⟩
  · go_enter Tryz.func12, Tryz.ntmps12
    go_upto_region 1 with fail
    generalize w.alloc (.cells #[.int .i64 last, .int .i64 now, .slice A n c] 27) = w1 at *
    obtain ⟨m0, m1, m2⟩ := TBox.cells B1.out
    go_wp2_with fail
    go_ret
    exact ⟨by rw [HN.out (fun h => by have := of_decide_eq_true e1; omega)]; rfl, L1.out⟩
end Lea
end Go.Proofs.YtmflngclncidjaaGreat
/-
  WALKS: what the document's own functions tell of a table: Holder, Of, Next; which leases, ints and tables are the same; copies; few. (Written by gen_leareft.py.)
-/
namespace Go.Proofs.YtmflngclncidjaaGreat
open Go.RowKit Mem
namespace Lea

theorem lease_guard : Tryz.prog.eqGuardType Tryz.prog.depth 65 = false := by kernel_rfl
theorem lease_equal (x : Lv) (w : World) : (Op.equalIn 10000 65 (lv x) (lv x)).run Tryz.prog w = .ok true w := by
  have u3 := Tryz.underlying3
  have a3 := Tryz.isAgg3
  have z3 := Tryz.sizeOf3
  have hS : Tryz.prog.underlying 65 = some (.struct (Tryz.prog.fieldsOf 65)) := by kernel_rfl
  have hp : Tryz.prog.stoodInHeld 65 = false := by kernel_rfl
  rw [show (10000 : Nat) = 9999 + 1 from rfl, run_equalIn_agg w 9999 65 _ _ hS hp]
  simp only [Program.fieldsOf, Tryz.underlying65]
  go_simp
  try simp
theorem lease_eql (x : Lv) (w : World) : (binOp .eql 65 (lv x) (lv x)).run Tryz.prog w = .ok (.bool true) w := by
  rw [run_eql_struct, lease_equal]; rfl
theorem lease_neq (x : Lv) (w : World) : (binOp .neq 65 (lv x) (lv x)).run Tryz.prog w = .ok (.bool false) w := by
  rw [run_neq_struct, lease_equal]; rfl

theorem find_first {l : List Lv} {key : Int} {k : Nat} {x : Lv} (h : ∀ j y, j < k → l[j]? = some y → y.key ≠ key) (hx : l[k]? = some x) (hk : x.key = key) : findL l key = some x := by
  induction l generalizing k with
  | nil => simp at hx
  | cons a l ih =>
    unfold findL
    rcases k with _ | k
    · simp at hx; subst hx
      rw [List.find?_cons_of_pos (by simpa using hk)]
    · rw [List.find?_cons_of_neg (by simpa using h 0 a (by omega) rfl)]
      exact ih (k := k) (fun j y hj hy => h (j + 1) y (by omega) (by simpa using hy)) (by simpa using hx)
theorem held_none {l : List Lv} {key : Int} {n : Nat} (hl : l.length = n) (h : ∀ j y, j < n → l[j]? = some y → y.key ≠ key) : heldB l key = false := by
  rw [held_false]
  intro x hx
  obtain ⟨i, hi⟩ := List.mem_iff_getElem?.1 hx
  exact h i x (by have := (List.getElem?_eq_some_iff.1 hi).1; omega) hi

set_option maxRecDepth 100000 in
set_option maxHeartbeats 6400000 in
theorem refHolder_any {last now : Int} {A : Option Addr} {n c : Nat} {l : List Lv} {w : World} (key : Int) (h : RowL w A n c l) (hn : n ≤ 1000000) :
    Calls Tryz.prog 19 #[tv last now A n c, .int .i64 key] w fun e w' => e = .returned (.tuple #[lv (holdP ⟨last, now, l⟩ key).1, .bool (holdP ⟨last, now, l⟩ key).2]) ∧ Below w.heap.size w w' := by
  have HR := Lib.hid h
  have hbig := h.big
  have hlen := Lib.hid h.len
  have HC := fun w (h : RowL w A n c l) => Lib.hid (refCheck_any (last := last) (now := now) h hn)
  unfold errOf at HC
  have L1 : Hid (Below w.heap.size w ((w.alloc (.cells #[.int .i64 last, .int .i64 now, .slice A n c] 27)).alloc (.cells #[.int .i64 0, .int .i64 0, .int .i64 0, .int .i64 0] 65))) := ((Below.refl w.heap.size w).alloc (Nat.le_refl _) _).alloc (by simp) _
  have B1 : Hid (TBox ((w.alloc (.cells #[.int .i64 last, .int .i64 now, .slice A n c] 27)).alloc (.cells #[.int .i64 0, .int .i64 0, .int .i64 0, .int .i64 0] 65)) w.heap.size last now A n c) := heap_alloc2_old w _ _
  have N1 : Hid (LBox ((w.alloc (.cells #[.int .i64 last, .int .i64 now, .slice A n c] 27)).alloc (.cells #[.int .i64 0, .int .i64 0, .int .i64 0, .int .i64 0] 65)) (w.heap.size + 1) zL) := heap_alloc2_new w _ _
  clear h
  unfold holdP
  simp only
  have HN := Lib.hid (fun h => held_none (key := key) hlen.out h)
  have HY := fun k x => Lib.hid (fun h1 h2 h3 => find_first (l := l) (key := key) (k := k) (x := x) h1 h2 h3)
  rcases hok : okT ⟨last, now, l⟩
  · rw [hok] at HC
    simp only [cond_false] at HC
    go_enter Tryz.func19, Tryz.ntmps19
    go_upto_region 1 with fail
    generalize (w.alloc (.cells #[.int .i64 last, .int .i64 now, .slice A n c] 27)).alloc (.cells #[.int .i64 0, .int .i64 0, .int .i64 0, .int .i64 0] 65) = w1 at *
    obtain ⟨m0, m1, m2⟩ := TBox.cells B1.out
    go_wp2_with fail
    refine (HC w1 (HR.out.below L1.out)).out.mono ?_
    rintro e w2 ⟨rfl, hb⟩
    have L2 := Lib.hid (L1.out.trans (hb.mono L1.out.size))
    have B2 := Lib.hid (Cells.below B1.out hb)
    have N2 := Lib.hid (Cells.below N1.out hb)
    clear hb m0 m1 m2
    obtain ⟨z0, z1, z2, z3⟩ := LBox.cells (x := zL) N2.out
    obtain ⟨f0, f1, f2, f3⟩ := LBox.frozen (x := zL) N2.out
    go_wp2_with fail
    refine bodyPost_ret_by (results_c1 rfl _ _ (w.heap.size + 1) _ _ _ _ rfl (Cells.set4 N2.out (.int .i64 0) (.int .i64 0) (.int .i64 0) (.int .i64 0)) Tryz.underlying65 rfl (by kernel_rfl)) rfl ?_
    exact ⟨rfl, below4 L2.out (by omega) _ _ _ _⟩
  · rw [hok] at HC
    simp only [cond_true] at HC
    go_enter Tryz.func19, Tryz.ntmps19
    go_upto_region 1 with fail
    generalize (w.alloc (.cells #[.int .i64 last, .int .i64 now, .slice A n c] 27)).alloc (.cells #[.int .i64 0, .int .i64 0, .int .i64 0, .int .i64 0] 65) = w1 at *
    obtain ⟨m0, m1, m2⟩ := TBox.cells B1.out
    go_wp2_with fail
    refine (HC w1 (HR.out.below L1.out)).out.mono ?_
    rintro e w2 ⟨rfl, hb⟩
    have L2 := Lib.hid (L1.out.trans (hb.mono L1.out.size))
    have B2 := Lib.hid (Cells.below B1.out hb)
    have N2 := Lib.hid (Cells.below N1.out hb)
    clear hb m0 m1 m2
    obtain ⟨m0, m1, m2⟩ := TBox.cells B2.out
    go_wp2_with fail
    clear m0 m1 m2 B1 N1 L1 HC
    go_loopw [7, 15] (fun _ i wr => ∃ k : Nat, i = .int .i64 k ∧ k ≤ n ∧ Hid (Below w2.heap.size w2 wr ∧ ∀ j y, j < k → l[j]? = some y → y.key ≠ key)) (fun _ i _ => n - (intOf i).toNat)
    case atStart => exact ⟨0, rfl, by omega, Below.refl _ _, fun j y hj => by omega⟩
    case round =>
      obtain ⟨k, rfl, hk, hH⟩ := hrel
      by_cases hlt : k < n
      · obtain ⟨x, hx⟩ := HR.out.get hlt
        obtain ⟨b, o, hA, c0, c1, c2, c3⟩ := RowS.lease_at (HR.out.below (L2.out.trans (hH.out.1.mono L2.out.size))) hx
        subst hA
        have HX := Lib.hid hx
        have hk0 : (0 : Int) ≤ (k : Int) := by omega
        have hkn : (k : Int) < (n : Int) := by omega
        clear hx
        have A1 : Hid (Below w2.heap.size w2 (wr.alloc (.cells #[.int .i64 x.key, .int .i64 x.host, .int .i64 x.epoch, .int .i64 x.til] 65))) := hH.out.1.alloc hH.out.1.size _
        have X1 : Hid (LBox (wr.alloc (.cells #[.int .i64 x.key, .int .i64 x.host, .int .i64 x.epoch, .int .i64 x.til] 65)) wr.heap.size x) := Cells.new _ _ _
        go_upto_region 6 with fail
        clear c0 c1 c2 c3
        have N3 := Lib.hid (Cells.below N2.out A1.out)
        generalize wr.alloc (.cells #[.int .i64 x.key, .int .i64 x.host, .int .i64 x.epoch, .int .i64 x.til] 65) = w3 at *
        obtain ⟨n0, n1, n2, n3⟩ := LBox.cells X1.out
        rcases e : (x.key == key)
        · have HE : Hid (¬ x.key = key) := by show ¬ _; simpa using e
          go_wp2_with fail
          go_roundw
          case rel =>
            refine ⟨k + 1, by go_num, by omega, A1.out, fun j y hj hy => ?_⟩
            by_cases h1 : j = k
            · subst h1
              have := HX.out.symm.trans hy
              injection this with this; subst this
              exact HE.out
            · exact hH.out.2 j y (by omega) hy
          case measure => simp [intOf]; omega
        · have hkk : x.key = key := by simpa using e
          have HF := Lib.hid ((HY k x).out hH.out.2 HX.out hkk)
          have HHB : Hid (heldB l key = true) := by show _ = _; rw [find_held, HF.out]; rfl
          have HG : Hid (getL l key = x) := by show _ = _; unfold getL; rw [HF.out]; rfl
          clear hkk
          obtain ⟨z0, z1, z2, z3⟩ := LBox.cells (x := zL) N3.out
          obtain ⟨f0, f1, f2, f3⟩ := LBox.frozen (x := zL) N3.out
          go_wp2_with fail
          refine bodyPost_ret_by (results_c1 rfl _ _ (w.heap.size + 1) _ _ _ _ rfl (Cells.set4 N3.out (.int .i64 x.key) (.int .i64 x.host) (.int .i64 x.epoch) (.int .i64 x.til)) Tryz.underlying65 rfl (by kernel_rfl)) rfl ?_
          exact ⟨by rw [HHB.out, HG.out]; rfl, below4 (L2.out.trans (A1.out.mono L2.out.size)) (by omega) _ _ _ _⟩
      · have hkn : k = n := by omega
        subst hkn
        have HHB := Lib.hid (HN.out hH.out.2)
        have N3 := Lib.hid (Cells.below N2.out hH.out.1)
        obtain ⟨z0, z1, z2, z3⟩ := LBox.cells (x := zL) N3.out
        obtain ⟨f0, f1, f2, f3⟩ := LBox.frozen (x := zL) N3.out
        go_wp2_with fail
        refine bodyPost_ret_by (results_c1 rfl _ _ (w.heap.size + 1) _ _ _ _ rfl (Cells.set4 N3.out (.int .i64 0) (.int .i64 0) (.int .i64 0) (.int .i64 0)) Tryz.underlying65 rfl (by kernel_rfl)) rfl ?_
        exact ⟨by rw [HHB.out]; rfl, below4 (L2.out.trans (hH.out.1.mono L2.out.size)) (by omega) _ _ _ _⟩


end Lea
end Go.Proofs.YtmflngclncidjaaGreat
