/-
  WALKS OVER zns.All AND zns.Do. (Written by gen_all.py.)
-/
import Derived.Test.YtbmblgjilmgkeaaZnsDoAny
import Derived.Test.YtbmblgjilmgkeaaZnsDesk
import Derived.Test.YtbmblgjilmgkeaaZnsDone
namespace Go.Proofs.Ytbmblgjilmgkeaa
open Go.RowKit Mem Zon
namespace Zns

/-- What All gave. -/
def Gone (w : World) (d : Dx) (m : Nat) (r : Dv × List Dn) (en : Ending) (w' : World) : Prop :=
  ∃ A c xs B es, en = .returned (.tuple #[.agg #[.int .i64 d.cap, .int .i64 d.op, .int .i64 d.ac, .slice A d.n c], .slice B m m]) ∧ DevAt w' ⟨d.cap, d.op, d.ac, A, d.n, c, xs⟩ ∧ (⟨d.cap, d.op, d.ac, xs.map Zv.z⟩ : Dv) = r.1 ∧
    RowS cellsE 3 w' B m m es ∧ (∀ x ∈ es, DoneAt w' x) ∧ es.map Ex.p = r.2 ∧ Below w.heap.size w w' ∧ (∀ q o, A = some ⟨q, o, none⟩ → w.heap.size ≤ q) ∧ (∀ q o, B = some ⟨q, o, none⟩ → w.heap.size ≤ q)

/-- A block that holds no bytes may change: bytes stay. -/
theorem Row.butBox {w w' : World} {b : Nat} {t : TypeId} {cs : Array Value} {A : Option Addr} {n c : Nat} {l : List B8} (h : Row cb w A n c l) (hc : Cells w b t cs) (hn : ∀ (j : Nat) (v : Value), cs[j]? = some v → ∀ x, v ≠ cb x) (hb : But b w w') : Row cb w' A n c l := by
  refine ⟨h.len, h.cap, h.big, fun h0 => ?_⟩
  obtain ⟨q, o, e, hq, hcell⟩ := h.at_ h0
  have hne : q ≠ b := by
    intro e2
    subst e2
    obtain ⟨x, hx⟩ := h.get h0
    have h1 := hcell 0 x hx
    rw [Cells.cell hc] at h1
    exact hn _ _ h1 x rfl
  refine ⟨q, o, e, Nat.lt_of_lt_of_le hq hb.by_.size, fun i x hi => ?_⟩
  rw [World.cell?_of_block (w := w) (hb.block hq hne)]
  exact hcell i x hi
theorem RowS.butBlock {α : Type} {cells : α → List Value} {k : Nat} {w w' : World} {b : Nat} {A : Option Addr} {n c : Nat} {xs : List α} (h : RowS cells k w A n c xs) (hn : ∀ q o, A = some ⟨q, o, none⟩ → 0 < n → q ≠ b) (hb : But b w w') : RowS cells k w' A n c xs := by
  refine ⟨h.len, h.cap, h.big, fun h0 => ?_⟩
  obtain ⟨q, o, e, hq, hcell⟩ := h.at_ h0
  refine ⟨q, o, e, Nat.lt_of_lt_of_le hq hb.by_.size, fun i x hi j u hu => ?_⟩
  rw [World.cell?_of_block (w := w) (hb.block hq (hn q o e h0))]
  exact hcell i x hi j u hu
theorem dev_not (a b c : Int) (A : Option Addr) (n k : Nat) : ∀ (j : Nat) (v : Value), (#[Value.int .i64 a, .int .i64 b, .int .i64 c, .slice A n k] : Array Value)[j]? = some v → ∀ x, v ≠ cb x := by
  intro j v h x
  match j, h with
  | 0, h => simp at h; subst h; exact int_not _ x
  | 1, h => simp at h; subst h; exact int_not _ x
  | 2, h => simp at h; subst h; exact int_not _ x
  | 3, h => simp at h; subst h; exact slice_not _ _ _ x
theorem But.set4 (w : World) (q : Nat) (x y z v : Value) : But q w ((((w.setCell ⟨q, 0, none⟩ x).setCell ⟨q, 1, none⟩ y).setCell ⟨q, 2, none⟩ z).setCell ⟨q, 3, none⟩ v) :=
  (But.set1 _ _ _ _).trans ((But.set1 _ _ _ _).trans ((But.set1 _ _ _ _).trans (But.set1 _ _ _ _)))
theorem Cells.set4 {w : World} {q : Nat} {t : TypeId} {a b c d : Value} (h : Cells w q t #[a, b, c, d]) (x y z v : Value) : Cells ((((w.setCell ⟨q, 0, none⟩ x).setCell ⟨q, 1, none⟩ y).setCell ⟨q, 2, none⟩ z).setCell ⟨q, 3, none⟩ v) q t #[x, y, z, v] :=
  Cells.set_ (Cells.set_ (Cells.set_ (Cells.set_ h 0 x) 1 y) 2 z) 3 v
theorem below4 {B g : Nat} {a w : World} (h : Below B a w) (hg : B ≤ g) (x y z v : Value) : Below B a ((((w.setCell ⟨g, 0, none⟩ x).setCell ⟨g, 1, none⟩ y).setCell ⟨g, 2, none⟩ z).setCell ⟨g, 3, none⟩ v) :=
  (((h.setCell (p := ⟨g, 0, none⟩) hg x).setCell (p := ⟨g, 1, none⟩) hg y).setCell (p := ⟨g, 2, none⟩) hg z).setCell (p := ⟨g, 3, none⟩) hg v
theorem take_set {α : Type} (l : List α) (j : Nat) (e : α) (hj : j < l.length) : (l.set j e).take (j + 1) = l.take j ++ [e] := by
  rw [List.take_add_one, List.getElem?_set, if_pos rfl, if_pos hj, Option.toList_some, List.take_set_of_le (by omega)]
/-- How a command lies in its row. -/
theorem cmd_cells {w W : World} {L : Option Addr} {m lc : Nat} {cs : List Cx} (h : RowS cellsC 6 w L m lc cs) {j : Nat} {x : Cx} (hx : cs[j]? = some x) (hW : Below w.heap.size w W) :
    ∃ b o, L = some ⟨b, o, none⟩ ∧ W.cell? ⟨b, o + j * 6, none⟩ = some (.int .i64 x.c.d) ∧ W.cell? ⟨b, o + j * 6 + 1, none⟩ = some (.int .i64 x.c.zone) ∧ W.cell? ⟨b, o + j * 6 + 2, none⟩ = some (.int .i64 x.c.epoch) ∧ W.cell? ⟨b, o + j * 6 + 3, none⟩ = some (.int .i64 x.c.off) ∧ W.cell? ⟨b, o + j * 6 + 4, none⟩ = some (.int .i64 x.c.n) ∧ W.cell? ⟨b, o + j * 6 + 5, none⟩ = some (.slice x.B x.c.b.length x.k) := by
  obtain ⟨b, o, e, hb, hc⟩ := h.elem hx
  exact ⟨b, o, e, hc W (hW.block b hb) 0 _ rfl, hc W (hW.block b hb) 1 _ rfl, hc W (hW.block b hb) 2 _ rfl, hc W (hW.block b hb) 3 _ rfl, hc W (hW.block b hb) 4 _ rfl, hc W (hW.block b hb) 5 _ rfl⟩

/-- Bytes stay where another block alone has changed. -/
theorem Away.keep {q : Nat} {w w' : World} {B : Option Addr} {n d : Nat} {l : List B8} (h : Away q w B n d l) (hb : But q w w') : Away q w' B n d l := by
  obtain ⟨h, hq⟩ := h
  refine ⟨⟨h.len, h.cap, h.big, fun h0 => ?_⟩, hq⟩
  obtain ⟨p, o, e, hp, hc⟩ := h.at_ h0
  refine ⟨p, o, e, Nat.lt_of_lt_of_le hp hb.by_.size, fun i x hi => ?_⟩
  rw [World.cell?_of_block (w := w) (hb.block hp (hq p o e h0))]
  exact hc i x hi
theorem Away.below {q : Nat} {w w' : World} {B : Option Addr} {n d : Nat} {l : List B8} (h : Away q w B n d l) (hb : Below w.heap.size w w') : Away q w' B n d l := ⟨h.1.below hb, h.2⟩
def AwayE (q : Nat) (w : World) (x : Ex) : Prop := Away q w x.B x.p.b.length x.k x.p.b

set_option maxRecDepth 100000 in
set_option maxHeartbeats 12800000 in
theorem all_ok {d : Dx} {L : Option Addr} {m lc : Nat} {cs : List Cx} {w : World} (h : DevAt w d) (hn : d.n ≤ 1000) (hl : RowS cellsC 6 w L m lc cs) (hcs : ∀ x ∈ cs, CmdAt w x) (hm : m ≤ 1000) (hok : okD d.p = true) :
    Calls Try.prog 22 #[dxv d, .slice L m lc] w (Gone w d m (⟨d.cap, d.op, d.ac, (stepsP d.cap d.op d.ac (d.xs.map Zv.z) (cs.map Cx.c)).1⟩, (stepsP d.cap d.op d.ac (d.xs.map Zv.z) (cs.map Cx.c)).2)) := by
  unfold Gone
  have HR := Lib.hid h
  have HCS := Lib.hid hcs
  have HL := Lib.hid hl
  have HLN := Lib.hid (show cs.length = m from hl.len)
  have L1 : Hid (Below w.heap.size w ((w.alloc (.cells #[.int .i64 d.cap, .int .i64 d.op, .int .i64 d.ac, .slice d.A d.n d.c] 25)).alloc (.cells #[.int .i64 0, .int .i64 0, .int .i64 0, .slice none 0 0] 25))) := ((Below.refl w.heap.size w).alloc (Nat.le_refl _) _).alloc (by simp) _
  have B1 : Hid (DBox ((w.alloc (.cells #[.int .i64 d.cap, .int .i64 d.op, .int .i64 d.ac, .slice d.A d.n d.c] 25)).alloc (.cells #[.int .i64 0, .int .i64 0, .int .i64 0, .slice none 0 0] 25)) w.heap.size d) := heap_alloc2_old w _ _
  have N1 : Hid (Cells ((w.alloc (.cells #[.int .i64 d.cap, .int .i64 d.op, .int .i64 d.ac, .slice d.A d.n d.c] 25)).alloc (.cells #[.int .i64 0, .int .i64 0, .int .i64 0, .slice none 0 0] 25)) (w.heap.size + 1) 25 #[.int .i64 0, .int .i64 0, .int .i64 0, .slice none 0 0]) := heap_alloc2_new w _ _
  have HN := fun w (h : DevAt w d) => Lib.hid (newDesk_any h hn)
  have HA := fun g w => Lib.hid (acts_any g w)
  obtain ⟨o, ho⟩ : ∃ o : Nat, o = 0 := ⟨0, rfl⟩
  have hmk : ∀ w : World, (Instr.makeSlice 52 (.int .i64 (m : Int)) (.int .i64 (m : Int))).run Try.prog w = .ok (.slice (some ⟨w.heap.size, o, none⟩) m m) (w.alloc (.cells (madeCells #[.int .i64 0, .int .i64 0, .slice none 0 0] (m * 3)) 38)) := by
    rw [ho]; exact fun w => run_make_done w m hm
  have HMD := fun w : World => Lib.hid (show OwnE (w.alloc (.cells (madeCells #[.int .i64 0, .int .i64 0, .slice none 0 0] (m * 3)) 38)) w.heap.size o (List.replicate m zeroE) by rw [ho]; exact made_done m)
  clear h hcs hl ho
  unfold Made at HN
  rw [hok] at HN
  unfold dxv at HN ⊢
  go_enter Try.func22, Try.ntmps22
  go_upto_region 1 with fail
  generalize (w.alloc (.cells #[.int .i64 d.cap, .int .i64 d.op, .int .i64 d.ac, .slice d.A d.n d.c] 25)).alloc (.cells #[.int .i64 0, .int .i64 0, .int .i64 0, .slice none 0 0] 25) = w1 at *
  obtain ⟨m0, m1, m2, m3⟩ := B1.out.cells
  go_wp2_with fail
  refine (HN w1 (HR.out.below L1.out)).out.mono ?_
  rintro e w2 ⟨g, A, c', xs', rfl, hg, hk, hrow, hdat, hmap, hb, hown⟩
  have hb0 := (okD_parts (d := d.p)).1 hok
  rw [HR.out.plen] at hb0
  obtain ⟨n1, n64, -⟩ := bounds_parts.1 hb0.1
  obtain ⟨q, o1, rfl, hq, hgq, hoz⟩ := hown (by omega)
  have K2 : Hid (Desk ⟨g, q, o1, d.cap, d.op, d.ac, d.n, c'⟩ xs' w2) := ⟨hk, hoz, hrow.len, hrow.cap, by show d.n ≤ 64; omega, hdat, hgq⟩
  have L2 := Lib.hid (L1.out.trans (hb.mono L1.out.size))
  have N2 := Lib.hid (Cells.below N1.out hb)
  have U2 : Hid (w.heap.size + 1 < g ∧ w.heap.size + 1 < q ∧ w.heap.size ≤ g ∧ w.heap.size ≤ q) := by
    have := Cells.lt N1.out
    exact ⟨by omega, by omega, by omega, by omega⟩
  have M2 := Lib.hid hmap
  clear hb hown hrow hdat hk hoz hmap hg hq hgq hb0 n1 n64 m0 m1 m2 m3 L1 B1 N1 HN hok
  go_wp2_with fail
  refine (HA g w2).out.mono ?_
  rintro e w3 ⟨rfl, hac, hb⟩
  have K3 := Lib.hid (K2.out.below hb)
  have L3 := Lib.hid (L2.out.trans (hb.mono L2.out.size))
  have N3 := Lib.hid (Cells.below N2.out hb)
  have C3 := Lib.hid hac
  have V3 : Hid (g < w2.heap.size ∧ q < w2.heap.size ∧ w2.heap.size < w3.heap.size ∧ w.heap.size + 1 < w2.heap.size) := by
    have h1 := K2.out.g_lt
    have h2 := K2.out.q_lt
    have h3 := (Array.getElem?_eq_some_iff.1 hac).1
    have h4 := Cells.lt N2.out
    exact ⟨h1, h2, h3, h4⟩
  clear hb hac K2 L2 N2 HA
  generalize w2.heap.size = r at *
  go_upto_region 4 with fail
  have b4 : Below w3.heap.size w3 (w3.alloc (.cells (madeCells #[.int .i64 0, .int .i64 0, .slice none 0 0] (m * 3)) 38)) := (Below.refl _ w3).alloc (Nat.le_refl _) _
  have K4 := Lib.hid (K3.out.below b4)
  have L4 := Lib.hid (L3.out.trans (b4.mono L3.out.size))
  have N4 := Lib.hid (Cells.below N3.out b4)
  have C4 := Lib.hid (C3.out.below b4)
  have E4 := HMD w3
  have V4 : Hid (w.heap.size ≤ w3.heap.size) := L3.out.size
  clear b4 K3 L3 N3 C3 HMD hmk
  generalize w3.alloc (.cells (madeCells #[.int .i64 0, .int .i64 0, .slice none 0 0] (m * 3)) 38) = w4 at *
  generalize w3.heap.size = dq at *
  generalize hsp : stepsP d.cap d.op d.ac (d.xs.map Zv.z) = sp at *
  have HSP : Hid (∀ l c, sp (l ++ [c]) = ((stepP d.cap d.op d.ac (sp l).1 c).1, (sp l).2 ++ [(stepP d.cap d.op d.ac (sp l).1 c).2])) := by
    show ∀ _, _
    intro l c
    rw [← hsp]; exact stepsP_snoc _ _ _ _ _ _
  have HS0 : Hid (sp [] = (d.xs.map Zv.z, [])) := by show _ = _; rw [← hsp]; rfl
  have HSE := Lib.hid hsp
  clear hsp
  go_wp2_with fail
  go_loopw [20] (fun i wr => ∃ j : Nat, i = .int .i64 j ∧ j ≤ m ∧ Hid (∃ xs' es, Desk ⟨g, q, o1, d.cap, d.op, d.ac, d.n, c'⟩ xs' wr ∧ Acts wr r g ∧ OwnE wr dq o es ∧ es.length = m ∧ (∀ x ∈ es, AwayE q wr x) ∧ Below w.heap.size w wr ∧
    Cells wr (w.heap.size + 1) 25 #[.int .i64 0, .int .i64 0, .int .i64 0, .slice none 0 0] ∧ xs'.map Zv.z = (sp ((cs.take j).map Cx.c)).1 ∧ (es.take j).map Ex.p = (sp ((cs.take j).map Cx.c)).2)) (fun i _ => m - (intOf i).toNat)
  case atStart =>
    refine ⟨0, rfl, by omega, xs', List.replicate m zeroE, K4.out, C4.out, E4.out, by simp, fun x hx => ?_, L4.out, N4.out, ?_, ?_⟩
    · rw [List.eq_of_mem_replicate hx]; exact Away.nil _ _
    · rw [M2.out]; show _ = (sp []).1; rw [HS0.out]
    · show _ = (sp []).2; rw [HS0.out]; rfl
  case round =>
    obtain ⟨j, rfl, hj, hI⟩ := hrel
    by_cases hlt : j < m
    · obtain ⟨xs1, es, i1, i2, i3, i4, i5, i6, i7, i8, i9⟩ := hI.out
      have K5 := Lib.hid i1
      have C5 := Lib.hid i2
      have E5 := Lib.hid i3
      have EL := Lib.hid i4
      have ED := Lib.hid i5
      have L5 := Lib.hid i6
      have N5 := Lib.hid i7
      have M5 := Lib.hid i8
      have P5 := Lib.hid i9
      clear hI i1 i2 i3 i4 i5 i6 i7 i8 i9 K4 C4 E4 L4 N4
      obtain ⟨x, hx⟩ := HL.out.get hlt
      obtain ⟨b, oo, rfl, c0, c1, c2, c3, c4, c5⟩ := cmd_cells HL.out hx L5.out
      have HX := Lib.hid hx
      have HXC := Lib.hid (HCS.out x (List.mem_of_getElem? hx))
      have hk0 : (0 : Int) ≤ (j : Int) := by omega
      have hk1 : (j : Int) < (m : Int) := by omega
      have b6 : Below wr.heap.size wr (wr.alloc (.cells #[.int .i64 x.c.d, .int .i64 x.c.zone, .int .i64 x.c.epoch, .int .i64 x.c.off, .int .i64 x.c.n, .slice x.B x.c.b.length x.k] 36)) := (Below.refl _ wr).alloc (Nat.le_refl _) _
      have K6 := Lib.hid (K5.out.below b6)
      have C6 := Lib.hid (C5.out.below b6)
      have E6 := Lib.hid (E5.out.below b6)
      have ED6 : Hid (∀ y ∈ es, AwayE q (wr.alloc (.cells #[.int .i64 x.c.d, .int .i64 x.c.zone, .int .i64 x.c.epoch, .int .i64 x.c.off, .int .i64 x.c.n, .slice x.B x.c.b.length x.k] 36)) y) := fun y hy => Away.below (ED.out y hy) b6
      have L6 := Lib.hid (L5.out.trans (b6.mono L5.out.size))
      have N6 := Lib.hid (Cells.below N5.out b6)
      have X6 : Hid (CBox (wr.alloc (.cells #[.int .i64 x.c.d, .int .i64 x.c.zone, .int .i64 x.c.epoch, .int .i64 x.c.off, .int .i64 x.c.n, .slice x.B x.c.b.length x.k] 36)) wr.heap.size x.c.d x.c.zone x.c.epoch x.c.off x.c.n x.B x.c.b.length x.k) := Cells.new wr _ _
      have HD := fun w (h : Desk ⟨g, q, o1, d.cap, d.op, d.ac, d.n, c'⟩ xs1 w) (ha : Acts w r g) (hc : CmdAt w x) => Lib.hid (do_any h ha hc)
      unfold cxv Acted at HD
      clear hx b6 K5 C5 E5 ED L5 N5
      go_upto_region 7 with fail
      clear c0 c1 c2 c3 c4 c5
      generalize wr.alloc (.cells #[.int .i64 x.c.d, .int .i64 x.c.zone, .int .i64 x.c.epoch, .int .i64 x.c.off, .int .i64 x.c.n, .slice x.B x.c.b.length x.k] 36) = w6 at *
      generalize wr.heap.size = gx at *
      obtain ⟨y0, y1, y2, y3, y4, y5⟩ := CBox.cells X6.out
      go_wp2_with fail
      refine (HD w6 K6.out C6.out (HXC.out.below L6.out)).out.mono ?_
      rintro e w7 ⟨xs2, X, xc, rfl, hD, hz, hr, hB⟩
      have HNE : Hid (dq ≠ g ∧ dq ≠ q ∧ dq ≠ r ∧ r ≠ q ∧ dq ≠ w.heap.size + 1 ∧ w.heap.size + 1 ≠ q ∧ r ≠ dq) := by
        have h1 := V3.out
        have h2 := V4.out
        have h3 := U2.out
        exact ⟨by omega, by omega, by omega, by omega, by omega, by omega, by omega⟩
      have K7 := Lib.hid hD
      have C7 := Lib.hid (C6.out.but hB HNE.out.2.2.2.1)
      have E7 := Lib.hid (E6.out.but hB HNE.out.2.1)
      have OZ6 := Lib.hid K6.out.own
      have ED7 : Hid (∀ x ∈ es, AwayE q w7 x) := by
        show ∀ _, _
        intro y hy
        exact Away.keep (ED6.out y hy) hB
      have L7 := Lib.hid (L6.out.trans (hB.below L6.out.size (by have := U2.out; omega)))
      have N7 := Lib.hid (Cells.but N6.out hB HNE.out.2.2.2.2.2.1)
      have R7 := Lib.hid hr
      have M7 := Lib.hid hz
      clear hD hz hr hB y0 y1 y2 y3 y4 y5 K6 C6 E6 ED6 L6 N6 X6 HD OZ6
      have HST := Lib.hid (HSP.out ((cs.take j).map Cx.c) x.c)
      rw [M5.out] at M7 R7 ⊢
      generalize stepP d.cap d.op d.ac (sp ((cs.take j).map Cx.c)).1 x.c = st at *
      obtain ⟨e0, he0⟩ : ∃ e0, es[j]? = some e0 := ⟨_, List.getElem?_eq_getElem (by have := EL.out; omega)⟩
      have HE0 := Lib.hid he0
      clear he0
      have z0 : w7.cell? ⟨dq, o + j * 3, none⟩ = some (.int .i64 e0.p.e) := E7.out.cell HE0.out (j := 0) rfl
      have z1 := E7.out.cell HE0.out (j := 1) rfl
      have z2 := E7.out.cell HE0.out (j := 2) rfl
      have f0 := E7.out.frozen (o + j * 3)
      have f1 := E7.out.frozen (o + j * 3 + 1)
      have f2 := E7.out.frozen (o + j * 3 + 2)
      have FIN : Hid (∃ xs' es, Desk ⟨g, q, o1, d.cap, d.op, d.ac, d.n, c'⟩ xs' (((w7.setCell ⟨dq, o + j * 3, none⟩ (.int .i64 st.2.e)).setCell ⟨dq, o + j * 3 + 1, none⟩ (.int .i64 st.2.at_)).setCell ⟨dq, o + j * 3 + 2, none⟩ (.slice X st.2.b.length xc)) ∧ Acts (((w7.setCell ⟨dq, o + j * 3, none⟩ (.int .i64 st.2.e)).setCell ⟨dq, o + j * 3 + 1, none⟩ (.int .i64 st.2.at_)).setCell ⟨dq, o + j * 3 + 2, none⟩ (.slice X st.2.b.length xc)) r g ∧ OwnE (((w7.setCell ⟨dq, o + j * 3, none⟩ (.int .i64 st.2.e)).setCell ⟨dq, o + j * 3 + 1, none⟩ (.int .i64 st.2.at_)).setCell ⟨dq, o + j * 3 + 2, none⟩ (.slice X st.2.b.length xc)) dq o es ∧ es.length = m ∧ (∀ x ∈ es, AwayE q (((w7.setCell ⟨dq, o + j * 3, none⟩ (.int .i64 st.2.e)).setCell ⟨dq, o + j * 3 + 1, none⟩ (.int .i64 st.2.at_)).setCell ⟨dq, o + j * 3 + 2, none⟩ (.slice X st.2.b.length xc)) x) ∧ Below w.heap.size w (((w7.setCell ⟨dq, o + j * 3, none⟩ (.int .i64 st.2.e)).setCell ⟨dq, o + j * 3 + 1, none⟩ (.int .i64 st.2.at_)).setCell ⟨dq, o + j * 3 + 2, none⟩ (.slice X st.2.b.length xc)) ∧
          Cells (((w7.setCell ⟨dq, o + j * 3, none⟩ (.int .i64 st.2.e)).setCell ⟨dq, o + j * 3 + 1, none⟩ (.int .i64 st.2.at_)).setCell ⟨dq, o + j * 3 + 2, none⟩ (.slice X st.2.b.length xc)) (w.heap.size + 1) 25 #[.int .i64 0, .int .i64 0, .int .i64 0, .slice none 0 0] ∧ xs'.map Zv.z = (sp ((cs.take (j + 1)).map Cx.c)).1 ∧ (es.take (j + 1)).map Ex.p = (sp ((cs.take (j + 1)).map Cx.c)).2) := by
        have hT : (cs.take (j + 1)).map Cx.c = (cs.take j).map Cx.c ++ [x.c] := by rw [List.take_add_one, HX.out, Option.toList_some, List.map_append]; rfl
        refine ⟨xs2, es.set j ⟨st.2, X, xc⟩, E7.out.desk HE0.out K7.out HNE.out.1 HNE.out.2.1 _ _ _ _ _, (heap3 _ _ _ _ _ _ _ _ _ HNE.out.2.2.2.2.2.2).trans C7.out, E7.out.store ⟨st.2, X, xc⟩ HE0.out, by rw [List.length_set]; exact EL.out, fun y hy => ?_, ?_, (heap3 _ _ _ _ _ _ _ _ _ (Ne.symm HNE.out.2.2.2.2.1)).trans N7.out, ?_, ?_⟩
        · rcases List.mem_or_eq_of_mem_set hy with hy | rfl
          · exact ⟨E7.out.row3 HE0.out (ED7.out y hy).1 _ _ _ _ _, (ED7.out y hy).2⟩
          · exact ⟨E7.out.row3 HE0.out R7.out.1 _ _ _ _ _, R7.out.2⟩
        · exact ((L7.out.setCell (p := ⟨dq, _, none⟩) V4.out _).setCell (p := ⟨dq, _, none⟩) V4.out _).setCell (p := ⟨dq, _, none⟩) V4.out _
        · rw [hT, HST.out]; exact M7.out
        · rw [hT, HST.out, take_set _ _ _ (by have := EL.out; omega), List.map_append, P5.out]; rfl
      clear K7 C7 E7 ED7 L7 N7 R7 M7 HST HNE
      go_wp2_with fail
      go_roundw
      case rel => exact ⟨j + 1, by go_num, by omega, FIN.out⟩
      case measure => simp [intOf]; omega
    · obtain rfl : m = j := by omega
      obtain ⟨xs1, es, i1, i2, i3, i4, i5, i6, i7, i8, i9⟩ := hI.out
      have K5 := Lib.hid i1
      have E5 := Lib.hid i3
      have EL := Lib.hid i4
      have ED := Lib.hid i5
      have L5 := Lib.hid i6
      have N5 := Lib.hid i7
      have M5 := Lib.hid i8
      have P5 := Lib.hid i9
      clear hI i1 i2 i3 i4 i5 i6 i7 i8 i9 K4 C4 E4 L4 N4
      obtain ⟨d0, d1, d2, d3, d4⟩ := K5.out.cells
      have v0 : wr.cell? ⟨w.heap.size + 1, 0, none⟩ = some (.int .i64 0) := Cells.cell N5.out 0
      have v1 : wr.cell? ⟨w.heap.size + 1, 1, none⟩ = some (.int .i64 0) := Cells.cell N5.out 1
      have v2 : wr.cell? ⟨w.heap.size + 1, 2, none⟩ = some (.int .i64 0) := Cells.cell N5.out 2
      have v3 : wr.cell? ⟨w.heap.size + 1, 3, none⟩ = some (.slice none 0 0) := Cells.cell N5.out 3
      have f0 : wr.frozen? ⟨w.heap.size + 1, 0, none⟩ = false := Cells.frozen N5.out 0
      have f1 : wr.frozen? ⟨w.heap.size + 1, 1, none⟩ = false := Cells.frozen N5.out 1
      have f2 : wr.frozen? ⟨w.heap.size + 1, 2, none⟩ = false := Cells.frozen N5.out 2
      have f3 : wr.frozen? ⟨w.heap.size + 1, 3, none⟩ = false := Cells.frozen N5.out 3
      dsimp only at d0 d1 d2 d3 d4
      go_wp2_with fail
      refine bodyPost_ret_by (results_zone_tmp rfl _ _ (w.heap.size + 1) _ _ _ _ rfl (Cells.set4 N5.out (.int .i64 d.cap) (.int .i64 d.op) (.int .i64 d.ac) (.slice (some ⟨q, o1, none⟩) d.n c')) Try.underlying25 rfl (by kernel_rfl)) rfl ?_
      have hb4 := But.set4 wr (w.heap.size + 1) (.int .i64 d.cap) (.int .i64 d.op) (.int .i64 d.ac) (.slice (some ⟨q, o1, none⟩) d.n c')
      have hnd := dev_not 0 0 0 none 0 0
      have hu := U2.out
      have hv := V3.out
      have hfull : cs.take m = cs := List.take_of_length_le (by have := HLN.out; omega)
      have hfe : es.take m = es := List.take_of_length_le (by have := EL.out; omega)
      rw [hfull] at M5 P5
      rw [hfe] at P5
      refine ⟨_, _, xs1, _, es, rfl, ⟨RowS.butBlock K5.out.row (fun q2 o2 e _ => by injection e with e; injection e with e1; omega) hb4, fun y hy => Row.butBox (K5.out.data y hy) N5.out hnd hb4⟩, ?_, RowS.butBlock (E5.out.row EL.out (Nat.le_refl _) hm) (fun q2 o2 e _ => by injection e with e; injection e with e1; omega) hb4, fun y hy => Row.butBox (ED.out y hy).1 N5.out hnd hb4, ?_, below4 L5.out (by omega) _ _ _ _, fun q2 o2 e => by injection e with e; injection e with e1; omega, fun q2 o2 e => by injection e with e; injection e with e1; have := V4.out; omega⟩
      · rw [M5.out, HSE.out]
      · rw [P5.out, HSE.out]

end Zns
end Go.Proofs.Ytbmblgjilmgkeaa
