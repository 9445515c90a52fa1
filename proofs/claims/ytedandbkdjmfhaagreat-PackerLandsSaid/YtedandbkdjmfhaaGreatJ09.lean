/-
  SEVERAL TEXTS IN ONE FILE: ZnsAll, ZonPlain, ZnsFacts, ZnsNew.
-/
import Derived.Test.YtedandbkdjmfhaaGreatJ07
import Derived.Test.YtedandbkdjmfhaaGreatJ08
import Derived.Test.YtedandbkdjmfhaaGreatJ03
set_option linter.unusedSimpArgs false
set_option linter.unusedVariables false
/-
  WALKS OVER zns.All AND zns.Do. (Written by gen_all.py.)
-/
namespace Go.Proofs.YtedandbkdjmfhaaGreat
open Go.RowKit Mem Zon
namespace Zns

/-- What All gave. -/
def Gone (w : World) (d : Dx) (m : Nat) (r : Dv × List Dn) (en : Ending) (w' : World) : Prop :=
  ∃ A c xs B es, en = .returned (.tuple #[.agg #[.int .i64 d.cap, .int .i64 d.op, .int .i64 d.ac, .slice A d.n c], .slice B m m]) ∧ DevAt w' ⟨d.cap, d.op, d.ac, A, d.n, c, xs⟩ ∧ (⟨d.cap, d.op, d.ac, xs.map Zv.z⟩ : Dv) = r.1 ∧
    RowS cellsE 3 w' B m m es ∧ (∀ x ∈ es, DoneAt w' x) ∧ es.map Ex.p = r.2 ∧ Below w.heap.size w w' ∧ (∀ q o, A = some ⟨q, o, none⟩ → w.heap.size ≤ q) ∧ (∀ q o, B = some ⟨q, o, none⟩ → w.heap.size ≤ q) ∧ (∀ v ∈ xs, Lo w.heap.size v.D)

/-- A block that holds no bytes may change: bytes stay. -/
theorem Row.butBox {w w' : World} {b : Nat} {t : TypeId} {cs : Array Value} {A : Option Addr} {n c : Nat} {l : List B8} (h : Row cb w A n c l) (hc : Cells w b t cs) (hn : ∀ (j : Nat) (v : Value), cs[j]? = some v → ∀ x, v ≠ cb x) (hb : But b w w') : Row cb w' A n c l := by
  refine ⟨h.len, h.cap, h.big, fun h0 => ?_⟩
  obtain ⟨q, o, e, hq, hcell⟩ := h.at_ h0
  have hne : q ≠ b := by
    intro e2
    subst e2
    obtain ⟨x, hx⟩ := h.get h0
    have h1 := hcell 0 x hx
    rw [Cells.cell hc] at h1
    exact hn _ _ h1 x rfl
  refine ⟨q, o, e, Nat.lt_of_lt_of_le hq hb.by_.size, fun i x hi => ?_⟩
  rw [World.cell?_of_block (w := w) (hb.block hq hne)]
  exact hcell i x hi
theorem RowS.butBlock {α : Type} {cells : α → List Value} {k : Nat} {w w' : World} {b : Nat} {A : Option Addr} {n c : Nat} {xs : List α} (h : RowS cells k w A n c xs) (hn : ∀ q o, A = some ⟨q, o, none⟩ → 0 < n → q ≠ b) (hb : But b w w') : RowS cells k w' A n c xs := by
  refine ⟨h.len, h.cap, h.big, fun h0 => ?_⟩
  obtain ⟨q, o, e, hq, hcell⟩ := h.at_ h0
  refine ⟨q, o, e, Nat.lt_of_lt_of_le hq hb.by_.size, fun i x hi j u hu => ?_⟩
  rw [World.cell?_of_block (w := w) (hb.block hq (hn q o e h0))]
  exact hcell i x hi j u hu
theorem dev_not (a b c : Int) (A : Option Addr) (n k : Nat) : ∀ (j : Nat) (v : Value), (#[Value.int .i64 a, .int .i64 b, .int .i64 c, .slice A n k] : Array Value)[j]? = some v → ∀ x, v ≠ cb x := by
  intro j v h x
  match j, h with
  | 0, h => simp at h; subst h; exact int_not _ x
  | 1, h => simp at h; subst h; exact int_not _ x
  | 2, h => simp at h; subst h; exact int_not _ x
  | 3, h => simp at h; subst h; exact slice_not _ _ _ x
theorem But.set4 (w : World) (q : Nat) (x y z v : Value) : But q w ((((w.setCell ⟨q, 0, none⟩ x).setCell ⟨q, 1, none⟩ y).setCell ⟨q, 2, none⟩ z).setCell ⟨q, 3, none⟩ v) :=
  (But.set1 _ _ _ _).trans ((But.set1 _ _ _ _).trans ((But.set1 _ _ _ _).trans (But.set1 _ _ _ _)))
theorem Cells.set4 {w : World} {q : Nat} {t : TypeId} {a b c d : Value} (h : Cells w q t #[a, b, c, d]) (x y z v : Value) : Cells ((((w.setCell ⟨q, 0, none⟩ x).setCell ⟨q, 1, none⟩ y).setCell ⟨q, 2, none⟩ z).setCell ⟨q, 3, none⟩ v) q t #[x, y, z, v] :=
  Cells.set_ (Cells.set_ (Cells.set_ (Cells.set_ h 0 x) 1 y) 2 z) 3 v
theorem below4 {B g : Nat} {a w : World} (h : Below B a w) (hg : B ≤ g) (x y z v : Value) : Below B a ((((w.setCell ⟨g, 0, none⟩ x).setCell ⟨g, 1, none⟩ y).setCell ⟨g, 2, none⟩ z).setCell ⟨g, 3, none⟩ v) :=
  (((h.setCell (p := ⟨g, 0, none⟩) hg x).setCell (p := ⟨g, 1, none⟩) hg y).setCell (p := ⟨g, 2, none⟩) hg z).setCell (p := ⟨g, 3, none⟩) hg v
theorem take_set {α : Type} (l : List α) (j : Nat) (e : α) (hj : j < l.length) : (l.set j e).take (j + 1) = l.take j ++ [e] := by
  rw [List.take_add_one, List.getElem?_set, if_pos rfl, if_pos hj, Option.toList_some, List.take_set_of_le (by omega)]
/-- How a command lies in its row. -/
theorem cmd_cells {w W : World} {L : Option Addr} {m lc : Nat} {cs : List Cx} (h : RowS cellsC 6 w L m lc cs) {j : Nat} {x : Cx} (hx : cs[j]? = some x) (hW : Below w.heap.size w W) :
    ∃ b o, L = some ⟨b, o, none⟩ ∧ W.cell? ⟨b, o + j * 6, none⟩ = some (.int .i64 x.c.d) ∧ W.cell? ⟨b, o + j * 6 + 1, none⟩ = some (.int .i64 x.c.zone) ∧ W.cell? ⟨b, o + j * 6 + 2, none⟩ = some (.int .i64 x.c.epoch) ∧ W.cell? ⟨b, o + j * 6 + 3, none⟩ = some (.int .i64 x.c.off) ∧ W.cell? ⟨b, o + j * 6 + 4, none⟩ = some (.int .i64 x.c.n) ∧ W.cell? ⟨b, o + j * 6 + 5, none⟩ = some (.slice x.B x.c.b.length x.k) := by
  obtain ⟨b, o, e, hb, hc⟩ := h.elem hx
  exact ⟨b, o, e, hc W (hW.block b hb) 0 _ rfl, hc W (hW.block b hb) 1 _ rfl, hc W (hW.block b hb) 2 _ rfl, hc W (hW.block b hb) 3 _ rfl, hc W (hW.block b hb) 4 _ rfl, hc W (hW.block b hb) 5 _ rfl⟩

/-- Bytes stay where another block alone has changed. -/
theorem Away.keep {q : Nat} {w w' : World} {B : Option Addr} {n d : Nat} {l : List B8} (h : Away q w B n d l) (hb : But q w w') : Away q w' B n d l := by
  obtain ⟨h, hq⟩ := h
  refine ⟨⟨h.len, h.cap, h.big, fun h0 => ?_⟩, hq⟩
  obtain ⟨p, o, e, hp, hc⟩ := h.at_ h0
  refine ⟨p, o, e, Nat.lt_of_lt_of_le hp hb.by_.size, fun i x hi => ?_⟩
  rw [World.cell?_of_block (w := w) (hb.block hp (hq p o e h0))]
  exact hc i x hi
theorem Away.below {q : Nat} {w w' : World} {B : Option Addr} {n d : Nat} {l : List B8} (h : Away q w B n d l) (hb : Below w.heap.size w w') : Away q w' B n d l := ⟨h.1.below hb, h.2⟩
def AwayE (q : Nat) (w : World) (x : Ex) : Prop := Away q w x.B x.p.b.length x.k x.p.b

set_option maxRecDepth 100000 in
set_option maxHeartbeats 12800000 in
theorem all_ok {d : Dx} {L : Option Addr} {m lc : Nat} {cs : List Cx} {w : World} (h : DevAt w d) (hn : d.n ≤ 1000) (hl : RowS cellsC 6 w L m lc cs) (hcs : ∀ x ∈ cs, CmdAt w x) (hm : m ≤ 1000) (hok : okD d.p = true) :
    Calls Tryz.prog 16 #[dxv d, .slice L m lc] w (Gone w d m (⟨d.cap, d.op, d.ac, (stepsP d.cap d.op d.ac (d.xs.map Zv.z) (cs.map Cx.c)).1⟩, (stepsP d.cap d.op d.ac (d.xs.map Zv.z) (cs.map Cx.c)).2)) := by
  unfold Gone
  have HR := Lib.hid h
  have HCS := Lib.hid hcs
  have HL := Lib.hid hl
  have HLN := Lib.hid (show cs.length = m from hl.len)
  have L1 : Hid (Below w.heap.size w ((w.alloc (.cells #[.int .i64 d.cap, .int .i64 d.op, .int .i64 d.ac, .slice d.A d.n d.c] 28)).alloc (.cells #[.int .i64 0, .int .i64 0, .int .i64 0, .slice none 0 0] 28))) := ((Below.refl w.heap.size w).alloc (Nat.le_refl _) _).alloc (by simp) _
  have B1 : Hid (DBox ((w.alloc (.cells #[.int .i64 d.cap, .int .i64 d.op, .int .i64 d.ac, .slice d.A d.n d.c] 28)).alloc (.cells #[.int .i64 0, .int .i64 0, .int .i64 0, .slice none 0 0] 28)) w.heap.size d) := heap_alloc2_old w _ _
  have N1 : Hid (Cells ((w.alloc (.cells #[.int .i64 d.cap, .int .i64 d.op, .int .i64 d.ac, .slice d.A d.n d.c] 28)).alloc (.cells #[.int .i64 0, .int .i64 0, .int .i64 0, .slice none 0 0] 28)) (w.heap.size + 1) 28 #[.int .i64 0, .int .i64 0, .int .i64 0, .slice none 0 0]) := heap_alloc2_new w _ _
  have HN := fun w (h : DevAt w d) => Lib.hid (newDesk_any h hn)
  have HA := fun g w => Lib.hid (acts_any g w)
  obtain ⟨o, ho⟩ : ∃ o : Nat, o = 0 := ⟨0, rfl⟩
  have hmk : ∀ w : World, (Instr.makeSlice 63 (.int .i64 (m : Int)) (.int .i64 (m : Int))).run Tryz.prog w = .ok (.slice (some ⟨w.heap.size, o, none⟩) m m) (w.alloc (.cells (madeCells #[.int .i64 0, .int .i64 0, .slice none 0 0] (m * 3)) 39)) := by
    rw [ho]; exact fun w => run_make_done w m hm
  have HMD := fun w : World => Lib.hid (show OwnE (w.alloc (.cells (madeCells #[.int .i64 0, .int .i64 0, .slice none 0 0] (m * 3)) 39)) w.heap.size o (List.replicate m zeroE) by rw [ho]; exact made_done m)
  clear h hcs hl ho
  unfold Made at HN
  rw [hok] at HN
  unfold dxv at HN ⊢
  go_enter Tryz.func16, Tryz.ntmps16
  go_upto_region 1 with fail
  generalize (w.alloc (.cells #[.int .i64 d.cap, .int .i64 d.op, .int .i64 d.ac, .slice d.A d.n d.c] 28)).alloc (.cells #[.int .i64 0, .int .i64 0, .int .i64 0, .slice none 0 0] 28) = w1 at *
  obtain ⟨m0, m1, m2, m3⟩ := B1.out.cells
  go_wp2_with fail
  refine (HN w1 (HR.out.below L1.out)).out.mono ?_
  rintro e w2 ⟨g, A, c', xs', rfl, hg, hk, hrow, hdat, hmap, hb, hown, hlw⟩
  have hb0 := (okD_parts (d := d.p)).1 hok
  rw [HR.out.plen] at hb0
  obtain ⟨n1, n64, -⟩ := bounds_parts.1 hb0.1
  obtain ⟨q, o1, rfl, hq, hgq, hoz⟩ := hown (by omega)
  have K2 : Hid (Desk ⟨g, q, o1, d.cap, d.op, d.ac, d.n, c'⟩ xs' w2) := ⟨hk, hoz, hrow.len, hrow.cap, by show d.n ≤ 64; omega, hdat, hgq, hlw⟩
  have L2 := Lib.hid (L1.out.trans (hb.mono L1.out.size))
  have N2 := Lib.hid (Cells.below N1.out hb)
  have U2 : Hid (w.heap.size + 1 < g ∧ w.heap.size + 1 < q ∧ w.heap.size ≤ g ∧ w.heap.size ≤ q) := by
    have := Cells.lt N1.out
    exact ⟨by omega, by omega, by omega, by omega⟩
  have M2 := Lib.hid hmap
  clear hb hown hrow hdat hk hoz hmap hg hq hgq hb0 n1 n64 m0 m1 m2 m3 L1 B1 N1 HN hok
  go_wp2_with fail
  refine (HA g w2).out.mono ?_
  rintro e w3 ⟨rfl, hac, hb⟩
  have K3 := Lib.hid (K2.out.below hb)
  have L3 := Lib.hid (L2.out.trans (hb.mono L2.out.size))
  have N3 := Lib.hid (Cells.below N2.out hb)
  have C3 := Lib.hid hac
  have V3 : Hid (g < w2.heap.size ∧ q < w2.heap.size ∧ w2.heap.size < w3.heap.size ∧ w.heap.size + 1 < w2.heap.size) := by
    have h1 := K2.out.g_lt
    have h2 := K2.out.q_lt
    have h3 := (Array.getElem?_eq_some_iff.1 hac).1
    have h4 := Cells.lt N2.out
    exact ⟨h1, h2, h3, h4⟩
  clear hb hac K2 L2 N2 HA
  generalize w2.heap.size = r at *
  go_upto_region 4 with fail
  have b4 : Below w3.heap.size w3 (w3.alloc (.cells (madeCells #[.int .i64 0, .int .i64 0, .slice none 0 0] (m * 3)) 39)) := (Below.refl _ w3).alloc (Nat.le_refl _) _
  have K4 := Lib.hid (K3.out.below b4)
  have L4 := Lib.hid (L3.out.trans (b4.mono L3.out.size))
  have N4 := Lib.hid (Cells.below N3.out b4)
  have C4 := Lib.hid (C3.out.below b4)
  have E4 := HMD w3
  have V4 : Hid (w.heap.size ≤ w3.heap.size) := L3.out.size
  clear b4 K3 L3 N3 C3 HMD hmk
  generalize w3.alloc (.cells (madeCells #[.int .i64 0, .int .i64 0, .slice none 0 0] (m * 3)) 39) = w4 at *
  generalize w3.heap.size = dq at *
  generalize hsp : stepsP d.cap d.op d.ac (d.xs.map Zv.z) = sp at *
  have HSP : Hid (∀ l c, sp (l ++ [c]) = ((stepP d.cap d.op d.ac (sp l).1 c).1, (sp l).2 ++ [(stepP d.cap d.op d.ac (sp l).1 c).2])) := by
    show ∀ _, _
    intro l c
    rw [← hsp]; exact stepsP_snoc _ _ _ _ _ _
  have HS0 : Hid (sp [] = (d.xs.map Zv.z, [])) := by show _ = _; rw [← hsp]; rfl
  have HSE := Lib.hid hsp
  clear hsp
  go_wp2_with fail
  go_loopw [20] (fun i wr => ∃ j : Nat, i = .int .i64 j ∧ j ≤ m ∧ Hid (∃ xs' es, Desk ⟨g, q, o1, d.cap, d.op, d.ac, d.n, c'⟩ xs' wr ∧ Acts wr r g ∧ OwnE wr dq o es ∧ es.length = m ∧ (∀ x ∈ es, AwayE q wr x) ∧ Below w.heap.size w wr ∧
    Cells wr (w.heap.size + 1) 28 #[.int .i64 0, .int .i64 0, .int .i64 0, .slice none 0 0] ∧ xs'.map Zv.z = (sp ((cs.take j).map Cx.c)).1 ∧ (es.take j).map Ex.p = (sp ((cs.take j).map Cx.c)).2)) (fun i _ => m - (intOf i).toNat)
  case atStart =>
    refine ⟨0, rfl, by omega, xs', List.replicate m zeroE, K4.out, C4.out, E4.out, by simp, fun x hx => ?_, L4.out, N4.out, ?_, ?_⟩
    · rw [List.eq_of_mem_replicate hx]; exact Away.nil _ _
    · rw [M2.out]; show _ = (sp []).1; rw [HS0.out]
    · show _ = (sp []).2; rw [HS0.out]; rfl
  case round =>
    obtain ⟨j, rfl, hj, hI⟩ := hrel
    by_cases hlt : j < m
    · obtain ⟨xs1, es, i1, i2, i3, i4, i5, i6, i7, i8, i9⟩ := hI.out
      have K5 := Lib.hid i1
      have C5 := Lib.hid i2
      have E5 := Lib.hid i3
      have EL := Lib.hid i4
      have ED := Lib.hid i5
      have L5 := Lib.hid i6
      have N5 := Lib.hid i7
      have M5 := Lib.hid i8
      have P5 := Lib.hid i9
      clear hI i1 i2 i3 i4 i5 i6 i7 i8 i9 K4 C4 E4 L4 N4
      obtain ⟨x, hx⟩ := HL.out.get hlt
      obtain ⟨b, oo, rfl, c0, c1, c2, c3, c4, c5⟩ := cmd_cells HL.out hx L5.out
      have HX := Lib.hid hx
      have HXC := Lib.hid (HCS.out x (List.mem_of_getElem? hx))
      have hk0 : (0 : Int) ≤ (j : Int) := by omega
      have hk1 : (j : Int) < (m : Int) := by omega
      have b6 : Below wr.heap.size wr (wr.alloc (.cells #[.int .i64 x.c.d, .int .i64 x.c.zone, .int .i64 x.c.epoch, .int .i64 x.c.off, .int .i64 x.c.n, .slice x.B x.c.b.length x.k] 43)) := (Below.refl _ wr).alloc (Nat.le_refl _) _
      have K6 := Lib.hid (K5.out.below b6)
      have C6 := Lib.hid (C5.out.below b6)
      have E6 := Lib.hid (E5.out.below b6)
      have ED6 : Hid (∀ y ∈ es, AwayE q (wr.alloc (.cells #[.int .i64 x.c.d, .int .i64 x.c.zone, .int .i64 x.c.epoch, .int .i64 x.c.off, .int .i64 x.c.n, .slice x.B x.c.b.length x.k] 43)) y) := fun y hy => Away.below (ED.out y hy) b6
      have L6 := Lib.hid (L5.out.trans (b6.mono L5.out.size))
      have N6 := Lib.hid (Cells.below N5.out b6)
      have X6 : Hid (CBox (wr.alloc (.cells #[.int .i64 x.c.d, .int .i64 x.c.zone, .int .i64 x.c.epoch, .int .i64 x.c.off, .int .i64 x.c.n, .slice x.B x.c.b.length x.k] 43)) wr.heap.size x.c.d x.c.zone x.c.epoch x.c.off x.c.n x.B x.c.b.length x.k) := Cells.new wr _ _
      have HD := fun w (h : Desk ⟨g, q, o1, d.cap, d.op, d.ac, d.n, c'⟩ xs1 w) (ha : Acts w r g) (hc : CmdAt w x) => Lib.hid (do_any h ha hc)
      unfold cxv Acted at HD
      clear hx b6 K5 C5 E5 ED L5 N5
      go_upto_region 7 with fail
      clear c0 c1 c2 c3 c4 c5
      generalize wr.alloc (.cells #[.int .i64 x.c.d, .int .i64 x.c.zone, .int .i64 x.c.epoch, .int .i64 x.c.off, .int .i64 x.c.n, .slice x.B x.c.b.length x.k] 43) = w6 at *
      generalize wr.heap.size = gx at *
      obtain ⟨y0, y1, y2, y3, y4, y5⟩ := CBox.cells X6.out
      go_wp2_with fail
      refine (HD w6 K6.out C6.out (HXC.out.below L6.out)).out.mono ?_
      rintro e w7 ⟨xs2, X, xc, rfl, hD, hz, hr, hB⟩
      have HNE : Hid (dq ≠ g ∧ dq ≠ q ∧ dq ≠ r ∧ r ≠ q ∧ dq ≠ w.heap.size + 1 ∧ w.heap.size + 1 ≠ q ∧ r ≠ dq) := by
        have h1 := V3.out
        have h2 := V4.out
        have h3 := U2.out
        exact ⟨by omega, by omega, by omega, by omega, by omega, by omega, by omega⟩
      have K7 := Lib.hid hD
      have C7 := Lib.hid (C6.out.but hB HNE.out.2.2.2.1)
      have E7 := Lib.hid (E6.out.but hB HNE.out.2.1)
      have OZ6 := Lib.hid K6.out.own
      have ED7 : Hid (∀ x ∈ es, AwayE q w7 x) := by
        show ∀ _, _
        intro y hy
        exact Away.keep (ED6.out y hy) hB
      have L7 := Lib.hid (L6.out.trans (hB.below L6.out.size (by have := U2.out; omega)))
      have N7 := Lib.hid (Cells.but N6.out hB HNE.out.2.2.2.2.2.1)
      have R7 := Lib.hid hr
      have M7 := Lib.hid hz
      clear hD hz hr hB y0 y1 y2 y3 y4 y5 K6 C6 E6 ED6 L6 N6 X6 HD OZ6
      have HST := Lib.hid (HSP.out ((cs.take j).map Cx.c) x.c)
      rw [M5.out] at M7 R7 ⊢
      generalize stepP d.cap d.op d.ac (sp ((cs.take j).map Cx.c)).1 x.c = st at *
      obtain ⟨e0, he0⟩ : ∃ e0, es[j]? = some e0 := ⟨_, List.getElem?_eq_getElem (by have := EL.out; omega)⟩
      have HE0 := Lib.hid he0
      clear he0
      have z0 : w7.cell? ⟨dq, o + j * 3, none⟩ = some (.int .i64 e0.p.e) := E7.out.cell HE0.out (j := 0) rfl
      have z1 := E7.out.cell HE0.out (j := 1) rfl
      have z2 := E7.out.cell HE0.out (j := 2) rfl
      have f0 := E7.out.frozen (o + j * 3)
      have f1 := E7.out.frozen (o + j * 3 + 1)
      have f2 := E7.out.frozen (o + j * 3 + 2)
      have FIN : Hid (∃ xs' es, Desk ⟨g, q, o1, d.cap, d.op, d.ac, d.n, c'⟩ xs' (((w7.setCell ⟨dq, o + j * 3, none⟩ (.int .i64 st.2.e)).setCell ⟨dq, o + j * 3 + 1, none⟩ (.int .i64 st.2.at_)).setCell ⟨dq, o + j * 3 + 2, none⟩ (.slice X st.2.b.length xc)) ∧ Acts (((w7.setCell ⟨dq, o + j * 3, none⟩ (.int .i64 st.2.e)).setCell ⟨dq, o + j * 3 + 1, none⟩ (.int .i64 st.2.at_)).setCell ⟨dq, o + j * 3 + 2, none⟩ (.slice X st.2.b.length xc)) r g ∧ OwnE (((w7.setCell ⟨dq, o + j * 3, none⟩ (.int .i64 st.2.e)).setCell ⟨dq, o + j * 3 + 1, none⟩ (.int .i64 st.2.at_)).setCell ⟨dq, o + j * 3 + 2, none⟩ (.slice X st.2.b.length xc)) dq o es ∧ es.length = m ∧ (∀ x ∈ es, AwayE q (((w7.setCell ⟨dq, o + j * 3, none⟩ (.int .i64 st.2.e)).setCell ⟨dq, o + j * 3 + 1, none⟩ (.int .i64 st.2.at_)).setCell ⟨dq, o + j * 3 + 2, none⟩ (.slice X st.2.b.length xc)) x) ∧ Below w.heap.size w (((w7.setCell ⟨dq, o + j * 3, none⟩ (.int .i64 st.2.e)).setCell ⟨dq, o + j * 3 + 1, none⟩ (.int .i64 st.2.at_)).setCell ⟨dq, o + j * 3 + 2, none⟩ (.slice X st.2.b.length xc)) ∧
          Cells (((w7.setCell ⟨dq, o + j * 3, none⟩ (.int .i64 st.2.e)).setCell ⟨dq, o + j * 3 + 1, none⟩ (.int .i64 st.2.at_)).setCell ⟨dq, o + j * 3 + 2, none⟩ (.slice X st.2.b.length xc)) (w.heap.size + 1) 28 #[.int .i64 0, .int .i64 0, .int .i64 0, .slice none 0 0] ∧ xs'.map Zv.z = (sp ((cs.take (j + 1)).map Cx.c)).1 ∧ (es.take (j + 1)).map Ex.p = (sp ((cs.take (j + 1)).map Cx.c)).2) := by
        have hT : (cs.take (j + 1)).map Cx.c = (cs.take j).map Cx.c ++ [x.c] := by rw [List.take_add_one, HX.out, Option.toList_some, List.map_append]; rfl
        refine ⟨xs2, es.set j ⟨st.2, X, xc⟩, E7.out.desk HE0.out K7.out HNE.out.1 HNE.out.2.1 _ _ _ _ _, (heap3 _ _ _ _ _ _ _ _ _ HNE.out.2.2.2.2.2.2).trans C7.out, E7.out.store ⟨st.2, X, xc⟩ HE0.out, by rw [List.length_set]; exact EL.out, fun y hy => ?_, ?_, (heap3 _ _ _ _ _ _ _ _ _ (Ne.symm HNE.out.2.2.2.2.1)).trans N7.out, ?_, ?_⟩
        · rcases List.mem_or_eq_of_mem_set hy with hy | rfl
          · exact ⟨E7.out.row3 HE0.out (ED7.out y hy).1 _ _ _ _ _, (ED7.out y hy).2⟩
          · exact ⟨E7.out.row3 HE0.out R7.out.1 _ _ _ _ _, R7.out.2⟩
        · exact ((L7.out.setCell (p := ⟨dq, _, none⟩) V4.out _).setCell (p := ⟨dq, _, none⟩) V4.out _).setCell (p := ⟨dq, _, none⟩) V4.out _
        · rw [hT, HST.out]; exact M7.out
        · rw [hT, HST.out, take_set _ _ _ (by have := EL.out; omega), List.map_append, P5.out]; rfl
      clear K7 C7 E7 ED7 L7 N7 R7 M7 HST HNE
      go_wp2_with fail
      go_roundw
      case rel => exact ⟨j + 1, by go_num, by omega, FIN.out⟩
      case measure => simp [intOf]; omega
    · obtain rfl : m = j := by omega
      obtain ⟨xs1, es, i1, i2, i3, i4, i5, i6, i7, i8, i9⟩ := hI.out
      have K5 := Lib.hid i1
      have E5 := Lib.hid i3
      have EL := Lib.hid i4
      have ED := Lib.hid i5
      have L5 := Lib.hid i6
      have N5 := Lib.hid i7
      have M5 := Lib.hid i8
      have P5 := Lib.hid i9
      clear hI i1 i2 i3 i4 i5 i6 i7 i8 i9 K4 C4 E4 L4 N4
      obtain ⟨d0, d1, d2, d3, d4⟩ := K5.out.cells
      have v0 : wr.cell? ⟨w.heap.size + 1, 0, none⟩ = some (.int .i64 0) := Cells.cell N5.out 0
      have v1 : wr.cell? ⟨w.heap.size + 1, 1, none⟩ = some (.int .i64 0) := Cells.cell N5.out 1
      have v2 : wr.cell? ⟨w.heap.size + 1, 2, none⟩ = some (.int .i64 0) := Cells.cell N5.out 2
      have v3 : wr.cell? ⟨w.heap.size + 1, 3, none⟩ = some (.slice none 0 0) := Cells.cell N5.out 3
      have f0 : wr.frozen? ⟨w.heap.size + 1, 0, none⟩ = false := Cells.frozen N5.out 0
      have f1 : wr.frozen? ⟨w.heap.size + 1, 1, none⟩ = false := Cells.frozen N5.out 1
      have f2 : wr.frozen? ⟨w.heap.size + 1, 2, none⟩ = false := Cells.frozen N5.out 2
      have f3 : wr.frozen? ⟨w.heap.size + 1, 3, none⟩ = false := Cells.frozen N5.out 3
      dsimp only at d0 d1 d2 d3 d4
      go_wp2_with fail
      refine bodyPost_ret_by (results_zone_tmp rfl _ _ (w.heap.size + 1) _ _ _ _ rfl (Cells.set4 N5.out (.int .i64 d.cap) (.int .i64 d.op) (.int .i64 d.ac) (.slice (some ⟨q, o1, none⟩) d.n c')) Tryz.underlying28 rfl (by kernel_rfl)) rfl ?_
      have hb4 := But.set4 wr (w.heap.size + 1) (.int .i64 d.cap) (.int .i64 d.op) (.int .i64 d.ac) (.slice (some ⟨q, o1, none⟩) d.n c')
      have hnd := dev_not 0 0 0 none 0 0
      have hu := U2.out
      have hv := V3.out
      have hfull : cs.take m = cs := List.take_of_length_le (by have := HLN.out; omega)
      have hfe : es.take m = es := List.take_of_length_le (by have := EL.out; omega)
      rw [hfull] at M5 P5
      rw [hfe] at P5
      refine ⟨_, _, xs1, _, es, rfl, ⟨RowS.butBlock K5.out.row (fun q2 o2 e _ => by injection e with e; injection e with e1; omega) hb4, fun y hy => Row.butBox (K5.out.data y hy) N5.out hnd hb4⟩, ?_, RowS.butBlock (E5.out.row EL.out (Nat.le_refl _) hm) (fun q2 o2 e _ => by injection e with e; injection e with e1; omega) hb4, fun y hy => Row.butBox (ED.out y hy).1 N5.out hnd hb4, ?_, below4 L5.out (by omega) _ _ _ _, fun q2 o2 e => by injection e with e; injection e with e1; omega, fun q2 o2 e => by injection e with e; injection e with e1; have := V4.out; omega, fun v hv => (K5.out.low v hv).mono (by have := U2.out; show w.heap.size ≤ g; omega)⟩
      · rw [M5.out, HSE.out]
      · rw [P5.out, HSE.out]

end Zns
end Go.Proofs.YtedandbkdjmfhaaGreat
/-
  ZONES IN PLAIN: what may be stays so.
-/
namespace Go.Proofs.YtedandbkdjmfhaaGreat
open Go.RowKit Mem
namespace Zon
theorem ok_iff {z : Zn} {most : Int} (h1 : 1 ≤ most) (h2 : most ≤ 65536) (h3 : 0 ≤ z.fc) : okB z most = mayB z.st z.len most := by
  unfold okB
  rw [decide_eq_false (by omega : ¬ most < 1), decide_eq_false (by omega : ¬ 65536 < most), decide_eq_false (by omega : ¬ z.fc < 0)]
  rfl
theorem may_less {st n most : Int} (h0 : 1 ≤ most) (h : mayB st n most = true) (h4 : st ≠ 4) : n < most := by
  unfold mayB at h
  rw [show (st == 4) = false from beq_eq_false_iff_ne.2 h4] at h
  rcases e0 : (st == 0) <;> rw [e0] at h
  · rcases e1 : (st == 1 || st == 3) <;> rw [e1] at h
    · rcases e2 : (st == 2) <;> rw [e2] at h
      · cases h
      · simpa using h
    · simp at h; exact h.2
  · simp at h; omega
theorem may4 {n most : Int} (h : n ≤ most) : mayB 4 n most = true := by
  unfold mayB
  rw [show ((4 : Int) == 0) = false from rfl, show ((4 : Int) == 1 || (4 : Int) == 3) = false from rfl, show ((4 : Int) == 2) = false from rfl, show ((4 : Int) == 4) = true from rfl]
  simpa using h
theorem may2 {n most : Int} (h : n < most) : mayB 2 n most = true := by
  unfold mayB
  rw [show ((2 : Int) == 0) = false from rfl, show ((2 : Int) == 1 || (2 : Int) == 3) = false from rfl, show ((2 : Int) == 2) = true from rfl]
  simpa using h
theorem may1 {n most : Int} (h0 : n ≠ 0) (h : n < most) : mayB 1 n most = true := by
  unfold mayB
  rw [show ((1 : Int) == 0) = false from rfl, show ((1 : Int) == 1 || (1 : Int) == 3) = true from rfl, beq_eq_false_iff_ne.2 h0]
  simpa using h
theorem may3 {n most : Int} (h0 : n ≠ 0) (h : n < most) : mayB 3 n most = true := by
  unfold mayB
  rw [show ((3 : Int) == 0) = false from rfl, show ((3 : Int) == 1 || (3 : Int) == 3) = true from rfl, beq_eq_false_iff_ne.2 h0]
  simpa using h
theorem app_ok {z : Zn} {most : Int} {b : List B8} (he : appErr z most b.length = 0) : okB (appZ z most b) most = true := by
  obtain ⟨h1, h2, h3, h4⟩ := appErr_zero he
  obtain ⟨p1, p2, p3, -, -⟩ := ok_parts h1
  rw [ok_iff p1 p2 (show 0 ≤ (appZ z most b).fc from p3)]
  have hl : (appZ z most b).len = z.len + b.length := by unfold Zn.len appZ; simp
  rw [hl]
  show mayB (stB z.st (z.len + b.length) most) _ _ = true
  have h0 : 0 ≤ z.len := Int.natCast_nonneg _
  unfold stB
  rcases e : (z.len + b.length == most)
  · have hne := beq_eq_false_iff_ne.1 e
    rcases e2 : (z.st == 2)
    · exact may1 (by omega) (by omega)
    · exact may2 (by omega)
  · exact may4 h4
theorem ok_full {z : Zn} {most : Int} (h : okB z most = true) : okB (inZ z 4) most = true := by
  obtain ⟨h1, h2, h3, -, h5⟩ := ok_parts h
  unfold okB
  rw [decide_eq_false (by omega : ¬ most < 1), decide_eq_false (by omega : ¬ 65536 < most), decide_eq_false (by show ¬ z.fc < 0; omega)]
  show (mayB 4 z.len most) = true
  unfold mayB
  rw [show ((4 : Int) == 0) = false from rfl, show ((4 : Int) == 1 || (4 : Int) == 3) = false from rfl, show ((4 : Int) == 2) = false from rfl, show ((4 : Int) == 4) = true from rfl]
  simpa using h5
theorem ok_new {z : Zn} {most : Int} (h : okB z most = true) : okB ⟨0, z.fc, []⟩ most = true := by
  obtain ⟨h1, h2, h3, -, -⟩ := ok_parts h
  unfold okB
  rw [decide_eq_false (by omega : ¬ most < 1), decide_eq_false (by omega : ¬ 65536 < most), decide_eq_false (by show ¬ z.fc < 0; omega)]
  rfl
end Zon
end Go.Proofs.YtedandbkdjmfhaaGreat
/-
  WHAT A STEP LEAVES, IN PLAIN: a device that may be stays one; errors change nothing; other zones stay, but one that was closed; fences rise.
-/
namespace Go.Proofs.YtedandbkdjmfhaaGreat
open Go.RowKit Mem Zon
namespace Zns

def one (b : Bool) : Nat := bif b then 1 else 0
theorem cnt_set (p : Zn → Bool) : ∀ (l : List Zn) (i : Nat) (z z' : Zn), l[i]? = some z → (l.set i z').countP p + one (p z) = l.countP p + one (p z')
  | [], i, z, z', h => by simp at h
  | x :: l, 0, z, z', h => by
    simp at h
    subst h
    rw [List.set_cons_zero, List.countP_cons, List.countP_cons]
    unfold one
    cases p x <;> cases p z' <;> simp
  | x :: l, i + 1, z, z', h => by
    rw [List.set_cons_succ, List.countP_cons, List.countP_cons]
    have := cnt_set p l i z z' (by simpa using h)
    omega
theorem one_le (b : Bool) : one b ≤ 1 := by cases b <;> decide

/-- A device's zones that may be: how many, each, how many open, active. -/
structure OkL (cap op ac : Int) (zs : List Zn) : Prop where
  bounds : boundsB zs.length cap op ac = true
  all : ∀ z ∈ zs, okB z cap = true
  op_ : (cO zs : Int) ≤ op
  ac_ : (cA zs : Int) ≤ ac
theorem okL_iff {cap op ac : Int} {zs : List Zn} : okD ⟨cap, op, ac, zs⟩ = true ↔ OkL cap op ac zs :=
  ⟨fun h => by obtain ⟨a, b, c, d⟩ := okD_parts.1 h; exact ⟨a, b, c, d⟩, fun h => okD_parts.2 ⟨h.bounds, h.all, h.op_, h.ac_⟩⟩
section
variable {cap op ac : Int} {zs : List Zn}
theorem OkL.at_ (h : OkL cap op ac zs) {i : Nat} {z : Zn} (hz : zs[i]? = some z) : okB z cap = true := h.all z (List.mem_of_getElem? hz)
theorem OkL.caps (h : OkL cap op ac zs) : 1 ≤ cap ∧ cap ≤ 65536 := by obtain ⟨-, -, a, b, -⟩ := bounds_parts.1 h.bounds; exact ⟨a, b⟩
/-- One zone is another, that counts no more. -/
theorem OkL.set (h : OkL cap op ac zs) {i : Nat} {z z' : Zn} (hz : zs[i]? = some z) (hk : okB z' cap = true) (ho : (cO zs : Int) + one (openB z') ≤ op + one (openB z)) (ha : (cA zs : Int) + one (actB z') ≤ ac + one (actB z)) : OkL cap op ac (zs.set i z') := by
  have h1 := cnt_set openB zs i z z' hz
  have h2 := cnt_set actB zs i z z' hz
  refine ⟨by rw [List.length_set]; exact h.bounds, fun y hy => ?_, ?_, ?_⟩
  · rcases List.mem_or_eq_of_mem_set hy with hy | rfl
    · exact h.all y hy
    · exact hk
  · unfold cO at *; omega
  · unfold cA at *; omega
theorem OkL.less (h : OkL cap op ac zs) {i : Nat} {z z' : Zn} (hz : zs[i]? = some z) (hk : okB z' cap = true) (ho : one (openB z') ≤ one (openB z)) (ha : one (actB z') ≤ one (actB z)) : OkL cap op ac (zs.set i z') :=
  h.set hz hk (by have := h.op_; omega) (by have := h.ac_; omega)
end
theorem act_of_open {z : Zn} (h : openB z = true) : actB z = true := by unfold actB; rw [h]; rfl
theorem imp_open {z : Zn} (h : z.st = 1) : openB z = true := by unfold openB; rw [h]; rfl

/-! ### What is closed -/
theorem close_imp {z : Zn} {most : Int} (h : okB z most = true) (h1 : z.st = 1) : closeZ z = inZ z 3 ∧ closeErr z = 0 := by
  obtain ⟨-, -, -, hm, -⟩ := ok_parts h
  unfold mayB at hm
  rw [h1] at hm
  have hd : z.data.length ≠ 0 := by
    intro e
    have : z.len = 0 := by unfold Zn.len; rw [e]; rfl
    rw [this] at hm
    simp at hm
  unfold closeZ closeErr
  rw [h1, beq_eq_false_iff_ne.2 hd]
  exact ⟨rfl, rfl⟩
theorem in_ok {z : Zn} {most : Int} {st : Int} (h : okB z most = true) (hm : mayB st z.len most = true) : okB (inZ z st) most = true := by
  obtain ⟨p1, p2, p3, -, -⟩ := ok_parts h
  rw [ok_iff p1 p2 (show 0 ≤ (inZ z st).fc from p3)]
  exact hm
theorem st_cases {z : Zn} {most : Int} (h : okB z most = true) : z.st = 0 ∨ z.st = 1 ∨ z.st = 2 ∨ z.st = 3 ∨ z.st = 4 := by
  obtain ⟨-, -, -, hm, -⟩ := ok_parts h
  unfold mayB at hm
  by_cases h0 : z.st = 0
  · exact .inl h0
  · by_cases h1 : z.st = 1
    · exact .inr (.inl h1)
    · by_cases h2 : z.st = 2
      · exact .inr (.inr (.inl h2))
      · by_cases h3 : z.st = 3
        · exact .inr (.inr (.inr (.inl h3)))
        · by_cases h4 : z.st = 4
          · exact .inr (.inr (.inr (.inr h4)))
          · rw [beq_eq_false_iff_ne.2 h0, beq_eq_false_iff_ne.2 h1, beq_eq_false_iff_ne.2 h2, beq_eq_false_iff_ne.2 h3, beq_eq_false_iff_ne.2 h4] at hm
            cases hm
theorem close_ok {z : Zn} {most : Int} (h : okB z most = true) (he : closeErr z = 0) : okB (closeZ z) most = true ∧ openB (closeZ z) = false ∧ one (actB (closeZ z)) ≤ one (actB z) ∧ (closeZ z).fc = z.fc := by
  have hst : z.st ≠ 0 ∧ z.st ≠ 4 := by
    constructor
    · intro e; unfold closeErr at he; rw [e] at he; cases he
    · intro e; unfold closeErr at he; rw [e] at he; cases he
  obtain ⟨p1, p2, p3, hm, -⟩ := ok_parts h
  have hl := may_less p1 hm hst.2
  have hact : actB z = true := by
    rcases st_cases h with e | e | e | e | e
    · exact absurd e hst.1
    · exact act_of_open (imp_open e)
    · unfold actB openB; rw [e]; rfl
    · unfold actB openB; rw [e]; rfl
    · exact absurd e hst.2
  unfold closeZ
  rw [beq_eq_false_iff_ne.2 hst.1, beq_eq_false_iff_ne.2 hst.2]
  rcases e : (z.data.length == 0)
  · have hne := beq_eq_false_iff_ne.1 e
    refine ⟨in_ok h (may3 (by unfold Zn.len; omega) hl), rfl, ?_, rfl⟩
    rw [hact]; exact one_le _
  · have h0 := beq_iff_eq.1 e
    refine ⟨in_ok h ?_, rfl, ?_, rfl⟩
    · unfold mayB
      have : z.len = 0 := by unfold Zn.len; omega
      rw [this]; rfl
    · rw [hact]; exact one_le _

/-- What a step left. -/
structure Lv (cap op ac : Int) (zs : List Zn) (c : Cm) (r : List Zn × Dn) : Prop where
  ok : OkL cap op ac r.1
  err : r.2.e ≠ 0 → r.1 = zs ∧ r.2.b = [] ∧ r.2.at_ = 0
  len : r.1.length = zs.length
  oth : ∃ o : Option Nat, (∀ i : Nat, (i : Int) ≠ c.zone → o ≠ some i → r.1[i]? = zs[i]?) ∧ (∀ k : Nat, o = some k → r.2.e = 0 ∧ ∃ z, zs[k]? = some z ∧ z.st = 1 ∧ r.1[k]? = some (closeZ z) ∧ closeErr z = 0 ∧ (closeZ z).fc = z.fc ∧ (closeZ z).data = z.data ∧ (k : Int) ≠ c.zone)
  fc : ∀ (i : Nat) (z z' : Zn), zs[i]? = some z → r.1[i]? = some z' → z.fc ≤ z'.fc
  read : c.d = 2 → r.1 = zs
section
variable {cap op ac : Int} {zs : List Zn} {c : Cm}
theorem Lv.same (h : OkL cap op ac zs) (p : Dn) (hp : p.e ≠ 0 → p.b = [] ∧ p.at_ = 0) : Lv cap op ac zs c (zs, p) :=
  ⟨h, fun he => ⟨rfl, hp he⟩, rfl, ⟨none, fun _ _ _ => rfl, fun _ e => by cases e⟩, fun i z z' h1 h2 => by rw [h1] at h2; injection h2 with h2; rw [h2]; exact Int.le_refl _, fun _ => rfl⟩
theorem Lv.fail (h : OkL cap op ac zs) (e : Int) : Lv cap op ac zs c (zs, fail_ e) := Lv.same h _ fun _ => ⟨rfl, rfl⟩
/-- One zone is another. -/
theorem Lv.one_ {i : Nat} {z z' : Zn} (hi : c.zone = (i : Int)) (hz : zs[i]? = some z) (h : OkL cap op ac (zs.set i z')) (hf : z.fc ≤ z'.fc) (h2 : c.d ≠ 2) (p : Dn) (hp : p.e = 0) : Lv cap op ac zs c (zs.set i z', p) := by
  refine ⟨h, fun he => absurd hp he, by rw [List.length_set], ⟨none, fun k hk _ => ?_, fun _ e => by cases e⟩, fun k y y' h3 h4 => ?_, fun e => absurd e h2⟩
  · rw [List.getElem?_set, if_neg (by omega)]
  · replace h4 : (zs.set i z')[k]? = some y' := h4
    rw [List.getElem?_set] at h4
    split at h4
    · rename_i e
      subst e
      rw [hz] at h3
      injection h3 with h3
      subst h3
      split at h4
      · injection h4 with h4
        subst h4
        exact hf
      · cases h4
    · rw [h3] at h4; injection h4 with h4; rw [h4]; exact Int.le_refl _
/-- One zone is another, and one gave way to it. -/
theorem Lv.two {i j : Nat} {z z' y : Zn} (hi : c.zone = (i : Int)) (hz : zs[i]? = some z) (hy : zs[j]? = some y) (hy1 : y.st = 1) (hij : j ≠ i) (h : OkL cap op ac ((zs.set j (closeZ y)).set i z')) (hf : z.fc ≤ z'.fc) (hyo : okB y cap = true) (h2 : c.d ≠ 2) (p : Dn) (hp : p.e = 0) :
    Lv cap op ac zs c ((zs.set j (closeZ y)).set i z', p) := by
  obtain ⟨c1, c2⟩ := close_imp hyo hy1
  have hjl := (List.getElem?_eq_some_iff.1 hy).1
  refine ⟨h, fun he => absurd hp he, by rw [List.length_set, List.length_set], ⟨some j, fun k hk hn => ?_, fun k e => ?_⟩, fun k x x' h3 h4 => ?_, fun e => absurd e h2⟩
  · rw [List.getElem?_set, if_neg (by omega), List.getElem?_set, if_neg (fun e => hn (by rw [e]))]
  · injection e with e
    subst e
    refine ⟨hp, y, hy, hy1, ?_, c2, by rw [c1]; rfl, by rw [c1]; rfl, by omega⟩
    rw [List.getElem?_set, if_neg (Ne.symm hij), List.getElem?_set, if_pos rfl, if_pos hjl]
  · replace h4 : ((zs.set j (closeZ y)).set i z')[k]? = some x' := h4
    rw [List.getElem?_set] at h4
    split at h4
    · rename_i e
      subst e
      rw [hz] at h3
      injection h3 with h3
      subst h3
      split at h4
      · injection h4 with h4
        subst h4
        exact hf
      · cases h4
    · rw [List.getElem?_set] at h4
      split at h4
      · rename_i e
        subst e
        rw [hy] at h3
        injection h3 with h3
        subst h3
        injection h4 with h4
        subst h4
        rw [c1]; exact Int.le_refl _
      · rw [h3] at h4; injection h4 with h4; rw [h4]; exact Int.le_refl _
/-- A zone is laid in its place, which had to be opened for it. -/
theorem Lv.put (h : OkL cap op ac zs) {i : Nat} {z z' : Zn} (hi : c.zone = (i : Int)) (hz : zs[i]? = some z) (hk : okB z' cap = true) (hf : z.fc ≤ z'.fc) (h2 : c.d ≠ 2) (at_ : Int) :
    Lv cap op ac zs c ((putO op ac zs i z').1, bif (putO op ac zs i z').2 == 0 then ⟨0, at_, []⟩ else fail_ (putO op ac zs i z').2) := by
  have hat : atI zs i = z := by unfold atI; rw [List.getD_eq_getElem?_getD, hz]; rfl
  have ho := h.op_
  have ha := h.ac_
  have q1 := one_le (openB z')
  have q2 := one_le (actB z')
  unfold putO
  rw [hat]
  unfold toCl
  rcases e1 : openB z
  · rcases e2 : actB z
    · rcases e3 : decide (ac ≤ (cA zs : Int))
      · have e3' := of_decide_eq_false e3
        rcases e4 : decide ((cO zs : Int) < op)
        · rcases e5 : firstI zs with _ | j
          · exact Lv.fail h 43
          · have e5' := e5
            unfold firstI at e5'
            rw [List.findIdx?_eq_some_iff_getElem] at e5'
            obtain ⟨hj, hj1, -⟩ := e5'
            have hy : zs[j]? = some zs[j] := List.getElem?_eq_getElem hj
            generalize zs[j] = y at *
            have hy1 : y.st = 1 := by simpa using hj1
            have hij : j ≠ i := by
              intro e
              subst e
              rw [hz] at hy
              injection hy with hy
              subst hy
              rw [imp_open hy1] at e1
              cases e1
            have hyo := h.at_ hy
            obtain ⟨k1, k2, k3, k4⟩ := close_ok hyo (close_imp hyo hy1).2
            have hok1 := h.less hy k1 (by rw [k2]; exact Nat.zero_le _) k3
            have s1 := cnt_set openB zs j y (closeZ y) hy
            rw [k2, imp_open hy1] at s1
            have s2 := cnt_set actB zs j y (closeZ y) hy
            have hz1 : (zs.set j (closeZ y))[i]? = some z := by rw [List.getElem?_set, if_neg hij]; exact hz
            have hok2 := hok1.set hz1 hk (by
              unfold cO at *
              rw [e1]
              have : one true = 1 := rfl
              have : one false = 0 := rfl
              omega) (by
              unfold cA at *
              rw [e2]
              have : one false = 0 := rfl
              omega)
            have hjn : ((j : Int) == -1) = false := beq_eq_false_iff_ne.2 (by omega)
            have hatj : atI zs j = y := by unfold atI; rw [List.getD_eq_getElem?_getD, hy]; rfl
            have hca : closeAt zs (j : Int) = zs.set j (closeZ y) := by unfold closeAt; rw [hjn, cond_false, Int.toNat_natCast, hatj]
            have := Lv.two (c := c) hi hz hy hy1 hij hok2 hf hyo h2 ⟨0, at_, []⟩ rfl
            rw [← hca] at this
            exact this
        · have e4' := of_decide_eq_true e4
          exact Lv.one_ hi hz (h.set hz hk (by rw [e1]; have : one false = 0 := rfl; omega) (by rw [e2]; have : one false = 0 := rfl; omega)) hf h2 ⟨0, at_, []⟩ rfl
      · exact Lv.fail h 44
    · rcases e4 : decide ((cO zs : Int) < op)
      · rcases e5 : firstI zs with _ | j
        · exact Lv.fail h 43
        · have e5' := e5
          unfold firstI at e5'
          rw [List.findIdx?_eq_some_iff_getElem] at e5'
          obtain ⟨hj, hj1, -⟩ := e5'
          have hy : zs[j]? = some zs[j] := List.getElem?_eq_getElem hj
          generalize zs[j] = y at *
          have hy1 : y.st = 1 := by simpa using hj1
          have hij : j ≠ i := by
            intro e
            subst e
            rw [hz] at hy
            injection hy with hy
            subst hy
            rw [imp_open hy1] at e1
            cases e1
          have hyo := h.at_ hy
          obtain ⟨k1, k2, k3, k4⟩ := close_ok hyo (close_imp hyo hy1).2
          have hok1 := h.less hy k1 (by rw [k2]; exact Nat.zero_le _) k3
          have s1 := cnt_set openB zs j y (closeZ y) hy
          rw [k2, imp_open hy1] at s1
          have s2 := cnt_set actB zs j y (closeZ y) hy
          have hz1 : (zs.set j (closeZ y))[i]? = some z := by rw [List.getElem?_set, if_neg hij]; exact hz
          have hok2 := hok1.set hz1 hk (by
            unfold cO at *
            rw [e1]
            have : one true = 1 := rfl
            have : one false = 0 := rfl
            omega) (by
            have := hok1.ac_
            rw [e2]
            have : one true = 1 := rfl
            omega)
          have hjn : ((j : Int) == -1) = false := beq_eq_false_iff_ne.2 (by omega)
          have hatj : atI zs j = y := by unfold atI; rw [List.getD_eq_getElem?_getD, hy]; rfl
          have hca : closeAt zs (j : Int) = zs.set j (closeZ y) := by unfold closeAt; rw [hjn, cond_false, Int.toNat_natCast, hatj]
          have := Lv.two (c := c) hi hz hy hy1 hij hok2 hf hyo h2 ⟨0, at_, []⟩ rfl
          rw [← hca] at this
          exact this
      · have e4' := of_decide_eq_true e4
        exact Lv.one_ hi hz (h.set hz hk (by rw [e1]; have : one false = 0 := rfl; omega) (by rw [e2]; have : one true = 1 := rfl; omega)) hf h2 ⟨0, at_, []⟩ rfl
  · have e2 := act_of_open e1
    exact Lv.one_ hi hz (h.set hz hk (by rw [e1]; have : one true = 1 := rfl; omega) (by rw [e2]; have : one true = 1 := rfl; omega)) hf h2 ⟨0, at_, []⟩ rfl
end

/-! ### Each act, each command -/
section
variable {cap op ac : Int} {zs : List Zn} {c : Cm}
theorem atI_eq {i : Nat} {z : Zn} (hz : zs[i]? = some z) : atI zs i = z := by unfold atI; rw [List.getD_eq_getElem?_getD, hz]; rfl
theorem Lv.add (h : OkL cap op ac zs) {i : Nat} {z : Zn} (hi : c.zone = (i : Int)) (hz : zs[i]? = some z) (hd : c.d = 1) : Lv cap op ac zs c (addP cap op ac zs i c) := by
  unfold addP
  rw [atI_eq hz]
  rcases e : (appErr z cap c.b.length == 0)
  · exact Lv.fail h _
  · have hp := Lv.put h hi hz (app_ok (beq_iff_eq.1 e)) (Int.le_refl _) (by rw [hd]; decide) z.len
    rcases e2 : ((putO op ac zs i (appZ z cap c.b)).2 == 0)
    · rw [e2] at hp
      exact Lv.fail h _
    · rw [e2] at hp
      exact hp
theorem torn_okB {z : Zn} {b : List B8} {n : Int} (h0 : appErr z cap b.length = 0) (h1 : tornErr z cap b n = 0) (h2 : n ≠ 0) : okB (tornZ z cap b n) cap = true ∧ (tornZ z cap b n).fc = z.fc := by
  unfold tornZ
  rw [h1, beq_eq_false_iff_ne.2 h2]
  have h1' := h1
  unfold tornErr at h1'
  rw [h0] at h1'
  have hb : (decide (n < 0) || decide ((b.length : Int) < n)) = false := by
    rcases e : (decide (n < 0) || decide ((b.length : Int) < n))
    · rfl
    · rw [e] at h1'; cases h1'
  simp only [Bool.or_eq_false_iff, decide_eq_false_iff_not] at hb
  obtain ⟨o1, o2, o3, o4⟩ := appErr_zero h0
  refine ⟨app_ok (appErr_of o1 ?_ o3 ?_), rfl⟩
  · rw [List.length_take]; omega
  · rw [List.length_take]; omega
theorem Lv.tear (h : OkL cap op ac zs) {i : Nat} {z : Zn} (hi : c.zone = (i : Int)) (hz : zs[i]? = some z) (hd : c.d = 8) : Lv cap op ac zs c (tearP cap op ac zs i c) := by
  unfold tearP
  rw [atI_eq hz]
  rcases e : (appErr z cap c.b.length == 0)
  · exact Lv.fail h _
  · rcases e2 : ((toCl op ac zs z).2 == 0)
    · exact Lv.fail h _
    · rcases e3 : (tornErr z cap c.b c.n == 0)
      · exact Lv.fail h _
      · rcases e4 : (c.n == 0)
        · obtain ⟨k1, k2⟩ := torn_okB (beq_iff_eq.1 e) (beq_iff_eq.1 e3) (beq_eq_false_iff_ne.1 e4)
          have hp := Lv.put h hi hz k1 (by rw [k2]; exact Int.le_refl _) (by rw [hd]; decide) 0
          rcases e5 : ((putO op ac zs i (tornZ z cap c.b c.n)).2 == 0)
          · rw [e5] at hp
            exact hp
          · rw [e5] at hp
            simp only [cond_true, cond_false]
            rw [beq_iff_eq.1 e5]
            exact hp
        · exact Lv.fail h _
theorem Lv.readA (h : OkL cap op ac zs) (i : Nat) : Lv cap op ac zs c (readP zs i c) := by
  unfold readP
  refine Lv.same h _ fun he => ⟨?_, rfl⟩
  have he : errOf (readB (atI zs i) c.off c.n) ≠ 0 := he
  show readL (atI zs i) c.off c.n = []
  unfold readL
  rcases e : readB (atI zs i) c.off c.n
  · rfl
  · rw [e] at he; exact absurd rfl he
theorem Lv.reset (h : OkL cap op ac zs) {i : Nat} {z : Zn} (hi : c.zone = (i : Int)) (hz : zs[i]? = some z) (hd : c.d = 3) : Lv cap op ac zs c (resetP zs i) := by
  unfold resetP
  rw [atI_eq hz]
  exact Lv.one_ hi hz (h.less hz (ok_new (h.at_ hz)) (Nat.zero_le _) (Nat.zero_le _)) (Int.le_refl _) (by rw [hd]; decide) _ rfl
theorem Lv.finish (h : OkL cap op ac zs) {i : Nat} {z : Zn} (hi : c.zone = (i : Int)) (hz : zs[i]? = some z) (hd : c.d = 4) : Lv cap op ac zs c (finishP zs i) := by
  unfold finishP
  rw [atI_eq hz]
  exact Lv.one_ hi hz (h.less hz (ok_full (h.at_ hz)) (Nat.zero_le _) (Nat.zero_le _)) (Int.le_refl _) (by rw [hd]; decide) _ rfl
theorem open_okB {z : Zn} (h : okB z cap = true) (he : openErr z cap = 0) : okB (openZ z cap) cap = true ∧ (openZ z cap).fc = z.fc := by
  have h4 : z.st ≠ 4 := by
    intro e
    unfold openErr at he
    rw [h, e] at he
    cases he
  unfold openZ
  rw [he]
  obtain ⟨p1, -, -, hm, -⟩ := ok_parts h
  exact ⟨in_ok h (may2 (may_less p1 hm h4)), rfl⟩
theorem Lv.open_ (h : OkL cap op ac zs) {i : Nat} {z : Zn} (hi : c.zone = (i : Int)) (hz : zs[i]? = some z) (hd : c.d = 5) : Lv cap op ac zs c (openP cap op ac zs i) := by
  unfold openP
  rw [atI_eq hz]
  rcases e : (openErr z cap == 0)
  · exact Lv.fail h _
  · obtain ⟨k1, k2⟩ := open_okB (h.at_ hz) (beq_iff_eq.1 e)
    have hp := Lv.put h hi hz k1 (by rw [k2]; exact Int.le_refl _) (by rw [hd]; decide) 0
    rcases e5 : ((putO op ac zs i (openZ z cap)).2 == 0)
    · rw [e5] at hp
      exact hp
    · rw [e5] at hp
      simp only [cond_true]
      rw [beq_iff_eq.1 e5]
      exact hp
theorem Lv.close (h : OkL cap op ac zs) {i : Nat} {z : Zn} (hi : c.zone = (i : Int)) (hz : zs[i]? = some z) (hd : c.d = 6) : Lv cap op ac zs c (closeP zs i) := by
  unfold closeP
  rw [atI_eq hz]
  rcases e : (closeErr z == 0)
  · exact Lv.fail h _
  · obtain ⟨k1, k2, k3, k4⟩ := close_ok (h.at_ hz) (beq_iff_eq.1 e)
    exact Lv.one_ hi hz (h.less hz k1 (by rw [k2]; exact Nat.zero_le _) k3) (by rw [k4]; exact Int.le_refl _) (by rw [hd]; decide) _ rfl
theorem Lv.fence (h : OkL cap op ac zs) {i : Nat} {z : Zn} (hi : c.zone = (i : Int)) (hz : zs[i]? = some z) (hd : c.d = 7) : Lv cap op ac zs c (fenceP zs i c) := by
  unfold fenceP
  rw [atI_eq hz]
  rcases e : decide (c.epoch ≤ z.fc)
  · have e' := of_decide_eq_false e
    obtain ⟨p1, p2, p3, p4, -⟩ := ok_parts (h.at_ hz)
    refine Lv.one_ (z' := ⟨z.st, c.epoch, z.data⟩) hi hz (h.less hz ?_ (Nat.le_refl _) (Nat.le_refl _)) (show z.fc ≤ c.epoch by omega) (by rw [hd]; decide) _ rfl
    rw [ok_iff p1 p2 (show 0 ≤ c.epoch by omega)]
    exact p4
  · exact Lv.fail h _
/-- Whatever the command. -/
theorem step_left (h : OkL cap op ac zs) (c : Cm) : Lv cap op ac zs c (stepP cap op ac zs c) := by
  unfold stepP
  rcases e0 : (!knownB c.d || (decide (c.zone < 0) || decide ((zs.length : Int) ≤ c.zone)))
  · simp only [Bool.or_eq_false_iff, decide_eq_false_iff_not, Bool.not_eq_false'] at e0
    obtain ⟨k0, k1, k2⟩ := e0
    obtain ⟨i, hi⟩ : ∃ i : Nat, c.zone = (i : Int) := ⟨c.zone.toNat, by omega⟩
    have hz : zs[i]? = some zs[i] := List.getElem?_eq_getElem (by omega)
    generalize zs[i]'(by omega) = z at *
    have hti : c.zone.toNat = i := by omega
    simp only [cond_false]
    rw [hti]
    rcases e1 : (!(c.d == 7) && !(c.epoch == (atI zs i).fc))
    · simp only [cond_false]
      rcases known_of k0 with e | e | e | e | e | e | e | e
      · have : actP cap op ac zs i c = addP cap op ac zs i c := by unfold actP; rw [e]; rfl
        rw [this]; exact Lv.add h hi hz e
      · have : actP cap op ac zs i c = tearP cap op ac zs i c := by unfold actP; rw [e]; rfl
        rw [this]; exact Lv.tear h hi hz e
      · have : actP cap op ac zs i c = readP zs i c := by unfold actP; rw [e]; rfl
        rw [this]; exact Lv.readA h i
      · have : actP cap op ac zs i c = resetP zs i := by unfold actP; rw [e]; rfl
        rw [this]; exact Lv.reset h hi hz e
      · have : actP cap op ac zs i c = finishP zs i := by unfold actP; rw [e]; rfl
        rw [this]; exact Lv.finish h hi hz e
      · have : actP cap op ac zs i c = openP cap op ac zs i := by unfold actP; rw [e]; rfl
        rw [this]; exact Lv.open_ h hi hz e
      · have : actP cap op ac zs i c = closeP zs i := by unfold actP; rw [e]; rfl
        rw [this]; exact Lv.close h hi hz e
      · have : actP cap op ac zs i c = fenceP zs i c := by unfold actP; rw [e]; rfl
        rw [this]; exact Lv.fence h hi hz e
    · exact Lv.fail h 42
  · exact Lv.fail h 1
/-- Fences: what FenceC says, and a command of another epoch. -/
theorem step_fence (cap op ac : Int) (c : Cm) {i : Nat} {z : Zn} (hi : c.zone = (i : Int)) (hz : zs[i]? = some z) :
    (c.d = 7 → (((stepP cap op ac zs c).2.e = 0) ↔ z.fc < c.epoch) ∧ ((stepP cap op ac zs c).2.e = 0 → ∃ z', (stepP cap op ac zs c).1[i]? = some z' ∧ z'.fc = c.epoch)) ∧
    (c.d ≠ 7 → c.epoch ≠ z.fc → (stepP cap op ac zs c).2.e ≠ 0) := by
  have hil := (List.getElem?_eq_some_iff.1 hz).1
  have hti : c.zone.toNat = i := by omega
  have hb1 : decide (c.zone < 0) = false := decide_eq_false (by omega)
  have hb2 : decide ((zs.length : Int) ≤ c.zone) = false := decide_eq_false (by omega)
  constructor
  · intro hd
    have hst : stepP cap op ac zs c = fenceP zs i c := by
      unfold stepP actP
      rw [hd, hb1, hb2, hti]; rfl
    rw [hst]
    unfold fenceP
    rw [atI_eq hz]
    rcases e : decide (c.epoch ≤ z.fc)
    · have e' := of_decide_eq_false e
      refine ⟨⟨fun _ => by omega, fun _ => rfl⟩, fun _ => ⟨⟨z.st, c.epoch, z.data⟩, ?_, rfl⟩⟩
      show (zs.set i _)[i]? = _
      rw [List.getElem?_set, if_pos rfl, if_pos hil]
    · have e' := of_decide_eq_true e
      refine ⟨⟨fun h => (by cases h), fun h => (by omega)⟩, fun h => (by cases h)⟩
  · intro hd hep
    unfold stepP
    rw [hb1, hb2, hti, atI_eq hz, beq_eq_false_iff_ne.2 hd, beq_eq_false_iff_ne.2 hep]
    rcases knownB c.d
    · intro e; cases e
    · intro e; cases e
/-- A device that may be stays one. -/
theorem do_left {d : Dv} (h : okD d = true) (c : Cm) : okD (doP d c).1 = true ∧ (doP d c).1.cap = d.cap ∧ (doP d c).1.op = d.op ∧ (doP d c).1.ac = d.ac ∧ (doP d c).1.zs = (stepP d.cap d.op d.ac d.zs c).1 ∧ (doP d c).2 = (stepP d.cap d.op d.ac d.zs c).2 ∧ Lv d.cap d.op d.ac d.zs c (stepP d.cap d.op d.ac d.zs c) := by
  have hl := step_left (okL_iff.1 h) c
  unfold doP
  rw [h]
  exact ⟨okL_iff.2 hl.ok, rfl, rfl, rfl, rfl, rfl, hl⟩
end
end Zns
end Go.Proofs.YtedandbkdjmfhaaGreat
/-
  WALKS OVER zns.New, AND THE DOCUMENT'S OWN.
-/
namespace Go.Proofs.YtedandbkdjmfhaaGreat
open Go.RowKit Mem Zon
namespace Zns

def newP (zones most op ac : Int) : Dv := bif boundsB zones most op ac then ⟨most, op, ac, List.replicate zones.toNat nilZ⟩ else ⟨0, 0, 0, []⟩
/-- A device and an error, as a call gave them. -/
def GaveD (w : World) (p : Dv) (er : Int) (en : Ending) (w' : World) : Prop :=
  ∃ d, en = .returned (.tuple #[.agg #[.int .i64 d.cap, .int .i64 d.op, .int .i64 d.ac, .slice d.A d.n d.c], .int .i64 er]) ∧ DevAt w' d ∧ d.p = p ∧ Below w.heap.size w w'
def dx0 : Dx := ⟨0, 0, 0, none, 0, 0, []⟩
theorem dev0 (w : World) : DevAt w dx0 := ⟨RowS.nil _ _ _, by intro x hx; cases hx⟩
theorem new_ok {n : Nat} {most op ac : Int} (h : boundsB n most op ac = true) : okD ⟨most, op, ac, List.replicate n nilZ⟩ = true := by
  have hb := bounds_parts.1 h
  refine okD_parts.2 ⟨by rw [List.length_replicate]; exact h, fun z hz => ?_, ?_, ?_⟩
  · rw [List.eq_of_mem_replicate hz]
    show okB nilZ most = true
    rw [ok_iff (by omega) (by omega) (show (0 : Int) ≤ 0 by omega)]
    rfl
  · have : cO (List.replicate n nilZ) = 0 := by unfold cO; rw [List.countP_replicate]; rfl
    rw [this]
    show (0 : Int) ≤ op
    omega
  · have : cA (List.replicate n nilZ) = 0 := by unfold cA; rw [List.countP_replicate]; rfl
    rw [this]
    show (0 : Int) ≤ ac
    omega
theorem new_bad {n : Nat} {most op ac : Int} (h : boundsB n most op ac = false) : okD ⟨most, op, ac, List.replicate n nilZ⟩ = false := by
  unfold okD
  rw [List.length_replicate, h]; rfl
/-- Zones made anew, as a device. -/
theorem made_dev {w' : World} {most op ac : Int} {n o q : Nat} (hn : n ≤ 1000) (ho : o = 0) (h : OwnZ w' q 0 (List.replicate n zeroV)) : DevAt w' ⟨most, op, ac, some ⟨q, o, none⟩, n, n, List.replicate n zeroV⟩ ∧ (⟨most, op, ac, some ⟨q, o, none⟩, n, n, List.replicate n zeroV⟩ : Dx).p = ⟨most, op, ac, List.replicate n nilZ⟩ := by
  subst ho
  refine ⟨⟨⟨by simp, Nat.le_refl _, by show n ≤ _; omega, fun _ => ⟨q, 0, rfl, h.lt, fun i x hx j u hu => h.cell hx hu⟩⟩, fun x hx => ?_⟩, ?_⟩
  · rw [List.eq_of_mem_replicate hx]; exact Row.nil cb _
  · show Dv.mk _ _ _ _ = _
    rw [List.map_replicate]; rfl

set_option maxRecDepth 100000 in
set_option maxHeartbeats 3200000 in
theorem new_any (zones most op ac : Int) (w : World) :
    Calls Tryz.prog 5 #[.int .i64 zones, .int .i64 most, .int .i64 op, .int .i64 ac] w (GaveD w (newP zones most op ac) (errOf (boundsB zones most op ac))) := by
  have HB := fun w => bounds_any zones most op ac w
  have L1 : Hid (Below w.heap.size w (w.alloc (.cells #[.int .i64 0, .int .i64 0, .int .i64 0, .slice none 0 0] 28))) := (Below.refl _ w).alloc (Nat.le_refl _) _
  have Z1 : Hid (Cells (w.alloc (.cells #[.int .i64 0, .int .i64 0, .int .i64 0, .slice none 0 0] 28)) w.heap.size 28 #[.int .i64 0, .int .i64 0, .int .i64 0, .slice none 0 0]) := Cells.new w _ _
  unfold GaveD newP
  rcases hb : boundsB zones most op ac
  · rw [hb] at HB
    go_enter Tryz.func5, Tryz.ntmps5
    go_upto_region 1 with fail
    generalize w.alloc (.cells #[.int .i64 0, .int .i64 0, .int .i64 0, .slice none 0 0] 28) = w1 at *
    have z0 : w1.cell? ⟨w.heap.size, 0, none⟩ = some (.int .i64 0) := Cells.cell Z1.out 0
    have z1 : w1.cell? ⟨w.heap.size, 1, none⟩ = some (.int .i64 0) := Cells.cell Z1.out 1
    have z2 : w1.cell? ⟨w.heap.size, 2, none⟩ = some (.int .i64 0) := Cells.cell Z1.out 2
    have z3 : w1.cell? ⟨w.heap.size, 3, none⟩ = some (.slice none 0 0) := Cells.cell Z1.out 3
    have f0 : w1.frozen? ⟨w.heap.size, 0, none⟩ = false := Cells.frozen Z1.out 0
    have f1 : w1.frozen? ⟨w.heap.size, 1, none⟩ = false := Cells.frozen Z1.out 1
    have f2 : w1.frozen? ⟨w.heap.size, 2, none⟩ = false := Cells.frozen Z1.out 2
    have f3 : w1.frozen? ⟨w.heap.size, 3, none⟩ = false := Cells.frozen Z1.out 3
    go_wp2_with fail
    refine (HB w1).mono ?_
    rintro e w2 ⟨rfl, rfl⟩
    go_wp2_with fail
    refine bodyPost_ret_by (results_zone_tmp rfl _ _ w.heap.size _ _ _ _ rfl (Cells.set4 Z1.out (.int .i64 0) (.int .i64 0) (.int .i64 0) (.slice none 0 0)) Tryz.underlying28 rfl (by kernel_rfl)) rfl ?_
    exact ⟨dx0, rfl, dev0 _, rfl, below4 L1.out (Nat.le_refl _) _ _ _ _⟩
  · rw [hb] at HB
    obtain ⟨n, rfl⟩ : ∃ n : Nat, zones = (n : Int) := ⟨zones.toNat, by have := (bounds_parts.1 hb).1; omega⟩
    have hn : n ≤ 1000 := by have := (bounds_parts.1 hb).2.1; omega
    obtain ⟨o, ho⟩ : ∃ o : Nat, o = 0 := ⟨0, rfl⟩
    have HO := Lib.hid ho
    have hmk : ∀ w : World, (Instr.makeSlice 26 (.int .i64 (n : Int)) (.int .i64 (n : Int))).run Tryz.prog w = .ok (.slice (some ⟨w.heap.size, o, none⟩) n n) (w.alloc (.cells (madeCells #[.int .i64 0, .int .i64 0, .slice none 0 0] (n * 3)) 54)) := by
      rw [ho]; exact fun w => run_make_zone w n hn
    have HM := fun w : World => Lib.hid (made_zone (w := w) n)
    clear hb ho
    go_enter Tryz.func5, Tryz.ntmps5
    go_upto_region 1 with fail
    generalize w.alloc (.cells #[.int .i64 0, .int .i64 0, .int .i64 0, .slice none 0 0] 28) = w1 at *
    go_wp2_with fail
    refine (HB w1).mono ?_
    rintro e w2 ⟨rfl, hw⟩
    obtain rfl := hw.symm
    clear hw
    have b2 : Below w1.heap.size w1 (w1.alloc (.cells (madeCells #[.int .i64 0, .int .i64 0, .slice none 0 0] (n * 3)) 54)) := (Below.refl _ w1).alloc (Nat.le_refl _) _
    have Z2 := Lib.hid (Cells.below Z1.out b2)
    have L2 := Lib.hid (L1.out.trans (b2.mono L1.out.size))
    have M2 := HM w1
    have V2 : Hid (w.heap.size < w1.heap.size) := Cells.lt Z1.out
    have z0 : (w1.alloc (.cells (madeCells #[.int .i64 0, .int .i64 0, .slice none 0 0] (n * 3)) 54)).cell? ⟨w.heap.size, 0, none⟩ = some (.int .i64 0) := Cells.cell Z2.out 0
    have z1 : (w1.alloc (.cells (madeCells #[.int .i64 0, .int .i64 0, .slice none 0 0] (n * 3)) 54)).cell? ⟨w.heap.size, 1, none⟩ = some (.int .i64 0) := Cells.cell Z2.out 1
    have z2 : (w1.alloc (.cells (madeCells #[.int .i64 0, .int .i64 0, .slice none 0 0] (n * 3)) 54)).cell? ⟨w.heap.size, 2, none⟩ = some (.int .i64 0) := Cells.cell Z2.out 2
    have z3 : (w1.alloc (.cells (madeCells #[.int .i64 0, .int .i64 0, .slice none 0 0] (n * 3)) 54)).cell? ⟨w.heap.size, 3, none⟩ = some (.slice none 0 0) := Cells.cell Z2.out 3
    have f0 : (w1.alloc (.cells (madeCells #[.int .i64 0, .int .i64 0, .slice none 0 0] (n * 3)) 54)).frozen? ⟨w.heap.size, 0, none⟩ = false := Cells.frozen Z2.out 0
    have f1 : (w1.alloc (.cells (madeCells #[.int .i64 0, .int .i64 0, .slice none 0 0] (n * 3)) 54)).frozen? ⟨w.heap.size, 1, none⟩ = false := Cells.frozen Z2.out 1
    have f2 : (w1.alloc (.cells (madeCells #[.int .i64 0, .int .i64 0, .slice none 0 0] (n * 3)) 54)).frozen? ⟨w.heap.size, 2, none⟩ = false := Cells.frozen Z2.out 2
    have f3 : (w1.alloc (.cells (madeCells #[.int .i64 0, .int .i64 0, .slice none 0 0] (n * 3)) 54)).frozen? ⟨w.heap.size, 3, none⟩ = false := Cells.frozen Z2.out 3
    generalize hw2 : w1.alloc (.cells (madeCells #[.int .i64 0, .int .i64 0, .slice none 0 0] (n * 3)) 54) = w2 at *
    have hmk2 := hmk w1
    rw [hw2] at hmk2
    clear hw2 hmk HM L1 Z1
    generalize w1.heap.size = q at *
    go_wp2_with fail
    refine bodyPost_ret_by (results_zone_tmp rfl _ _ w.heap.size _ _ _ _ rfl (Cells.set4 Z2.out (.int .i64 most) (.int .i64 op) (.int .i64 ac) (.slice (some ⟨q, o, none⟩) n n)) Tryz.underlying28 rfl (by kernel_rfl)) rfl ?_
    obtain ⟨k1, k2⟩ := made_dev (most := most) (op := op) (ac := ac) (by omega) HO.out (M2.out.heap (w' := (((w2.setCell ⟨w.heap.size, 0, none⟩ (.int .i64 most)).setCell ⟨w.heap.size, 1, none⟩ (.int .i64 op)).setCell ⟨w.heap.size, 2, none⟩ (.int .i64 ac)).setCell ⟨w.heap.size, 3, none⟩ (.slice (some ⟨q, o, none⟩) n n)) ((But.set4 w2 w.heap.size _ _ _ _).block M2.out.lt (by have := V2.out; omega)))
    exact ⟨_, rfl, k1, k2, below4 L2.out (Nat.le_refl _) _ _ _ _⟩
end Zns
end Go.Proofs.YtedandbkdjmfhaaGreat
