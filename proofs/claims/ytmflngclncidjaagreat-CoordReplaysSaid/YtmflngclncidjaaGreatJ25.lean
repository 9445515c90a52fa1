/-
  SEVERAL TEXTS IN ONE FILE: CooAll, Cut, CooNew.
-/
import Derived.Test.YtmflngclncidjaaGreatJ24
import Derived.WalkKit
import Derived.Test.YtmflngclncidjaaGreatJ16
/-
  A WALK OVER All. (Written by gen_cooall.py.)
-/
namespace Go.Proofs.YtmflngclncidjaaGreat
open Go.RowKit Mem
namespace Coo
open Lea (Cells But OneBox Lv Tv)
open Spa (Sp)

theorem RowF.move {base g : Nat} {a b a' b' : Option Nat} {w w' : World} {B : Option Addr} {n d : Nat} {l : List Fv} (h : RowF w B n d l) (hB : ∀ k o, B = some ⟨k, o, none⟩ → 0 < n → Off g a b k) (hm : Move base g a b a' b' w w') : RowF w' B n d l := by
  refine ⟨h.len, h.cap, h.big, fun h0 => ?_⟩
  obtain ⟨q, o, e, hq, hcell⟩ := h.at_ h0
  refine ⟨q, o, e, Nat.lt_of_lt_of_le hq hm.size, fun i x hi j u hu => ?_⟩
  rw [World.cell?_of_block (w := w) (hm.keep q hq (hB q o e h0)).1]
  exact hcell i x hi j u hu
theorem Acts.ne {w : World} {r g q : Nat} {t : TypeId} {cs : Array Value} (h : Acts w r g) (hc : Cells w q t cs) : r ≠ q := by
  intro e
  subst e
  unfold Acts at h
  unfold Cells at hc
  rw [h] at hc
  cases hc
theorem take_set {α : Type} (l : List α) (j : Nat) (e : α) (hj : j < l.length) : (l.set j e).take (j + 1) = l.take j ++ [e] := by
  rw [List.take_add_one, List.getElem?_set, if_pos rfl, if_pos hj, Option.toList_some, List.take_set_of_le (by omega)]
/-- Where All's loop stands. -/
structure AllI (w : World) (c : Cv) (evs : List Ev) (base g r dq o m : Nat) (wr : World) (j : Nat) (x1 : Cx) (es : List Ax) : Prop where
  p : x1.p = (allC c (evs.take j)).1
  d : Desk base wr g x1
  a : Acts wr r g
  o : OwnA wr dq o es
  len : es.length = m
  td : ∀ y ∈ es, RowF wr y.B y.n y.k y.p.todo ∧ ∀ k o, y.B = some ⟨k, o, none⟩ → 0 < y.n → Off g (oL x1) (oW x1) k ∧ k ≠ dq ∧ k ≠ w.heap.size + 1 ∧ w.heap.size ≤ k
  b : Below w.heap.size w wr
  z : Cells wr (w.heap.size + 1) 31 #[.int .i64 0, .int .i64 0, .slice none 0 0, .slice none 0 0, .slice none 0 0, .int .i64 0, .int .i64 0]
  ans : (es.take j).map Ax.p = (allC c (evs.take j)).2
theorem AllI.to {w : World} {c : Cv} {evs : List Ev} {base g r dq o m : Nat} {wr w' : World} {j : Nat} {x1 : Cx} {es : List Ax} (h : AllI w c evs base g r dq o m wr j x1 es) (hb : Below wr.heap.size wr w') : AllI w c evs base g r dq o m w' j x1 es :=
  ⟨h.p, h.d.below hb, h.a.below hb, h.o.below hb, h.len, fun y hy => ⟨RowS.below (h.td y hy).1 hb, (h.td y hy).2⟩, h.b.trans (hb.mono h.b.size), Lea.Cells.below h.z hb, h.ans⟩
theorem AllI.next {w : World} {c : Cv} {evs : List Ev} {base g r dq o m : Nat} {wr w7 : World} {j : Nat} {x1 x2 : Cx} {es : List Ax} {e : Ev} (h : AllI w c evs base g r dq o m wr j x1 es) (he : evs[j]? = some e) (hj : j < m) (hbase : w.heap.size ≤ base) (hdq : w.heap.size ≤ dq) {a : Cv × An} (ha : a = doC x1.p e)
    (hp : x2.p = a.1) (hd : Desk base w7 g x2) {B : Option Addr} {n d : Nat} (hr : RowF w7 B n d a.2.todo) (hB : ∀ k o, B = some ⟨k, o, none⟩ → wr.heap.size ≤ k ∧ Off g (oL x2) (oW x2) k) (hm : Move base g (oL x1) (oW x1) (oL x2) (oW x2) wr w7) :
    AllI w c evs base g r dq o m (((w7.setCell ⟨dq, o + j * 3, none⟩ (.int .i64 a.2.e)).setCell ⟨dq, o + j * 3 + 1, none⟩ (.int .i64 a.2.epoch)).setCell ⟨dq, o + j * 3 + 2, none⟩ (.slice B n d)) (j + 1) x2 (es.set j ⟨a.2, B, n, d⟩) := by
  have hez := h.len
  obtain ⟨e0, he0⟩ : ∃ e0, es[j]? = some e0 := ⟨_, List.getElem?_eq_getElem (by omega)⟩
  obtain ⟨cs, hcs, hcell⟩ := h.o
  have hqoff : Off g (oL x1) (oW x1) dq := ⟨cells_ne hcs h.d.box (by decide), own_ne h.d.l.1 hcs (by decide), own_ne h.d.f.1 hcs (by decide)⟩
  have hzoff : Off g (oL x1) (oW x1) (w.heap.size + 1) := ⟨cells_ne h.z h.d.box (by decide), own_ne h.d.l.1 h.z (by decide), own_ne h.d.f.1 h.z (by decide)⟩
  have hq7 := hm.keep dq (Lea.Cells.lt hcs) hqoff
  have hz7 := hm.keep _ (Lea.Cells.lt h.z) hzoff
  have hr7 := hm.keep r h.a.lt (h.a.off h.d)
  have o7 : OwnA w7 dq o es := OwnA.heap ⟨cs, hcs, hcell⟩ hq7.1
  have c7 : Cells w7 dq 39 cs := hq7.1.trans hcs
  have z7 : Cells w7 (w.heap.size + 1) _ _ := hz7.1.trans h.z
  have a7 : Acts w7 r g := hr7.1.trans h.a
  have bt : But dq w7 (((w7.setCell ⟨dq, o + j * 3, none⟩ (.int .i64 a.2.e)).setCell ⟨dq, o + j * 3 + 1, none⟩ (.int .i64 a.2.epoch)).setCell ⟨dq, o + j * 3 + 2, none⟩ (.slice B n d)) := (Lea.But.set1 _ _ _ _).trans ((Lea.But.set1 _ _ _ _).trans (Lea.But.set1 _ _ _ _))
  have hzq : w.heap.size + 1 ≠ dq := cells_ne h.z hcs (by decide)
  have hT : evs.take (j + 1) = evs.take j ++ [e] := by rw [List.take_add_one, he, Option.toList_some]
  refine ⟨?_, hd.but c7 bt (by decide) (by decide) (by decide) (by decide), (bt.block a7.lt (a7.ne c7)).trans a7, o7.store ⟨a.2, B, n, d⟩ he0, by rw [List.length_set]; exact hez, fun y hy => ?_, ?_, Lea.Cells.but z7 bt hzq, ?_⟩
  · rw [hT, all_snoc, hp, ha, h.p]
  · rcases List.mem_or_eq_of_mem_set hy with hy | rfl
    · obtain ⟨h1, h2⟩ := h.td y hy
      have h3 := RowF.move h1 (fun k o e h0 => (h2 k o e h0).1) hm
      refine ⟨RowS.keepBut h3 (fun k o e h0 => (h2 k o e h0).2.1) bt, fun k o e h0 => ⟨?_, (h2 k o e h0).2⟩⟩
      obtain ⟨q, oo, e2, hq, -⟩ := h1.at_ h0
      rw [e] at e2
      injection e2 with e2
      injection e2 with e2
      subst e2
      exact (hm.keep k hq (h2 k o e h0).1).2
    · refine ⟨RowF.away hr bt (fun k o e => ?_), fun k o e _ => ⟨(hB k o e).2, ?_, ?_, ?_⟩⟩
      · have := (hB k o e).1; have := Lea.Cells.lt hcs; omega
      · have := (hB k o e).1; have := Lea.Cells.lt hcs; omega
      · have := (hB k o e).1; have := Lea.Cells.lt h.z; omega
      · have := (hB k o e).1; have := h.b.size; omega
  · exact (h.b.trans (hm.below.mono hbase)).trans (bt.below (by have := h.b.size; have := hm.size; omega) hdq)
  · rw [take_set _ _ _ (by omega), List.map_append, h.ans, hT, all_snoc, ← h.p, ← ha]; rfl

theorem cells_set7 {w : World} {q : Nat} {t : TypeId} {a b c d e f g : Value} (h : Cells w q t #[a, b, c, d, e, f, g]) (x y z u v r s : Value) : Cells (((((((w.setCell ⟨q, 0, none⟩ x).setCell ⟨q, 1, none⟩ y).setCell ⟨q, 2, none⟩ z).setCell ⟨q, 3, none⟩ u).setCell ⟨q, 4, none⟩ v).setCell ⟨q, 5, none⟩ r).setCell ⟨q, 6, none⟩ s) q t #[x, y, z, u, v, r, s] := by
  have h1 : Cells (w.setCell ⟨q, 0, none⟩ x) q t #[x, b, c, d, e, f, g] := Lea.Cells.set_ h 0 x
  generalize w.setCell ⟨q, 0, none⟩ x = w1 at *
  have h2 : Cells (w1.setCell ⟨q, 1, none⟩ y) q t #[x, y, c, d, e, f, g] := Lea.Cells.set_ h1 1 y
  generalize w1.setCell ⟨q, 1, none⟩ y = w2 at *
  have h3 : Cells (w2.setCell ⟨q, 2, none⟩ z) q t #[x, y, z, d, e, f, g] := Lea.Cells.set_ h2 2 z
  generalize w2.setCell ⟨q, 2, none⟩ z = w3 at *
  have h4 : Cells (w3.setCell ⟨q, 3, none⟩ u) q t #[x, y, z, u, e, f, g] := Lea.Cells.set_ h3 3 u
  generalize w3.setCell ⟨q, 3, none⟩ u = w4 at *
  have h5 : Cells (w4.setCell ⟨q, 4, none⟩ v) q t #[x, y, z, u, v, f, g] := Lea.Cells.set_ h4 4 v
  generalize w4.setCell ⟨q, 4, none⟩ v = w5 at *
  have h6 : Cells (w5.setCell ⟨q, 5, none⟩ r) q t #[x, y, z, u, v, r, g] := Lea.Cells.set_ h5 5 r
  generalize w5.setCell ⟨q, 5, none⟩ r = w6 at *
  exact Lea.Cells.set_ h6 6 s
theorem but_set7 (w : World) (q : Nat) (x y z u v r s : Value) : But q w (((((((w.setCell ⟨q, 0, none⟩ x).setCell ⟨q, 1, none⟩ y).setCell ⟨q, 2, none⟩ z).setCell ⟨q, 3, none⟩ u).setCell ⟨q, 4, none⟩ v).setCell ⟨q, 5, none⟩ r).setCell ⟨q, 6, none⟩ s) :=
  (Lea.But.set1 _ _ _ _).trans ((Lea.But.set1 _ _ _ _).trans ((Lea.But.set1 _ _ _ _).trans ((Lea.But.set1 _ _ _ _).trans ((Lea.But.set1 _ _ _ _).trans ((Lea.But.set1 _ _ _ _).trans (Lea.But.set1 _ _ _ _))))))

/-- Rows that are new since w. -/
structure Fresh (w : World) (x : Cx) : Prop where
  l : ∀ k o, x.A = some ⟨k, o, none⟩ → w.heap.size ≤ k
  s : ∀ k o, x.S = some ⟨k, o, none⟩ → w.heap.size ≤ k
  f : ∀ k o, x.W = some ⟨k, o, none⟩ → w.heap.size ≤ k
/-- What All gave. -/
def Gone (w : World) (m : Nat) (r : Cv × List An) (en : Ending) (w' : World) : Prop :=
  ∃ x' B es, en = .returned (.tuple #[cxv x', .slice B m m]) ∧ x'.p = r.1 ∧ CoordAt w' x' ∧ RowS cellsA 3 w' B m m es ∧ (∀ y ∈ es, RowF w' y.B y.n y.k y.p.todo ∧ ∀ k o, y.B = some ⟨k, o, none⟩ → 0 < y.n → w.heap.size ≤ k) ∧ es.map Ax.p = r.2 ∧ Below w.heap.size w w' ∧ Fresh w x' ∧ ∀ k o, B = some ⟨k, o, none⟩ → w.heap.size ≤ k
theorem ev_cells {w W : World} {L : Option Addr} {m lc : Nat} {evs : List Ev} (h : RowS cellsE 8 w L m lc evs) {j : Nat} {e : Ev} (hx : evs[j]? = some e) (hW : Below w.heap.size w W) :
    ∃ b o, L = some ⟨b, o, none⟩ ∧ W.cell? ⟨b, o + j * 8, none⟩ = some (.int .i64 e.d) ∧ W.cell? ⟨b, o + j * 8 + 1, none⟩ = some (.int .i64 e.host) ∧ W.cell? ⟨b, o + j * 8 + 2, none⟩ = some (.int .i64 e.zone) ∧ W.cell? ⟨b, o + j * 8 + 3, none⟩ = some (.int .i64 e.epoch) ∧ W.cell? ⟨b, o + j * 8 + 4, none⟩ = some (.int .i64 e.fr) ∧ W.cell? ⟨b, o + j * 8 + 5, none⟩ = some (.int .i64 e.to) ∧ W.cell? ⟨b, o + j * 8 + 6, none⟩ = some (.int .i64 e.now) ∧ W.cell? ⟨b, o + j * 8 + 7, none⟩ = some (.int .i64 e.key) := by
  obtain ⟨b, o, he, hb, hc⟩ := h.elem hx
  have h := hc W (hW.block b hb)
  exact ⟨b, o, he, h 0 _ rfl, h 1 _ rfl, h 2 _ rfl, h 3 _ rfl, h 4 _ rfl, h 5 _ rfl, h 6 _ rfl, h 7 _ rfl⟩
theorem RowS.butBlock {α : Type} {cells : α → List Value} {k : Nat} {w w' : World} {b : Nat} {A : Option Addr} {n c : Nat} {xs : List α} (h : RowS cells k w A n c xs) (hn : ∀ q o, A = some ⟨q, o, none⟩ → 0 < n → q ≠ b) (hb : But b w w') : RowS cells k w' A n c xs := by
  refine ⟨h.len, h.cap, h.big, fun h0 => ?_⟩
  obtain ⟨q, o, e, hq, hcell⟩ := h.at_ h0
  refine ⟨q, o, e, Nat.lt_of_lt_of_le hq hb.by_.size, fun i x hi j u hu => ?_⟩
  rw [World.cell?_of_block (w := w) (hb.block hq (hn q o e h0))]
  exact hcell i x hi j u hu

set_option maxRecDepth 100000 in
set_option maxHeartbeats 12800000 in
theorem all_any {x : Cx} {w : World} {L : Option Addr} {m lc N : Nat} {evs : List Ev} (h : CoordAt w x) (hl : RowS cellsE 8 w L m lc evs) (hi : Inv x.p) (hbd : Bd x.p N) (hN : N + m ≤ 100000) (hm : m ≤ 1000) (hnow : ∀ e ∈ evs, e.now ≤ 1152921504606846976) :
    Calls Tryz.prog 18 #[cxv x, .slice L m lc] w (Gone w m (allC x.p evs)) := by
  unfold Gone
  have HR := Lib.hid h
  have HL := Lib.hid hl
  have HLN := Lib.hid hl.len
  have HI := Lib.hid hi
  have HBD := Lib.hid hbd
  have HNW := Lib.hid hnow
  have HNN := Lib.hid hN
  have hn1 : x.n ≤ 1000000 := by have h1 := h.l.len; have h2 := hbd.len; omega
  have hn2 : x.m ≤ 1000000 := by have h1 := h.s.len; have h2 := hi.slen hbd; omega
  have hn3 : x.q ≤ 1000000 := by have h1 := h.f.len; have h2 := hbd.wlen; omega
  have HN := fun w (h : CoordAt w x) => Lib.hid (newDesk_any h hn1 hn2 hn3)
  have HA := fun g w => Lib.hid (acts_any g w)
  have L1 : Hid (Below w.heap.size w ((w.alloc (.cells #[.int .i64 x.p.t.last, .int .i64 x.p.t.now, .slice x.A x.n x.a, .slice x.S x.m x.s, .slice x.W x.q x.k, .int .i64 x.p.ttl, .int .i64 x.p.zones] 31)).alloc (.cells #[.int .i64 0, .int .i64 0, .slice none 0 0, .slice none 0 0, .slice none 0 0, .int .i64 0, .int .i64 0] 31))) := ((Below.refl w.heap.size w).alloc (Nat.le_refl _) _).alloc (by simp) _
  have B1 : Hid (CBox ((w.alloc (.cells #[.int .i64 x.p.t.last, .int .i64 x.p.t.now, .slice x.A x.n x.a, .slice x.S x.m x.s, .slice x.W x.q x.k, .int .i64 x.p.ttl, .int .i64 x.p.zones] 31)).alloc (.cells #[.int .i64 0, .int .i64 0, .slice none 0 0, .slice none 0 0, .slice none 0 0, .int .i64 0, .int .i64 0] 31)) w.heap.size x) := heap_alloc2_old w _ _
  have Z1 : Hid (Cells ((w.alloc (.cells #[.int .i64 x.p.t.last, .int .i64 x.p.t.now, .slice x.A x.n x.a, .slice x.S x.m x.s, .slice x.W x.q x.k, .int .i64 x.p.ttl, .int .i64 x.p.zones] 31)).alloc (.cells #[.int .i64 0, .int .i64 0, .slice none 0 0, .slice none 0 0, .slice none 0 0, .int .i64 0, .int .i64 0] 31)) (w.heap.size + 1) 31 #[.int .i64 0, .int .i64 0, .slice none 0 0, .slice none 0 0, .slice none 0 0, .int .i64 0, .int .i64 0]) := heap_alloc2_new w _ _
  obtain ⟨o, ho⟩ : ∃ o : Nat, o = 0 := ⟨0, rfl⟩
  have hmk : ∀ w : World, (Instr.makeSlice 61 (.int .i64 (m : Int)) (.int .i64 (m : Int))).run Tryz.prog w = .ok (.slice (some ⟨w.heap.size, o, none⟩) m m) (w.alloc (.cells (madeCells #[.int .i64 0, .int .i64 0, .slice none 0 0] (m * 3)) 39)) := by
    rw [ho]; exact fun w => run_make_ans w m hm
  have HMD := fun w : World => Lib.hid (show OwnA (w.alloc (.cells (madeCells #[.int .i64 0, .int .i64 0, .slice none 0 0] (m * 3)) 39)) w.heap.size o (List.replicate m zeroA) by rw [ho]; exact made_ans m)
  clear h hl ho hi hbd hnow hN hn1 hn2 hn3
  go_enter Tryz.func18, Tryz.ntmps18
  go_upto_region 1 with fail
  generalize (w.alloc (.cells #[.int .i64 x.p.t.last, .int .i64 x.p.t.now, .slice x.A x.n x.a, .slice x.S x.m x.s, .slice x.W x.q x.k, .int .i64 x.p.ttl, .int .i64 x.p.zones] 31)).alloc (.cells #[.int .i64 0, .int .i64 0, .slice none 0 0, .slice none 0 0, .slice none 0 0, .int .i64 0, .int .i64 0] 31) = w1 at *
  obtain ⟨m0, m1, m2, m3, m4, m5, m6⟩ := seven B1.out
  go_wp2_with fail
  refine (HN w1 (HR.out.below L1.out)).out.mono ?_
  rintro e w2 ⟨g, x1, rfl, hp, hd, hb⟩
  have D2 := Lib.hid hd
  have P2 := Lib.hid hp
  have L2 := Lib.hid (L1.out.trans (hb.mono L1.out.size))
  have Z2 := Lib.hid (Lea.Cells.below Z1.out hb)
  have GB : Hid (w.heap.size ≤ w1.heap.size) := L1.out.size
  clear hb hd hp m0 m1 m2 m3 m4 m5 m6 L1 B1 Z1 HN
  generalize w1.heap.size = base at *
  go_wp2_with fail
  refine (HA g w2).out.mono ?_
  rintro e w3 ⟨rfl, hac, hb⟩
  have D3 := Lib.hid (D2.out.below hb)
  have A3 := Lib.hid hac
  have L3 := Lib.hid (L2.out.trans (hb.mono L2.out.size))
  have Z3 := Lib.hid (Lea.Cells.below Z2.out hb)
  clear hb hac D2 L2 Z2 HA
  generalize w2.heap.size = r at *
  go_upto_region 4 with fail
  have b4 : Below w3.heap.size w3 (w3.alloc (.cells (madeCells #[.int .i64 0, .int .i64 0, .slice none 0 0] (m * 3)) 39)) := (Below.refl _ w3).alloc (Nat.le_refl _) _
  have V4 : Hid (w.heap.size ≤ w3.heap.size) := L3.out.size
  have I4 : Hid (AllI w x.p evs base g r w3.heap.size o m (w3.alloc (.cells (madeCells #[.int .i64 0, .int .i64 0, .slice none 0 0] (m * 3)) 39)) 0 x1 (List.replicate m zeroA)) :=
    ⟨P2.out, D3.out.below b4, A3.out.below b4, (HMD w3).out, by simp, fun y hy => (by rw [List.eq_of_mem_replicate hy]; exact ⟨RowS.nil _ _ _, fun k o e => (by cases e)⟩), L3.out.trans (b4.mono L3.out.size), Lea.Cells.below Z3.out b4, rfl⟩
  clear b4 D3 A3 L3 Z3 HMD hmk P2
  generalize w3.alloc (.cells (madeCells #[.int .i64 0, .int .i64 0, .slice none 0 0] (m * 3)) 39) = w4 at *
  generalize w3.heap.size = dq at *
  go_wp2_with fail
  go_loopw [20] (fun i wr => ∃ j : Nat, i = .int .i64 j ∧ j ≤ m ∧ Hid (∃ x1 es, AllI w x.p evs base g r dq o m wr j x1 es)) (fun i _ => m - (intOf i).toNat)
  case atStart => exact ⟨0, rfl, by omega, _, _, I4.out⟩
  case round =>
    obtain ⟨j, rfl, hj, hI⟩ := hrel
    obtain ⟨x2, es, hi1⟩ := hI.out
    have I5 := Lib.hid hi1
    clear hI hi1 I4
    by_cases hlt : j < m
    · obtain ⟨e, he⟩ := HL.out.get hlt
      obtain ⟨b, oo, rfl, c0, c1, c2, c3, c4, c5, c6, c7⟩ := ev_cells HL.out he I5.out.b
      have HE := Lib.hid he
      have hk0 : (0 : Int) ≤ (j : Int) := by omega
      have hk1 : (j : Int) < (m : Int) := by omega
      have b6 : Below wr.heap.size wr (wr.alloc (.cells #[.int .i64 e.d, .int .i64 e.host, .int .i64 e.zone, .int .i64 e.epoch, .int .i64 e.fr, .int .i64 e.to, .int .i64 e.now, .int .i64 e.key] 36)) := (Below.refl _ wr).alloc (Nat.le_refl _) _
      have I6 := Lib.hid (I5.out.to b6)
      have X6 : Hid (EBox (wr.alloc (.cells #[.int .i64 e.d, .int .i64 e.host, .int .i64 e.zone, .int .i64 e.epoch, .int .i64 e.fr, .int .i64 e.to, .int .i64 e.now, .int .i64 e.key] 36)) wr.heap.size e) := Cells.new wr _ _
      have HIJ : Hid (Inv x2.p) := by show Inv _; rw [I5.out.p]; exact all_inv _ HI.out
      have HBJ : Hid (Bd x2.p (N + j)) := by
        show Bd _ _
        rw [I5.out.p]
        have := all_bd (evs.take j) HI.out HBD.out (fun e he => HNW.out e (List.mem_of_mem_take he))
        rw [List.length_take, Nat.min_eq_left (by have := HLN.out; omega)] at this
        exact this
      clear he b6 I5
      go_upto_region 7 with fail
      clear c0 c1 c2 c3 c4 c5 c6 c7
      generalize wr.alloc (.cells #[.int .i64 e.d, .int .i64 e.host, .int .i64 e.zone, .int .i64 e.epoch, .int .i64 e.fr, .int .i64 e.to, .int .i64 e.now, .int .i64 e.key] 36) = w6 at *
      generalize wr.heap.size = gx at *
      have HD := Lib.hid (do_any (e := e) I6.out.d I6.out.a HIJ.out HBJ.out (by have := HNN.out; omega))
      unfold Acted at HD
      obtain ⟨y0, y1, y2, y3, y4, y5, y6, y7⟩ := EBox.cells X6.out
      obtain ⟨e0, he0⟩ : ∃ e0, es[j]? = some e0 := ⟨_, List.getElem?_eq_getElem (by have := I6.out.len; omega)⟩
      have HE0 := Lib.hid he0
      clear he0
      go_wp2_with fail
      refine HD.out.mono ?_
      rintro e' w7 ⟨x3, B, n, d, rfl, hx, hd, hr, hB, hm7⟩
      have hcs := I6.out.o
      obtain ⟨cs, hcs1, hcs2⟩ := hcs
      have hq7 : w7.heap[dq]? = w6.heap[dq]? := (hm7.keep dq (Lea.Cells.lt hcs1) ⟨cells_ne hcs1 I6.out.d.box (by decide), own_ne I6.out.d.l.1 hcs1 (by decide), own_ne I6.out.d.f.1 hcs1 (by decide)⟩).1
      have E7 := Lib.hid (OwnA.heap (I6.out.o) hq7)
      obtain ⟨a, ha⟩ : ∃ a, a = doC x2.p e := ⟨_, rfl⟩
      rw [← ha] at hx hr ⊢
      have I7 := Lib.hid (I6.out.next HE.out hlt GB.out V4.out ha hx hd hr hB hm7)
      clear hx hd hr hB hm7 hcs1 hcs2 hq7 y0 y1 y2 y3 y4 y5 y6 y7 HD I6 X6 HIJ HBJ ha
      have z0 : w7.cell? ⟨dq, o + j * 3, none⟩ = some (.int .i64 e0.p.e) := E7.out.cell HE0.out (j := 0) rfl
      have z1 := E7.out.cell HE0.out (j := 1) rfl
      have z2 := E7.out.cell HE0.out (j := 2) rfl
      have f0 := E7.out.frozen (o + j * 3)
      have f1 := E7.out.frozen (o + j * 3 + 1)
      have f2 := E7.out.frozen (o + j * 3 + 2)
      clear E7
      go_wp2_with fail
      go_roundw
      case rel => exact ⟨j + 1, by go_num, by omega, _, _, I7.out⟩
      case measure => simp [intOf]; omega
    · obtain rfl : m = j := by omega
      obtain ⟨d0, d1, d2, d3, d4, d5, d6⟩ := seven I5.out.d.box
      have hz := I5.out.z
      have v0 : wr.cell? ⟨w.heap.size + 1, 0, none⟩ = some (.int .i64 0) := Lea.Cells.cell hz 0
      have v1 : wr.cell? ⟨w.heap.size + 1, 1, none⟩ = some (.int .i64 0) := Lea.Cells.cell hz 1
      have v2 : wr.cell? ⟨w.heap.size + 1, 2, none⟩ = some (.slice none 0 0) := Lea.Cells.cell hz 2
      have v3 : wr.cell? ⟨w.heap.size + 1, 3, none⟩ = some (.slice none 0 0) := Lea.Cells.cell hz 3
      have v4 : wr.cell? ⟨w.heap.size + 1, 4, none⟩ = some (.slice none 0 0) := Lea.Cells.cell hz 4
      have v5 : wr.cell? ⟨w.heap.size + 1, 5, none⟩ = some (.int .i64 0) := Lea.Cells.cell hz 5
      have v6 : wr.cell? ⟨w.heap.size + 1, 6, none⟩ = some (.int .i64 0) := Lea.Cells.cell hz 6
      obtain ⟨f0, f1, f2, f3, f4, f5, f6⟩ := seven_frozen hz
      have HZ := Lib.hid hz
      clear hz
      go_wp2_with fail
      have hst := cells_set7 HZ.out (.int .i64 x2.p.t.last) (.int .i64 x2.p.t.now) (.slice x2.A x2.n x2.a) (.slice x2.S x2.m x2.s) (.slice x2.W x2.q x2.k) (.int .i64 x2.p.ttl) (.int .i64 x2.p.zones)
      have bt := but_set7 wr (w.heap.size + 1) (.int .i64 x2.p.t.last) (.int .i64 x2.p.t.now) (.slice x2.A x2.n x2.a) (.slice x2.S x2.m x2.s) (.slice x2.W x2.q x2.k) (.int .i64 x2.p.ttl) (.int .i64 x2.p.zones)
      refine bodyPost_ret_by (Lea.results_c1 rfl _ _ (w.heap.size + 1) _ _ _ _ rfl hst Tryz.underlying31 rfl (by kernel_rfl)) rfl ?_
      have D9 := I5.out.d.but HZ.out bt (by decide) (by decide) (by decide) (by decide)
      have hfull : evs.take m = evs := List.take_of_length_le (by have := HLN.out; omega)
      have hfe : es.take m = es := List.take_of_length_le (by have := I5.out.len; omega)
      have hp := I5.out.p
      have hans := I5.out.ans
      rw [hfull] at hp hans
      rw [hfe] at hans
      have hij : Inv x2.p := by rw [hp]; exact all_inv _ HI.out
      have hbj : Bd x2.p (N + m) := by
        rw [hp]
        have := all_bd evs HI.out HBD.out HNW.out
        rw [HLN.out] at this
        exact this
      have hqz : dq ≠ w.heap.size + 1 := by
        obtain ⟨cs, hcs1, -⟩ := I5.out.o
        exact cells_ne hcs1 HZ.out (by decide)
      refine ⟨x2, _, es, rfl, hp, ⟨Lea.OwnsL.row D9.l ?_, Spa.OwnsL.row D9.s ?_, OwnsF.row D9.f ?_⟩, RowS.butBlock (I5.out.o.row I5.out.len (Nat.le_refl _) hm) (fun q2 o2 e _ => by injection e with e; injection e with e1; omega) bt, fun y hy => ⟨RowS.keepBut (I5.out.td y hy).1 (fun k o e h0 => ((I5.out.td y hy).2 k o e h0).2.2.1) bt, fun k o e h0 => ((I5.out.td y hy).2 k o e h0).2.2.2⟩, hans, I5.out.b.trans (bt.below I5.out.b.size (by omega)), ⟨fun k o e => Nat.le_trans GB.out (Lea.OwnsL.lt D9.l k (by rw [e]; rfl)).1, fun k o e => Nat.le_trans GB.out (Spa.OwnsL.lt D9.s k (by rw [e]; rfl)).1, fun k o e => Nat.le_trans GB.out (OwnsF.lt D9.f k (by rw [e]; rfl)).1⟩, fun k o e => by injection e with e; injection e with e1; have := V4.out; omega⟩
      · have h1 := D9.l.2; have h2 := hbj.len; have := HNN.out; omega
      · have h1 := D9.s.2; have h2 := hij.slen hbj; omega
      · have h1 := D9.f.2; have h2 := hbj.wlen; have := HNN.out; omega
end Coo
end Go.Proofs.YtmflngclncidjaaGreat
/-
  REMAINDERS THAT ARE BROUGHT ABOVE 0: (x % n + n) % n. (No program is named here.)
-/
namespace Go.Proofs.YtmflngclncidjaaGreat
namespace Cut
theorem tmod_bounds (cut : Int) (n : Nat) (hn : 0 < n) : -(n : Int) < Int.tmod cut n ∧ Int.tmod cut n < (n : Int) := by
  rcases Int.le_total 0 cut with h | h
  · rw [Int.tmod_eq_emod_of_nonneg h]
    have h1 := Int.emod_nonneg cut (b := (n : Int)) (by omega)
    have h2 := Int.emod_lt_of_pos cut (b := (n : Int)) (by omega)
    omega
  · have e : cut = -(-cut) := by omega
    rw [e, Int.neg_tmod, Int.tmod_eq_emod_of_nonneg (by omega)]
    have h1 := Int.emod_nonneg (-cut) (b := (n : Int)) (by omega)
    have h2 := Int.emod_lt_of_pos (-cut) (b := (n : Int)) (by omega)
    omega
theorem cut_at (cut : Int) (n : Nat) (hn : 0 < n) : ∃ (r : Int) (j : Nat), Int.tmod cut n = r ∧ -(n : Int) < r ∧ r < (n : Int) ∧ Int.tmod (r + n) n = j ∧ (r + n) % (n : Int) = j ∧ j < n := by
  obtain ⟨h1, h2⟩ := tmod_bounds cut n hn
  have h3 := Int.emod_nonneg (Int.tmod cut n + n) (b := (n : Int)) (by omega)
  have h4 := Int.emod_lt_of_pos (Int.tmod cut n + n) (b := (n : Int)) (by omega)
  refine ⟨_, ((Int.tmod cut n + n) % (n : Int)).toNat, rfl, h1, h2, ?_, by omega, by omega⟩
  rw [Int.tmod_eq_emod_of_nonneg (by omega)]
  omega
end Cut
end Go.Proofs.YtmflngclncidjaaGreat
/-
  WALKS: New, and the beginning of the laws. (Written by gen_cooeq.py.)
-/
namespace Go.Proofs.YtmflngclncidjaaGreat
open Go.RowKit Mem
namespace Coo
open Lea (Cells But OneBox Lv Tv)
open Spa (Sp)

theorem CoordAt.butBox {w w' : World} {x : Cx} {p : Nat} (h : CoordAt w x) (hb : But p w w') (h1 : ∀ k o, x.A = some ⟨k, o, none⟩ → k ≠ p) (h2 : ∀ k o, x.S = some ⟨k, o, none⟩ → k ≠ p) (h3 : ∀ k o, x.W = some ⟨k, o, none⟩ → k ≠ p) : CoordAt w' x :=
  ⟨RowS.butBlock h.l (fun q o e _ => h1 q o e) hb, RowS.butBlock h.s (fun q o e _ => h2 q o e) hb, RowS.butBlock h.f (fun q o e _ => h3 q o e) hb⟩

set_option maxRecDepth 100000 in
set_option maxHeartbeats 3200000 in
theorem new_any {zones blocks ttl : Int} (w : World) (hz : 1 ≤ zones ∧ zones ≤ 64) (hb : 1 ≤ blocks ∧ blocks ≤ 1099511627776) (ht : 1 ≤ ttl ∧ ttl ≤ 1073741824) :
    Calls Tryz.prog 20 #[.int .i64 zones, .int .i64 blocks, .int .i64 ttl] w fun e w' => ∃ x', e = .returned (.tuple #[cxv x', .int .i64 0]) ∧ x'.p = newC zones blocks ttl ∧ CoordAt w' x' ∧ Below w.heap.size w w' ∧ Fresh w x' := by
  have hnp : Spa.newP blocks = ([⟨0, blocks, -1, 0⟩], 0) := by
    unfold Spa.newP Spa.newB
    rw [decide_eq_true hb.1, decide_eq_true hb.2]; rfl
  have HN := fun w => Lib.hid (Spa.new_any blocks w)
  unfold Spa.GaveS at HN
  rw [hnp] at HN
  have L1 : Hid (Below w.heap.size w (w.alloc (.cells #[.int .i64 0, .int .i64 0, .slice none 0 0, .slice none 0 0, .slice none 0 0, .int .i64 0, .int .i64 0] 31))) := (Below.refl w.heap.size w).alloc (Nat.le_refl _) _
  have Z1 : Hid (Cells (w.alloc (.cells #[.int .i64 0, .int .i64 0, .slice none 0 0, .slice none 0 0, .slice none 0 0, .int .i64 0, .int .i64 0] 31)) w.heap.size 31 #[.int .i64 0, .int .i64 0, .slice none 0 0, .slice none 0 0, .slice none 0 0, .int .i64 0, .int .i64 0]) := Cells.new w _ _
  have h1 : decide (zones < 1) = false := decide_eq_false (by omega)
  have h2 : decide ((64 : Int) < zones) = false := decide_eq_false (by omega)
  have h3 : decide (ttl < 1) = false := decide_eq_false (by omega)
  have h4 : decide ((1073741824 : Int) < ttl) = false := decide_eq_false (by omega)
  clear hz hb ht hnp
  go_enter Tryz.func20, Tryz.ntmps20
  go_upto_region 1 with fail
  generalize w.alloc (.cells #[.int .i64 0, .int .i64 0, .slice none 0 0, .slice none 0 0, .slice none 0 0, .int .i64 0, .int .i64 0] 31) = w1 at *
  go_wp2_with fail
  refine (HN w1).out.mono ?_
  rintro e w2 ⟨B, d, rfl, hO, hb⟩
  have L2 := Lib.hid (L1.out.trans (hb.mono L1.out.size))
  have Z2 := Lib.hid (Lea.Cells.below Z1.out hb)
  have S2 := Lib.hid (hO.mono L1.out.size)
  have S2' := Lib.hid hO
  have G1 : Hid (w.heap.size < w1.heap.size) := Lea.Cells.lt Z1.out
  clear hb hO Z1 L1 HN
  have v0 : w2.cell? ⟨w.heap.size, 0, none⟩ = some (.int .i64 0) := Lea.Cells.cell Z2.out 0
  have v1 : w2.cell? ⟨w.heap.size, 1, none⟩ = some (.int .i64 0) := Lea.Cells.cell Z2.out 1
  have v2 : w2.cell? ⟨w.heap.size, 2, none⟩ = some (.slice none 0 0) := Lea.Cells.cell Z2.out 2
  have v3 : w2.cell? ⟨w.heap.size, 3, none⟩ = some (.slice none 0 0) := Lea.Cells.cell Z2.out 3
  have v4 : w2.cell? ⟨w.heap.size, 4, none⟩ = some (.slice none 0 0) := Lea.Cells.cell Z2.out 4
  have v5 : w2.cell? ⟨w.heap.size, 5, none⟩ = some (.int .i64 0) := Lea.Cells.cell Z2.out 5
  have v6 : w2.cell? ⟨w.heap.size, 6, none⟩ = some (.int .i64 0) := Lea.Cells.cell Z2.out 6
  obtain ⟨f0, f1, f2, f3, f4, f5, f6⟩ := seven_frozen Z2.out
  go_wp2_with fail
  have hst := cells_set7 Z2.out (.int .i64 0) (.int .i64 0) (.slice none 0 0) (.slice B 1 d) (.slice none 0 0) (.int .i64 ttl) (.int .i64 zones)
  have bt := but_set7 w2 w.heap.size (.int .i64 0) (.int .i64 0) (.slice none 0 0) (.slice B 1 d) (.slice none 0 0) (.int .i64 ttl) (.int .i64 zones)
  refine bodyPost_ret_by (Lea.results_c1 rfl _ _ w.heap.size _ _ _ _ rfl hst Tryz.underlying31 rfl (by kernel_rfl)) rfl ?_
  exact ⟨⟨newC zones blocks ttl, none, 0, 0, B, 1, d, none, 0, 0⟩, rfl, rfl, ⟨RowS.nil _ _ _, Spa.OwnsL.row (Spa.OwnsL.but S2'.out ⟨bt.by_⟩ G1.out) (by show (1 : Nat) ≤ _; omega), RowS.nil _ _ _⟩, L2.out.trans (bt.below L2.out.size (Nat.le_refl _)), ⟨fun k o e => (by cases e), fun k o e => Nat.le_trans (Nat.le_of_lt G1.out) (Spa.OwnsL.lt S2'.out k (by rw [show B = some ⟨k, o, none⟩ from e]; rfl)).1, fun k o e => (by cases e)⟩⟩

set_option maxRecDepth 100000 in
set_option maxHeartbeats 3200000 in
theorem begin_any (zones ttl : Int) (w : World) :
    Calls Tryz.prog 9 #[.int .i64 zones, .int .i64 ttl] w fun e w' => ∃ x' z t, e = .returned (.tuple #[cxv x', .bool true]) ∧ (1 ≤ z ∧ z ≤ 8) ∧ (1 ≤ t ∧ t ≤ 50) ∧ x'.p = newC z 60 t ∧ CoordAt w' x' ∧ Below w.heap.size w w' ∧ Fresh w x' := by
  obtain ⟨r1, j1, a1, a2, a3, a4, a5, a6⟩ : ∃ (r : Int) (j : Nat), Int.tmod zones 8 = r ∧ -8 < r ∧ r < 8 ∧ Int.tmod (r + 8) 8 = j ∧ (r + 8) % 8 = j ∧ j < 8 := Cut.cut_at zones 8 (by omega)
  obtain ⟨r2, j2, b1, b2, b3, b4, b5, b6⟩ : ∃ (r : Int) (j : Nat), Int.tmod ttl 50 = r ∧ -50 < r ∧ r < 50 ∧ Int.tmod (r + 50) 50 = j ∧ (r + 50) % 50 = j ∧ j < 50 := Cut.cut_at ttl 50 (by omega)
  obtain ⟨z, hz⟩ : ∃ z : Int, z = 1 + (j1 : Int) := ⟨_, rfl⟩
  obtain ⟨t, ht⟩ : ∃ t : Int, t = 1 + (j2 : Int) := ⟨_, rfl⟩
  have hw1 : IntKind.i64.wrap (r1 + 8) = r1 + 8 := by rw [IntKind.wrap_i64]; omega
  have hw2 : IntKind.i64.wrap (r2 + 50) = r2 + 50 := by rw [IntKind.wrap_i64]; omega
  have hw3 : IntKind.i64.wrap (1 + (j1 : Int)) = z := by rw [IntKind.wrap_i64]; omega
  have hw4 : IntKind.i64.wrap (1 + (j2 : Int)) = t := by rw [IntKind.wrap_i64]; omega
  have HZ : Hid (1 ≤ z ∧ z ≤ 8) := ⟨by omega, by omega⟩
  have HT : Hid (1 ≤ t ∧ t ≤ 50) := ⟨by omega, by omega⟩
  have HN := fun w => Lib.hid (new_any (zones := z) (blocks := 60) (ttl := t) w ⟨HZ.out.1, by have := HZ.out; omega⟩ ⟨by omega, by omega⟩ ⟨HT.out.1, by have := HT.out; omega⟩)
  have L1 : Hid (Below w.heap.size w (w.alloc (.cells #[.int .i64 0, .int .i64 0, .slice none 0 0, .slice none 0 0, .slice none 0 0, .int .i64 0, .int .i64 0] 31))) := (Below.refl w.heap.size w).alloc (Nat.le_refl _) _
  have Z1 : Hid (Cells (w.alloc (.cells #[.int .i64 0, .int .i64 0, .slice none 0 0, .slice none 0 0, .slice none 0 0, .int .i64 0, .int .i64 0] 31)) w.heap.size 31 #[.int .i64 0, .int .i64 0, .slice none 0 0, .slice none 0 0, .slice none 0 0, .int .i64 0, .int .i64 0]) := Cells.new w _ _
  clear hz ht
  go_enter Tryz.func9, Tryz.ntmps9
  go_upto_region 1 with fail
  generalize w.alloc (.cells #[.int .i64 0, .int .i64 0, .slice none 0 0, .slice none 0 0, .slice none 0 0, .int .i64 0, .int .i64 0] 31) = w1 at *
  go_wp2_with fail
  refine (HN w1).out.mono ?_
  rintro e w2 ⟨x', rfl, hp, hat, hb, hfr⟩
  have FR := Lib.hid hfr
  have G1 : Hid (w.heap.size < w1.heap.size) := Lea.Cells.lt Z1.out
  have L2 := Lib.hid (L1.out.trans (hb.mono L1.out.size))
  have Z2 := Lib.hid (Lea.Cells.below Z1.out hb)
  have A2 := Lib.hid hat
  have P2 := Lib.hid hp
  have b3 : Below w2.heap.size w2 (w2.alloc (.cells #[.int .i64 x'.p.t.last, .int .i64 x'.p.t.now, .slice x'.A x'.n x'.a, .slice x'.S x'.m x'.s, .slice x'.W x'.q x'.k, .int .i64 x'.p.ttl, .int .i64 x'.p.zones] 31)) := (Below.refl _ w2).alloc (Nat.le_refl _) _
  have C3 : Hid (CBox (w2.alloc (.cells #[.int .i64 x'.p.t.last, .int .i64 x'.p.t.now, .slice x'.A x'.n x'.a, .slice x'.S x'.m x'.s, .slice x'.W x'.q x'.k, .int .i64 x'.p.ttl, .int .i64 x'.p.zones] 31)) w2.heap.size x') := Cells.new w2 _ _
  have L3 := Lib.hid (L2.out.trans (b3.mono L2.out.size))
  have Z3 := Lib.hid (Lea.Cells.below Z2.out b3)
  have A3 := Lib.hid (A2.out.below b3)
  have G2 : Hid (w.heap.size < w2.heap.size) := Lea.Cells.lt Z2.out
  clear hb hp hat hfr b3 Z2 L2 A2 Z1 L1 HN
  go_upto_region 2 with fail
  generalize w2.alloc (.cells #[.int .i64 x'.p.t.last, .int .i64 x'.p.t.now, .slice x'.A x'.n x'.a, .slice x'.S x'.m x'.s, .slice x'.W x'.q x'.k, .int .i64 x'.p.ttl, .int .i64 x'.p.zones] 31) = w3 at *
  generalize w2.heap.size = pC at *
  obtain ⟨m0, m1, m2, m3, m4, m5, m6⟩ := seven C3.out
  have v0 : w3.cell? ⟨w.heap.size, 0, none⟩ = some (.int .i64 0) := Lea.Cells.cell Z3.out 0
  have v1 : w3.cell? ⟨w.heap.size, 1, none⟩ = some (.int .i64 0) := Lea.Cells.cell Z3.out 1
  have v2 : w3.cell? ⟨w.heap.size, 2, none⟩ = some (.slice none 0 0) := Lea.Cells.cell Z3.out 2
  have v3 : w3.cell? ⟨w.heap.size, 3, none⟩ = some (.slice none 0 0) := Lea.Cells.cell Z3.out 3
  have v4 : w3.cell? ⟨w.heap.size, 4, none⟩ = some (.slice none 0 0) := Lea.Cells.cell Z3.out 4
  have v5 : w3.cell? ⟨w.heap.size, 5, none⟩ = some (.int .i64 0) := Lea.Cells.cell Z3.out 5
  have v6 : w3.cell? ⟨w.heap.size, 6, none⟩ = some (.int .i64 0) := Lea.Cells.cell Z3.out 6
  obtain ⟨f0, f1, f2, f3, f4, f5, f6⟩ := seven_frozen Z3.out
  go_wp2_with fail
  have hst := cells_set7 Z3.out (.int .i64 x'.p.t.last) (.int .i64 x'.p.t.now) (.slice x'.A x'.n x'.a) (.slice x'.S x'.m x'.s) (.slice x'.W x'.q x'.k) (.int .i64 x'.p.ttl) (.int .i64 x'.p.zones)
  have bt := but_set7 w3 w.heap.size (.int .i64 x'.p.t.last) (.int .i64 x'.p.t.now) (.slice x'.A x'.n x'.a) (.slice x'.S x'.m x'.s) (.slice x'.W x'.q x'.k) (.int .i64 x'.p.ttl) (.int .i64 x'.p.zones)
  refine bodyPost_ret_by (Lea.results_c1 rfl _ _ w.heap.size _ _ _ _ rfl hst Tryz.underlying31 rfl (by kernel_rfl)) rfl ?_
  have hq : ∀ k, w1.heap.size ≤ k → k ≠ w.heap.size := fun k hk => by have := G1.out; omega
  exact ⟨x', z, t, rfl, HZ.out, HT.out, P2.out, A3.out.butBox bt (fun k o e => hq k (FR.out.l k o e)) (fun k o e => hq k (FR.out.s k o e)) (fun k o e => hq k (FR.out.f k o e)), L3.out.trans (bt.below L3.out.size (Nat.le_refl _)), ⟨fun k o e => Nat.le_trans (Nat.le_of_lt G1.out) (FR.out.l k o e), fun k o e => Nat.le_trans (Nat.le_of_lt G1.out) (FR.out.s k o e), fun k o e => Nat.le_trans (Nat.le_of_lt G1.out) (FR.out.f k o e)⟩⟩

/-! ### few -/
def fewE (l : List Ev) : Bool := l.all (fun e => decide (e.now ≤ 1152921504606846976)) && decide (l.length ≤ 100)
theorem fewE_iff {l : List Ev} : fewE l = true ↔ (∀ e ∈ l, e.now ≤ 1152921504606846976) ∧ l.length ≤ 100 := by
  unfold fewE; simp only [Bool.and_eq_true, List.all_eq_true, decide_eq_true_eq]

set_option maxRecDepth 100000 in
set_option maxHeartbeats 3200000 in
theorem few_any {L : Option Addr} {m lc : Nat} {l : List Ev} {w : World} (hl : RowS cellsE 8 w L m lc l) :
    Calls Tryz.prog 8 #[.slice L m lc] w fun e w' => e = .returned (.bool (fewE l)) ∧ Below w.heap.size w w' := by
  have HL := Lib.hid hl
  have hbig := hl.big
  have HLN := Lib.hid hl.len
  clear hl
  go_enter Tryz.func8, Tryz.ntmps8
  go_wp2
  go_loopw [7] (fun i wr => ∃ j : Nat, i = .int .i64 j ∧ j ≤ m ∧ Hid (Below w.heap.size w wr ∧ ∀ k e, k < j → l[k]? = some e → e.now ≤ 1152921504606846976)) (fun i _ => m - (intOf i).toNat)
  case atStart => exact ⟨0, rfl, by omega, Below.refl _ _, fun k e hk => by omega⟩
  case round =>
    obtain ⟨j, rfl, hj, hH⟩ := hrel
    by_cases hlt : j < m
    · obtain ⟨e, he⟩ := HL.out.get hlt
      obtain ⟨b, o, rfl, c0, c1, c2, c3, c4, c5, c6, c7⟩ := ev_cells HL.out he hH.out.1
      have HE := Lib.hid he
      have hk0 : (0 : Int) ≤ (j : Int) := by omega
      have hk1 : (j : Int) < (m : Int) := by omega
      have b6 : Below wr.heap.size wr (wr.alloc (.cells #[.int .i64 e.d, .int .i64 e.host, .int .i64 e.zone, .int .i64 e.epoch, .int .i64 e.fr, .int .i64 e.to, .int .i64 e.now, .int .i64 e.key] 36)) := (Below.refl _ wr).alloc (Nat.le_refl _) _
      have L6 := Lib.hid (hH.out.1.trans (b6.mono hH.out.1.size))
      have X6 : Hid (EBox (wr.alloc (.cells #[.int .i64 e.d, .int .i64 e.host, .int .i64 e.zone, .int .i64 e.epoch, .int .i64 e.fr, .int .i64 e.to, .int .i64 e.now, .int .i64 e.key] 36)) wr.heap.size e) := Cells.new wr _ _
      clear he b6
      go_upto_region 4 with fail
      clear c0 c1 c2 c3 c4 c5 c6 c7
      generalize wr.alloc (.cells #[.int .i64 e.d, .int .i64 e.host, .int .i64 e.zone, .int .i64 e.epoch, .int .i64 e.fr, .int .i64 e.to, .int .i64 e.now, .int .i64 e.key] 36) = w6 at *
      generalize wr.heap.size = gx at *
      obtain ⟨y0, y1, y2, y3, y4, y5, y6, y7⟩ := EBox.cells X6.out
      rcases e1 : decide ((1152921504606846976 : Int) < e.now)
      · have HN : Hid (e.now ≤ 1152921504606846976) := by have := of_decide_eq_false e1; show _ ≤ _; omega
        go_wp2_with fail
        go_roundw
        case rel =>
          refine ⟨j + 1, by go_num, by omega, L6.out, fun k e' hk he' => ?_⟩
          by_cases h1 : k = j
          · subst h1
            have := HE.out.symm.trans he'
            injection this with this
            rw [← this]; exact HN.out
          · exact hH.out.2 k e' (by omega) he'
        case measure => simp [intOf]; omega
      · have HF : Hid (fewE l = false) := by
          show _ = _
          rcases e2 : fewE l
          · rfl
          · have := (fewE_iff.1 e2).1 e (List.mem_of_getElem? HE.out)
            have := of_decide_eq_true e1
            omega
        go_wp2_with fail
        go_ret
        exact ⟨by rw [HF.out]; rfl, L6.out⟩
    · obtain rfl : m = j := by omega
      have HF : Hid (fewE l = decide ((m : Int) ≤ 100)) := by
        show _ = _
        have hall : l.all (fun e => decide (e.now ≤ 1152921504606846976)) = true := List.all_eq_true.2 fun e he => by
          obtain ⟨i, hi⟩ := List.mem_iff_getElem?.1 he
          exact decide_eq_true (hH.out.2 i e (by have := (List.getElem?_eq_some_iff.1 hi).1; have := HLN.out; omega) hi)
        unfold fewE
        rw [hall, HLN.out, Bool.true_and]
        exact decide_eq_decide.2 (by omega)
      rcases e1 : decide ((m : Int) ≤ 100)
      all_goals
        go_wp2_with fail
        go_ret
        exact ⟨by rw [HF.out, e1]; rfl, hH.out.1⟩
end Coo
end Go.Proofs.YtmflngclncidjaaGreat
