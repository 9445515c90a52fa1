/-
  SEVERAL TEXTS IN ONE FILE: CooReplays.
-/
import Derived.Test.YtmflngclncidjaaGreatJRp03
import Derived.Test.YtmflngclncidjaaGreatJ25
/-
  THE STATEMENT CoordReplays. For every input. (Written by gen_coolaws.py.)
-/
namespace Go.Proofs.YtmflngclncidjaaGreat
open Go.RowKit Mem
namespace Coo
open Lea (Cells But OneBox Lv Tv)
open Spa (Sp)
open Wire (B8 ints)
theorem owns_at {base : Nat} {w : World} {A : Option Addr} {n c : Nat} {l : List B8} (h : Owns cb 5 base w (.slice A n c) n l) {k o : Nat} (_h0 : 0 < n) (e : A = some ⟨k, o, none⟩) : base ≤ k := by
  subst e
  rcases h.2 with ⟨q, -⟩ | ⟨g, cap, cur, q, hb, -⟩
  · cases q
  · injection q with q
    injection q with q
    injection q with q
    omega
theorem last_all {c : Cv} {ws : List Ev} {ys : List Cx} {X : Cx} (h : Hist c ws ys) (hl : ys[ws.length]? = some X) : X.p = (allC c ws).1 := by
  have := h.2 _ _ hl
  rwa [List.take_length] at this
theorem lim {w : World} {X : Cx} (h : CoordAt w X) (hi : Inv X.p) (hb : Bd X.p 100) : X.n ≤ 1000000 ∧ X.m ≤ 1000000 ∧ X.q ≤ 1000000 :=
  ⟨by have h1 := h.l.len; have h2 := hb.len; omega, by have h1 := h.s.len; have h2 := hi.slen hb; omega, by have h1 := h.f.len; have h2 := hb.wlen; omega⟩
theorem ws_inv {c : Cv} (hi : Inv c) (ws : List Ev) : Inv (allC c ws).1 := all_inv ws hi
theorem ws_bd {c : Cv} (hi : Inv c) (hb : Bd c 0) {ws : List Ev} (hn : ∀ e ∈ ws, e.now ≤ 1152921504606846976) {N : Nat} (hN : ws.length ≤ N) : Bd (allC c ws).1 N := (all_bd ws hi hb hn).mono (by omega)

set_option maxRecDepth 100000 in
set_option maxHeartbeats 102400000 in
theorem coordReplays_walk {L : Option Addr} {m lc : Nat} {l : List Ev} {w : World} (zones ttl cut : Int) (hl : RowS cellsE 8 w L m lc l) (hints : ∀ e ∈ l, Ints e) :
    Calls Tryz.prog 4 #[.int .i64 zones, .int .i64 ttl, .slice L m lc, .int .i64 cut] w fun e w' => e = .returned (.bool true) ∧ Below w.heap.size w w' := by
  have HINT := Lib.hid hints
  clear hints
  have HF := fun W (h : Below w.heap.size w W) => Lib.hid (few_any (hl.below h))
  have HL := Lib.hid hl
  have HLN := Lib.hid hl.len
  have HBG := fun W => Lib.hid (begin_any zones ttl W)
  clear hl
  go_enter Tryz.func4, Tryz.ntmps4
  go_wp2_with fail
  refine (live_any w).mono ?_
  rintro e w1 ⟨rfl, hb⟩
  have L1 := Lib.hid hb
  clear hb
  have hF := HF w1 L1.out
  clear HF
  rcases hf : fewE l
  · rw [hf] at hF
    go_wp2_with fail
    refine hF.out.mono ?_
    rintro e w2 ⟨rfl, hb⟩
    have L2 := Lib.hid (L1.out.trans (hb.mono L1.out.size))
    clear hb
    go_wp2_with fail
    go_ret
    exact ⟨rfl, L2.out⟩
  rw [hf] at hF
  have FEW := Lib.hid (fewE_iff.1 hf)
  clear hf
  go_wp2_with fail
  refine hF.out.mono ?_
  rintro e w2 ⟨rfl, hb⟩
  have L2 := Lib.hid (L1.out.trans (hb.mono L1.out.size))
  clear hb L1 hF
  go_wp2_with fail
  refine (HBG w2).out.mono ?_
  rintro e w3 ⟨x, z, t, rfl, hz, ht, hp, hat, hb, -⟩
  have bb : Below w3.heap.size w3 (w3.alloc (.cells #[.int .i64 x.p.t.last, .int .i64 x.p.t.now, .slice x.A x.n x.a, .slice x.S x.m x.s, .slice x.W x.q x.k, .int .i64 x.p.ttl, .int .i64 x.p.zones] 31)) := (Below.refl _ w3).alloc (Nat.le_refl _) _
  have L4 : Hid (Below w.heap.size w (w3.alloc (.cells #[.int .i64 x.p.t.last, .int .i64 x.p.t.now, .slice x.A x.n x.a, .slice x.S x.m x.s, .slice x.W x.q x.k, .int .i64 x.p.ttl, .int .i64 x.p.zones] 31))) := (L2.out.trans (hb.mono L2.out.size)).trans (bb.mono (L2.out.trans (hb.mono L2.out.size)).size)
  have G4 : Hid (w.heap.size ≤ w3.heap.size) := (L2.out.trans (hb.mono L2.out.size)).size
  have C4 : Hid (CBox (w3.alloc (.cells #[.int .i64 x.p.t.last, .int .i64 x.p.t.now, .slice x.A x.n x.a, .slice x.S x.m x.s, .slice x.W x.q x.k, .int .i64 x.p.ttl, .int .i64 x.p.zones] 31)) w3.heap.size x) := Cells.new w3 _ _
  have A4 := Lib.hid (hat.below bb)
  have I4 : Hid (Inv x.p) := by rw [hp]; exact new_inv (by omega) (by omega) (by omega)
  have B4 : Hid (Bd x.p 0) := by rw [hp]; exact new_bd (by omega)
  have HXB : Hid (∀ k, Bl x k → k < w3.heap.size) := fun k hk => hat.lt hk
  clear bb hb hat hp hz ht HBG L2
  go_upto_region 5 with fail
  generalize w3.alloc (.cells #[.int .i64 x.p.t.last, .int .i64 x.p.t.now, .slice x.A x.n x.a, .slice x.S x.m x.s, .slice x.W x.q x.k, .int .i64 x.p.ttl, .int .i64 x.p.zones] 31) = w4 at *
  generalize w3.heap.size = gf at *
  have FC4 := C4
  obtain ⟨m0, m1, m2, m3, m4, m5, m6⟩ := seven FC4.out
  have b5 : Below w4.heap.size w4 (w4.alloc (.cells #[.int .i64 x.p.t.last, .int .i64 x.p.t.now, .slice x.A x.n x.a, .slice x.S x.m x.s, .slice x.W x.q x.k, .int .i64 x.p.ttl, .int .i64 x.p.zones] 31)) := (Below.refl _ w4).alloc (Nat.le_refl _) _
  have L5 := Lib.hid (L4.out.trans (b5.mono L4.out.size))
  have F5 := Lib.hid (Lea.Cells.below FC4.out b5)
  have A5 := Lib.hid (A4.out.below b5)
  have C5 : Hid (CBox (w4.alloc (.cells #[.int .i64 x.p.t.last, .int .i64 x.p.t.now, .slice x.A x.n x.a, .slice x.S x.m x.s, .slice x.W x.q x.k, .int .i64 x.p.ttl, .int .i64 x.p.zones] 31)) w4.heap.size x) := Cells.new w4 _ _
  have GF : Hid (gf < w4.heap.size) := Lea.Cells.lt FC4.out
  clear b5
  go_upto_region 8 with fail
  generalize w4.alloc (.cells #[.int .i64 x.p.t.last, .int .i64 x.p.t.now, .slice x.A x.n x.a, .slice x.S x.m x.s, .slice x.W x.q x.k, .int .i64 x.p.ttl, .int .i64 x.p.zones] 31) = w5 at *
  have GCW : Hid (w.heap.size ≤ w4.heap.size) := L4.out.size
  generalize w4.heap.size = gc at *
  have b6 : Below w5.heap.size w5 (w5.alloc (.cells #[.int .i64 0] 3)) := (Below.refl _ w5).alloc (Nat.le_refl _) _
  have L6 := Lib.hid (L5.out.trans (b6.mono L5.out.size))
  have F6 := Lib.hid (Lea.Cells.below F5.out b6)
  have A6 := Lib.hid (A5.out.below b6)
  have C6 := Lib.hid (Lea.Cells.below C5.out b6)
  have E6 : Hid (Cells (w5.alloc (.cells #[.int .i64 0] 3)) w5.heap.size 3 #[.int .i64 0]) := Cells.new w5 _ _
  have GE : Hid (gc < w5.heap.size) := Lea.Cells.lt C5.out
  clear b6 m0 m1 m2 m3 m4 m5 m6 FC4 C4 A4 L4 L5 F5 A5 C5
  go_upto_region 10 with fail
  generalize w5.alloc (.cells #[.int .i64 0] 3) = w6 at *
  generalize w5.heap.size = ge at *
  obtain ⟨m0, m1, m2, m3, m4, m5, m6⟩ := seven F6.out
  have b7 : Below w6.heap.size w6 (w6.alloc (.cells #[.int .i64 x.p.t.last, .int .i64 x.p.t.now, .slice x.A x.n x.a, .slice x.S x.m x.s, .slice x.W x.q x.k, .int .i64 x.p.ttl, .int .i64 x.p.zones] 31)) := (Below.refl _ w6).alloc (Nat.le_refl _) _
  have L7 := Lib.hid (L6.out.trans (b7.mono L6.out.size))
  have F7 := Lib.hid (Lea.Cells.below F6.out b7)
  have A7 := Lib.hid (A6.out.below b7)
  have C7 := Lib.hid (Lea.Cells.below C6.out b7)
  have E7 := Lib.hid (Lea.Cells.below E6.out b7)
  have S7 : Hid (CBox (w6.alloc (.cells #[.int .i64 x.p.t.last, .int .i64 x.p.t.now, .slice x.A x.n x.a, .slice x.S x.m x.s, .slice x.W x.q x.k, .int .i64 x.p.ttl, .int .i64 x.p.zones] 31)) w6.heap.size x) := Cells.new w6 _ _
  have GS : Hid (ge < w6.heap.size) := Lea.Cells.lt E6.out
  clear b7
  go_upto_region 11 with fail
  generalize w6.alloc (.cells #[.int .i64 x.p.t.last, .int .i64 x.p.t.now, .slice x.A x.n x.a, .slice x.S x.m x.s, .slice x.W x.q x.k, .int .i64 x.p.ttl, .int .i64 x.p.zones] 31) = w7 at *
  generalize w6.heap.size = gs at *
  clear m0 m1 m2 m3 m4 m5 m6 L6 F6 A6 C6 E6
  have RI7 : Hid (RI w gf gc x w7 (.slice none 0 0) (.slice (some ⟨ge, 0, none⟩) 1 1) (.slice (some ⟨gs, 0, none⟩) 1 1) 0 [] 1 [0] 1 [x] x [x]) :=
    ⟨L7.out, F7.out, C7.out, by have := GF.out; omega, GCW.out, OwnS.Owns.nil _ _ _ _ _, built (fit1 ci_one) E7.out (by have := GCW.out; have := GE.out; omega) rfl, built fitK S7.out (by have := GCW.out; have := GE.out; have := GS.out; omega) rfl,
      ⟨fun y hy => by obtain rfl := List.mem_singleton.1 hy; exact A7.out, fun y hy k hk e => (by cases e),
        fun y hy k hk e => (by obtain rfl := List.mem_singleton.1 hy; have e : some ge = some k := e; injection e with e; have := HXB.out k hk; have := GF.out; have := GE.out; omega),
        fun y hy k hk e => (by obtain rfl := List.mem_singleton.1 hy; have e : some gs = some k := e; injection e with e; have := HXB.out k hk; have := GF.out; have := GE.out; have := GS.out; omega),
        fun y hy k hk => (by obtain rfl := List.mem_singleton.1 hy; have := HXB.out k hk; have := GF.out; omega)⟩,
      fun e => (by have e : some gs = some gf := e; injection e with e; have := GF.out; have := GE.out; have := GS.out; omega),
      fun e => (by have e : some gs = some gc := e; injection e with e; have := GE.out; have := GS.out; omega)⟩
  have hbig := HL.out.big
  clear L7 F7 A7 C7 E7 S7
  go_wp2_with fail
  go_loopw [13, 14, 15, 17, 18, 19, 42] (fun tp en st _ _ _ i wr => ∃ (j : Nat) (T : Option Addr) (tl tc : Nat) (E : Option Addr) (ec : Nat) (S : Option Addr) (sc : Nat) (X : Cx) (ys : List Cx), i = .int .i64 j ∧ tp = .slice T tl tc ∧ en = .slice E ((wsOf l j).length + 1) ec ∧ st = .slice S ((wsOf l j).length + 1) sc ∧ j ≤ m ∧
      Hid (RI w gf gc x wr (.slice T tl tc) (.slice E ((wsOf l j).length + 1) ec) (.slice S ((wsOf l j).length + 1) sc) tl (tapeE (wsOf l j)) ((wsOf l j).length + 1) (endsL (wsOf l j)) ((wsOf l j).length + 1) ys X ys ∧ Hist x.p (wsOf l j) ys ∧ ys[(wsOf l j).length]? = some X ∧ ys[0]? = some x)) (fun _ _ _ _ _ _ i _ => m - (intOf i).toNat)
  case atStart => exact ⟨0, none, 0, 0, some ⟨ge, 0, none⟩, 1, some ⟨gs, 0, none⟩, 1, x, [x], rfl, rfl, rfl, rfl, by omega, RI7.out, hist_one rfl, rfl, rfl⟩
  case round =>
    obtain ⟨j, T, tl, tc, E, ec, S, sc, X, ys, rfl, rfl, rfl, rfl, hj, hH⟩ := hrel
    have RR := Lib.hid hH.out.1
    have HI := Lib.hid hH.out.2.1
    have HLS := Lib.hid hH.out.2.2.1
    have HFS := Lib.hid hH.out.2.2.2
    clear hH
    have HWN : Hid (∀ e ∈ wsOf l j, e.now ≤ 1152921504606846976) := fun e he => FEW.out.1 e (ws_mem he).1
    have HWL : Hid ((wsOf l j).length ≤ 100) := by have h1 := ws_len l j; have h2 := FEW.out.2; show _ ≤ _; omega
    have HWI : Hid (∀ e ∈ wsOf l j, wroteB e = true ∧ Ints e) := fun e he => ⟨(ws_mem he).2, HINT.out e (ws_mem he).1⟩
    have IX : Hid (Inv X.p) := by show Inv _; rw [last_all HI.out HLS.out]; exact ws_inv I4.out _
    have BX : Hid (Bd X.p 100) := by show Bd _ _; rw [last_all HI.out HLS.out]; exact ws_bd I4.out B4.out HWN.out HWL.out
    by_cases hlt : j < m
    · obtain ⟨ev, hev⟩ := HL.out.get hlt
      have HN := Lib.hid (FEW.out.1 ev (List.mem_of_getElem? hev))
      have HIE := Lib.hid (HINT.out ev (List.mem_of_getElem? hev))
      have HEV := Lib.hid hev
      obtain ⟨eb, eo, hE, c0, c1, c2, c3, c4, c5, c6, c7⟩ := ev_cells HL.out hev RR.out.below
      have hk0 : (0 : Int) ≤ (j : Int) := by omega
      have hk1 : (j : Int) < (m : Int) := by omega
      have b8 : Below wr.heap.size wr (wr.alloc (.cells #[.int .i64 ev.d, .int .i64 ev.host, .int .i64 ev.zone, .int .i64 ev.epoch, .int .i64 ev.fr, .int .i64 ev.to, .int .i64 ev.now, .int .i64 ev.key] 36)) := (Below.refl _ wr).alloc (Nat.le_refl _) _
      have R8 := Lib.hid (RR.out.keep b8)
      have E8 : Hid (EBox (wr.alloc (.cells #[.int .i64 ev.d, .int .i64 ev.host, .int .i64 ev.zone, .int .i64 ev.epoch, .int .i64 ev.fr, .int .i64 ev.to, .int .i64 ev.now, .int .i64 ev.key] 36)) wr.heap.size ev) := Cells.new wr _ _
      rw [hE]
      clear b8 hev
      go_upto_region 14 with fail
      clear c0 c1 c2 c3 c4 c5 c6 c7
      generalize wr.alloc (.cells #[.int .i64 ev.d, .int .i64 ev.host, .int .i64 ev.zone, .int .i64 ev.epoch, .int .i64 ev.fr, .int .i64 ev.to, .int .i64 ev.now, .int .i64 ev.key] 36) = w8 at *
      generalize wr.heap.size = gx at *
      obtain ⟨y0, y1, y2, y3, y4, y5, y6, y7⟩ := EBox.cells E8.out
      have HWR := fun w => Lib.hid (write_any HIE.out w)
      go_wp2_with fail
      refine (HWR w8).out.mono ?_
      rintro e w9 (⟨hw, B, bk, bc, rfl, hO, hb⟩ | ⟨hw, rfl, hb⟩)
      · have R9 := Lib.hid (R8.out.keep hb)
        have E9 := Lib.hid (Lea.Cells.below E8.out hb)
        obtain ⟨B', bc', hBe, hBr⟩ := hO.row (by have := bytes_len HIE.out; have := hO.len; omega)
        injection hBe with q1 _ q3
        subst q1 q3
        have RB9 := Lib.hid hBr
        clear hBr
        have HBP : Hid (∀ k o, 0 < bk → B = some ⟨k, o, none⟩ → w8.heap.size ≤ k) := fun k o h0 e => owns_at hO h0 e
        have HTL : Hid (tl ≤ 80 * 100) := by have h1 := RR.out.tape.2; have h2 := tape_len (l := wsOf l j) (fun e he => (HWI.out e he).2); have h3 := HWL.out; show _ ≤ _; omega
        have HBL : Hid (bk ≤ 80) := by have := bytes_len HIE.out; have := hO.len; show _ ≤ _; omega
        have HWS := Lib.hid (ws_yes HEV.out hw)
        have HDO := Lib.hid (do_call (e := ev) (R9.out.kept.at_ X (List.mem_of_getElem? HLS.out)) IX.out BX.out (by omega) HN.out)
        have HDP : Hid ((doC X.p ev).1 = (allC x.p (wsOf l j ++ [ev])).1) := by
          show _ = _
          rw [all_snoc, last_all HI.out HLS.out]
        unfold Did at HDO
        clear hb hw hO y0 y1 y2 y3 y4 y5 y6 y7
        generalize doC X.p ev = r at *
        obtain ⟨rp, ⟨er, ep, et⟩⟩ := r
        obtain ⟨y0, y1, y2, y3, y4, y5, y6, y7⟩ := EBox.cells E9.out
        obtain ⟨m0, m1, m2, m3, m4, m5, m6⟩ := seven R9.out.c
        go_wp2_with fail
        refine HDO.out.mono ?_
        rintro e w10 ⟨Y, Bt, nt, dt, rfl, hp, hat, -, hb, hfr⟩
        have R10 := Lib.hid (R9.out.did hb hat hfr)
        have RB10 := Lib.hid (RB9.out.below hb)
        have HYP : Hid (Y.p = (allC x.p (wsOf l j ++ [ev])).1) := hp.trans HDP.out
        clear hb hfr hat hp m0 m1 m2 m3 m4 m5 m6 y0 y1 y2 y3 y4 y5 y6 y7 HDO HDP
        obtain ⟨f0, f1, f2, f3, f4, f5, f6⟩ := seven_frozen R10.out.c
        obtain ⟨m0, m1, m2, m3, m4, m5, m6⟩ := seven R10.out.c
        have bt := but_set7 w10 gc (.int .i64 Y.p.t.last) (.int .i64 Y.p.t.now) (.slice Y.A Y.n Y.a) (.slice Y.S Y.m Y.s) (.slice Y.W Y.q Y.k) (.int .i64 Y.p.ttl) (.int .i64 Y.p.zones)
        have R11 := Lib.hid (R10.out.set (X' := Y) bt (cells_set7 R10.out.c (.int .i64 Y.p.t.last) (.int .i64 Y.p.t.now) (.slice Y.A Y.n Y.a) (.slice Y.S Y.m Y.s) (.slice Y.W Y.q Y.k) (.int .i64 Y.p.ttl) (.int .i64 Y.p.zones)))
        have RB11 := Lib.hid (row_keep (row_to RB10.out) bt.size (fun k o h0 e => bt.block (row_lt (row_to RB10.out) h0 e) (fun he => by have h1 := HBP.out k o h0 e; have h2 := Lea.Cells.lt R8.out.c; omega)))
        clear bt
        go_upto_region 17 with fail
        clear f0 f1 f2 f3 f4 f5 f6 m0 m1 m2 m3 m4 m5 m6
        generalize ((((((w10.setCell ⟨gc, 0, none⟩ (.int .i64 Y.p.t.last)).setCell ⟨gc, 1, none⟩ (.int .i64 Y.p.t.now)).setCell ⟨gc, 2, none⟩ (.slice Y.A Y.n Y.a)).setCell ⟨gc, 3, none⟩ (.slice Y.S Y.m Y.s)).setCell ⟨gc, 4, none⟩ (.slice Y.W Y.q Y.k)).setCell ⟨gc, 5, none⟩ (.int .i64 Y.p.ttl)).setCell ⟨gc, 6, none⟩ (.int .i64 Y.p.zones) = w11 at *
        go_upto_region 18 with (at_builtin
                                refine OwnS.wpList_append (fit1 cb_one) Tryz.underlying53 info_byte rfl (by omega) rfl (.tmp 59) (.tmp 60) rfl rfl w.heap.size (.slice T tl tc) tl _ rfl R11.out.tape B bk bc (bytesE ev) rfl RB11.out (by have := HBL.out; have := HTL.out; omega) R11.out.below.size ?_
                                intro A1 c1 w12 h1 h2 h3
                                have R12 := Lib.hid (R11.out.more h1 h2 h3)
                                clear h1 h2 h3)
        have b13 : Below w12.heap.size w12 (w12.alloc (.cells #[.int .i64 ((tl + bk : Nat) : Int)] 3)) := (Below.refl _ _).alloc (Nat.le_refl _) _
        have R13 := Lib.hid (R12.out.keep b13)
        have N13 : Hid (Cells (w12.alloc (.cells #[.int .i64 ((tl + bk : Nat) : Int)] 3)) w12.heap.size 3 #[.int .i64 ((tl + bk : Nat) : Int)]) := Cells.new _ _ _
        clear b13
        go_upto_region 19 with (at_builtin
                                refine OwnS.wpList_append (fit1 ci_one) Tryz.underlying54 info_i rfl (by omega) rfl (.tmp 62) (.tmp 65) rfl rfl w.heap.size (.slice E ((wsOf l j).length + 1) ec) ((wsOf l j).length + 1) _ rfl R13.out.ends _ 1 1 _ rfl (one_int N13.out) (by have := HWL.out; omega) R13.out.below.size ?_
                                intro A2 c2 w14 h1 h2 h3
                                have R14 := Lib.hid (R13.out.end_ h1 h2 h3)
                                clear h1 h2 h3)
        obtain ⟨m0, m1, m2, m3, m4, m5, m6⟩ := seven R14.out.c
        have b15 : Below w14.heap.size w14 (w14.alloc (.cells #[.int .i64 Y.p.t.last, .int .i64 Y.p.t.now, .slice Y.A Y.n Y.a, .slice Y.S Y.m Y.s, .slice Y.W Y.q Y.k, .int .i64 Y.p.ttl, .int .i64 Y.p.zones] 31)) := (Below.refl _ _).alloc (Nat.le_refl _) _
        have R15 := Lib.hid (R14.out.keep b15)
        have N15 : Hid (CBox (w14.alloc (.cells #[.int .i64 Y.p.t.last, .int .i64 Y.p.t.now, .slice Y.A Y.n Y.a, .slice Y.S Y.m Y.s, .slice Y.W Y.q Y.k, .int .i64 Y.p.ttl, .int .i64 Y.p.zones] 31)) w14.heap.size Y) := Cells.new _ _ _
        clear b15
        go_wp2_with (at_builtin
                     refine OwnS.wpList_append fitK Tryz.underlying55 info_coord rfl (by omega) rfl (.tmp 67) (.tmp 69) rfl rfl w.heap.size (.slice S ((wsOf l j).length + 1) sc) ((wsOf l j).length + 1) _ rfl R15.out.sts _ 1 1 [Y] rfl (one_coord N15.out) (by have := HWL.out; omega) R15.out.below.size ?_
                     intro A3 c3 w16 h1 h2 h3
                     have R16 := Lib.hid (R15.out.state h1 h2 h3)
                     clear h1 h2 h3)
        have HTQ : Hid (tapeE (wsOf l j ++ [ev]) = tapeE (wsOf l j) ++ bytesE ev) := by show _ = _; rw [tape_app, show tapeE [ev] = bytesE ev from List.append_nil _]
        have HLQ : Hid ((wsOf l j ++ [ev]).length = (wsOf l j).length + 1) := by simp [Hid]
        have HEQ : Hid (endsL (wsOf l j ++ [ev]) = endsL (wsOf l j) ++ [((tl + bk : Nat) : Int)]) := by
          show _ = _
          rw [endsL_snoc, HTQ.out, ← R16.out.tape.2]
        have HYL := Lib.hid HI.out.1
        go_roundw
        case rel =>
          refine ⟨j + 1, A1, tl + bk, c1, A2, c2, A3, c3, Y, ys ++ [Y], by go_num, rfl, ?_, ?_, by omega, ?_⟩
          · rw [HWS.out, HLQ.out]
          · rw [HWS.out, HLQ.out]
          · rw [HWS.out, HLQ.out, HTQ.out, HEQ.out]
            refine ⟨R16.out, hist_snoc HI.out HYP.out, ?_, ?_⟩
            · rw [← HYL.out]; simp
            · have h0 := HFS.out
              rw [List.getElem?_append_left (by rw [HYL.out]; omega)]
              exact h0
        case measure => simp [intOf]; omega
      · have R9 := Lib.hid (R8.out.keep hb)
        have HWS := Lib.hid (ws_no HEV.out hw)
        clear hb hw
        go_wp2_with fail
        go_roundw
        case rel => exact ⟨j + 1, T, tl, tc, E, ec, S, sc, X, ys, by go_num, rfl, by rw [HWS.out], by rw [HWS.out], by omega, by rw [HWS.out]; exact ⟨R9.out, HI.out, HLS.out, HFS.out⟩⟩
        case measure => simp [intOf]; omega
    · obtain rfl : j = m := by omega
      have HXM := Lib.hid (List.mem_of_getElem? HFS.out)
      have HXL := Lib.hid (List.mem_of_getElem? HLS.out)
      have HLP := Lib.hid (last_all HI.out HLS.out)
      generalize hws : wsOf l j = ws at *
      clear hws
      obtain ⟨el, hel⟩ : ∃ el, el = ws.length + 1 := ⟨_, rfl⟩
      rw [← hel] at RR ⊢
      have HEL := Lib.hid hel
      clear hel
      have L8 := Lib.hid RR.out.below
      have TLB : Hid (tl ≤ 8000 ∧ (tapeE ws).length = tl) := ⟨by have h1 := RR.out.tape.2; have h2 := tape_len (l := ws) (fun e he => (HWI.out e he).2); have h3 := HWL.out; omega, RR.out.tape.2⟩
      have TR8 := Lib.hid (row_back (RR.out.tape.row (fit1 cb_one) (by have := TLB.out.1; omega)))
      have ER8 := Lib.hid (row_back (RR.out.ends.row (fit1 ci_one) (by have := HEL.out; have := HWL.out; omega)))
      have SR8 := Lib.hid (RR.out.sts.row fitK (by have := HEL.out; have := HWL.out; omega))
      have AY8 : Hid (∀ y ∈ ys, CoordAt wr y) := RR.out.kept.at_
      have FB8 := Lib.hid RR.out.f
      have CB8 := Lib.hid RR.out.c
      have HELB : Hid (el ≤ 101) := by have := HEL.out; have := HWL.out; show _ ≤ _; omega
      have HRP := fun W (h : CoordAt W x) (hb : Row cb W T tl tc (tapeE ws ++ [])) => Lib.hid (replay_any h hb (by rw [none_read]; show (20 : Nat) ≠ 0; omega) HWI.out HWN.out I4.out B4.out HWL.out (by have := TLB.out.1; omega))
      clear RR HXB hbig
      obtain ⟨m0, m1, m2, m3, m4, m5, m6⟩ := seven FB8.out
      go_wp2_with fail
      refine (HRP wr (AY8.out x HXM.out) (by rw [List.append_nil]; exact TR8.out)).out.mono ?_
      rintro e w9 ⟨D, rfl, hdp, hda, hb⟩
      have L9 := Lib.hid (L8.out.trans (hb.mono L8.out.size))
      have TR9 := Lib.hid (TR8.out.below hb)
      have ER9 := Lib.hid (ER8.out.below hb)
      have SR9 := Lib.hid (RowS.below SR8.out hb)
      have AY9 : Hid (∀ y ∈ ys, CoordAt w9 y) := fun y hy => (AY8.out y hy).below hb
      have FB9 := Lib.hid (Lea.Cells.below FB8.out hb)
      have CB9 := Lib.hid (Lea.Cells.below CB8.out hb)
      have AD9 := Lib.hid hda
      have HDP := Lib.hid hdp
      have HYB : Hid (∀ y ∈ ys, ∀ k, Bl y k → k < w9.heap.size) := fun y hy k hk => (AY9.out y hy).lt hk
      have HSB : Hid (∀ k o, 0 < el → S = some ⟨k, o, none⟩ → k < w9.heap.size) := fun k o h0 e => row_lt SR9.out h0 e
      have HGF : Hid (gf < w9.heap.size) := Lea.Cells.lt FB9.out
      have HGDW : Hid (w.heap.size ≤ w9.heap.size) := L9.out.size
      clear hb hda hdp m0 m1 m2 m3 m4 m5 m6 HRP
      have hb : Below w9.heap.size w9 (w9.alloc (.cells #[.int .i64 D.p.t.last, .int .i64 D.p.t.now, .slice D.A D.n D.a, .slice D.S D.m D.s, .slice D.W D.q D.k, .int .i64 D.p.ttl, .int .i64 D.p.zones] 31)) := (Below.refl _ w9).alloc (Nat.le_refl _) _
      have L10 := Lib.hid (L9.out.trans (hb.mono L9.out.size))
      have TR10 := Lib.hid (TR9.out.below hb)
      have ER10 := Lib.hid (ER9.out.below hb)
      have SR10 := Lib.hid (RowS.below SR9.out hb)
      have AY10 : Hid (∀ y ∈ ys, CoordAt (w9.alloc (.cells #[.int .i64 D.p.t.last, .int .i64 D.p.t.now, .slice D.A D.n D.a, .slice D.S D.m D.s, .slice D.W D.q D.k, .int .i64 D.p.ttl, .int .i64 D.p.zones] 31)) y) := fun y hy => (AY9.out y hy).below hb
      have FB10 := Lib.hid (Lea.Cells.below FB9.out hb)
      have CB10 := Lib.hid (Lea.Cells.below CB9.out hb)
      have AD10 := Lib.hid (AD9.out.below hb)
      have DB10 : Hid (CBox (w9.alloc (.cells #[.int .i64 D.p.t.last, .int .i64 D.p.t.now, .slice D.A D.n D.a, .slice D.S D.m D.s, .slice D.W D.q D.k, .int .i64 D.p.ttl, .int .i64 D.p.zones] 31)) w9.heap.size D) := Cells.new _ _ _
      clear hb
      go_upto_region 22 with fail
      generalize w9.alloc (.cells #[.int .i64 D.p.t.last, .int .i64 D.p.t.now, .slice D.A D.n D.a, .slice D.S D.m D.s, .slice D.W D.q D.k, .int .i64 D.p.ttl, .int .i64 D.p.zones] 31) = w10 at *
      generalize w9.heap.size = gd at *
      obtain ⟨m0, m1, m2, m3, m4, m5, m6⟩ := seven CB10.out
      obtain ⟨y0, y1, y2, y3, y4, y5, y6⟩ := seven DB10.out
      have HLX := Lib.hid (lim (AY10.out X HXL.out) IX.out BX.out)
      have HSM := Lib.hid (same_any (AY10.out X HXL.out) AD10.out (HDP.out.trans HLP.out.symm) HLX.out.1 HLX.out.2.1 HLX.out.2.2)
      go_wp2_with fail
      refine HSM.out.mono ?_
      rintro e w11 ⟨rfl, hb⟩
      have L11 := Lib.hid (L10.out.trans (hb.mono L10.out.size))
      have TR11 := Lib.hid (TR10.out.below hb)
      have ER11 := Lib.hid (ER10.out.below hb)
      have SR11 := Lib.hid (RowS.below SR10.out hb)
      have AY11 : Hid (∀ y ∈ ys, CoordAt w11 y) := fun y hy => (AY10.out y hy).below hb
      have FB11 := Lib.hid (Lea.Cells.below FB10.out hb)
      have DB11 := Lib.hid (Lea.Cells.below DB10.out hb)
      clear hb m0 m1 m2 m3 m4 m5 m6 y0 y1 y2 y3 y4 y5 y6 HSM HLX
      obtain ⟨wl, hwl⟩ : ∃ wl, ws.length = wl := ⟨_, rfl⟩
      have HWLL := Lib.hid hwl
      rw [hwl]
      clear hwl
      have hq : (el : Int) - 1 = (wl : Int) := by have := HEL.out; have := HWLL.out; omega
      have hqw : IntKind.i64.wrap (wl : Int) = (wl : Int) := by have := HWL.out; have := HWLL.out; rw [IntKind.wrap_i64]; omega
      obtain ⟨r, cj, a1, a2, a3, a4, a5, a6⟩ := Cut.cut_at cut (tl + 1) (by omega)
      have hcj : cj ≤ tl := by omega
      have ht0 : ((tl + 1 : Nat) : Int) = (tl : Int) + 1 := by omega
      rw [ht0] at a1 a4
      have hw0 : IntKind.i64.wrap ((tl : Int) + 1) = (tl : Int) + 1 := by have := TLB.out.1; rw [IntKind.wrap_i64]; omega
      have hw1 : IntKind.i64.wrap (r + (tl : Int)) = r + (tl : Int) := by have := TLB.out.1; rw [IntKind.wrap_i64]; omega
      have hw2 : IntKind.i64.wrap (r + (tl : Int) + 1) = r + (tl : Int) + 1 := by have := TLB.out.1; rw [IntKind.wrap_i64]; omega
      have hw3 : IntKind.i64.wrap r = r := by have := TLB.out.1; rw [IntKind.wrap_i64]; omega
      have hc2 : (r + (tl : Int) + 1).tmod ((tl : Int) + 1) = (cj : Int) := by rw [show r + (tl : Int) + 1 = r + ((tl : Int) + 1) by omega]; exact a4
      have hw4 : IntKind.i64.wrap (cj : Int) = (cj : Int) := by have := TLB.out.1; rw [IntKind.wrap_i64]; omega
      have hnz : ¬ ((tl : Int) + 1 = 0) := by omega
      clear a2 a3 a4 a5 a6 ht0
      go_wp2_with fail
      clear hw0 hw1 hw2 hw3 hw4 hc2 hnz a1 hq hqw
      go_loop [22] (fun kk => ∃ k : Nat, kk = .int .i64 k ∧ k ≤ wl ∧ Hid (endE ws k ≤ cj)) (fun kk => wl - (intOf kk).toNat)
      case atStart => exact ⟨0, rfl, by omega, by show endE ws 0 ≤ cj; simp [endE, tapeE]⟩
      case round =>
        obtain ⟨k, rfl, hk, hK⟩ := hrel
        obtain ⟨q, hq⟩ : ∃ q, q = k + 1 := ⟨_, rfl⟩
        have hqi : (k : Int) + 1 = (q : Int) := by omega
        have hqw : IntKind.i64.wrap (q : Int) = (q : Int) := by have := HWL.out; have := HWLL.out; rw [IntKind.wrap_i64]; omega
        have HQ := Lib.hid hq
        by_cases hlk : k < wl
        · obtain ⟨eb2, eo2, hEE, hcell⟩ := ER11.out.cell (endsL_at ws (k := q) (by have := HWLL.out; omega))
          subst hEE
          have hcell2 : w11.cell? ⟨eb2, eo2 + q, none⟩ = some (.int .i64 ((endE ws q : Nat) : Int)) := hcell
          have hq0 : (0 : Int) ≤ (q : Int) := by omega
          have hqe : (q : Int) < (el : Int) := by have := HEL.out; have := HWLL.out; omega
          clear hcell hq
          rcases f1 : decide (endE ws q ≤ cj)
          · have HCUT : Hid (k < ws.length → cj < endE ws (k + 1)) := by
              show _ → _
              intro _
              rw [← HQ.out]
              have := of_decide_eq_false f1
              omega
            obtain ⟨rest, ht1, ht2⟩ := tape_cut (fun e he => (HWI.out e he).2) (k := k) (by rw [HWLL.out]; exact hk) hK.out HCUT.out (by rw [TLB.out.2]; exact hcj)
            have TK := Lib.hid (show Row cb w11 T cj tc (tapeE (ws.take k) ++ rest) by rw [← ht1]; exact TR11.out.head hcj)
            have HRS := Lib.hid ht2
            have HTL : Hid ((ws.take k).length = k) := by show _ = _; rw [List.length_take, HWLL.out]; omega
            have hcjc : cj ≤ tc := by have := TR11.out.cap; omega
            have hsl := fun w => run_head T tl tc cj hcjc w
            have HR2 := fun W (h : CoordAt W x) (hb : Row cb W T cj tc (tapeE (ws.take k) ++ rest)) => Lib.hid (replay_any h hb HRS.out (fun e he => HWI.out e (List.mem_of_mem_take he)) (fun e he => HWN.out e (List.mem_of_mem_take he)) I4.out B4.out (by rw [HTL.out]; have := HWL.out; have := HWLL.out; omega) (by have := TLB.out.1; omega))
            rw [HTL.out] at HR2
            clear ht1 ht2
            obtain ⟨m0, m1, m2, m3, m4, m5, m6⟩ := seven FB11.out
            go_upto_region 28 with fail
            refine wp_region_held_drew (S := fun W => W.cell? ⟨gf, 0, none⟩ = some (.int .i64 x.p.t.last) ∧ W.cell? ⟨gf, 1, none⟩ = some (.int .i64 x.p.t.now) ∧ W.cell? ⟨gf, 2, none⟩ = some (.slice x.A x.n x.a) ∧ W.cell? ⟨gf, 3, none⟩ = some (.slice x.S x.m x.s) ∧ W.cell? ⟨gf, 4, none⟩ = some (.slice x.W x.q x.k) ∧ W.cell? ⟨gf, 5, none⟩ = some (.int .i64 x.p.ttl) ∧ W.cell? ⟨gf, 6, none⟩ = some (.int .i64 x.p.zones)) (by kernel_rfl) (seven FB11.out) (fun hHeld => ?_)
            have hb : Below w11.heap.size w11 w11.drew := (Below.refl _ w11).drew
            have L12 := Lib.hid (L11.out.trans (hb.mono L11.out.size))
            have SR12 := Lib.hid (RowS.below SR11.out hb)
            have AY12 : Hid (∀ y ∈ ys, CoordAt w11.drew y) := fun y hy => (AY11.out y hy).below hb
            have FB12 := Lib.hid (Lea.Cells.below FB11.out hb)
            have DB12 := Lib.hid (Lea.Cells.below DB11.out hb)
            have TK12 := Lib.hid (TK.out.below hb)
            clear hb m0 m1 m2 m3 m4 m5 m6
            generalize w11.drew = w12 at *
            (first | (refine Reg.take 0 (v := ?_) rfl (by kernel_rfl) (by kernel_rfl) (by kernel_rfl) (fun _ _ _ h => h) (Or.inl ⟨by rfl, ?_⟩) (by assumption) ?_; rotate_left; (focus ((intro W hSW); (try dsimp only at hSW); (try go_split_ands); go_simp; (try (with_reducible rfl)); done))) | (refine Reg.take 0 (v := undef) rfl (by kernel_rfl) (by kernel_rfl) (by kernel_rfl) (fun _ _ _ h => h) (Or.inr ⟨by rfl, rfl⟩) (by assumption) ?_))
            (try simp only [Act.put, List.setIfInBounds_toArray, List.set_cons_zero, List.set_cons_succ])
            (first | (refine Reg.take 1 (v := ?_) rfl (by kernel_rfl) (by kernel_rfl) (by kernel_rfl) (fun _ _ _ h => h) (Or.inl ⟨by rfl, ?_⟩) (by assumption) ?_; rotate_left; (focus ((intro W hSW); (try dsimp only at hSW); (try go_split_ands); go_simp; (try (with_reducible rfl)); done))) | (refine Reg.take 1 (v := undef) rfl (by kernel_rfl) (by kernel_rfl) (by kernel_rfl) (fun _ _ _ h => h) (Or.inr ⟨by rfl, rfl⟩) (by assumption) ?_))
            (try simp only [Act.put, List.setIfInBounds_toArray, List.set_cons_zero, List.set_cons_succ])
            (first | (refine Reg.take 2 (v := ?_) rfl (by kernel_rfl) (by kernel_rfl) (by kernel_rfl) (fun _ _ _ h => h) (Or.inl ⟨by rfl, ?_⟩) (by assumption) ?_; rotate_left; (focus ((intro W hSW); (try dsimp only at hSW); (try go_split_ands); go_simp; (try (with_reducible rfl)); done))) | (refine Reg.take 2 (v := undef) rfl (by kernel_rfl) (by kernel_rfl) (by kernel_rfl) (fun _ _ _ h => h) (Or.inr ⟨by rfl, rfl⟩) (by assumption) ?_))
            (try simp only [Act.put, List.setIfInBounds_toArray, List.set_cons_zero, List.set_cons_succ])
            (first | (refine Reg.take 3 (v := ?_) rfl (by kernel_rfl) (by kernel_rfl) (by kernel_rfl) (fun _ _ _ h => h) (Or.inl ⟨by rfl, ?_⟩) (by assumption) ?_; rotate_left; (focus ((intro W hSW); (try dsimp only at hSW); (try go_split_ands); go_simp; (try (with_reducible rfl)); done))) | (refine Reg.take 3 (v := undef) rfl (by kernel_rfl) (by kernel_rfl) (by kernel_rfl) (fun _ _ _ h => h) (Or.inr ⟨by rfl, rfl⟩) (by assumption) ?_))
            (try simp only [Act.put, List.setIfInBounds_toArray, List.set_cons_zero, List.set_cons_succ])
            refine Reg.step 4 rfl (by kernel_rfl) (by rfl) (fun K hK => ?_)
            go_simp
            refine (HR2 w12 (AY12.out x HXM.out) TK12.out).out.mono ?_
            rintro e' w13 ⟨D2, rfl, hdp, hda, hb⟩
            have L13 := Lib.hid (L12.out.trans (hb.mono L12.out.size))
            have SR13 := Lib.hid (RowS.below SR12.out hb)
            have AY13 : Hid (∀ y ∈ ys, CoordAt w13 y) := fun y hy => (AY12.out y hy).below hb
            have FB13 := Lib.hid (Lea.Cells.below FB12.out hb)
            have DB13 := Lib.hid (Lea.Cells.below DB12.out hb)
            have HDP2 := Lib.hid hdp
            have AD13 := Lib.hid hda
            clear hb hdp hda
            refine hK.out _ _ (seven FB13.out) (fun hHeld2 => ?_)
            clear hK K
            (try simp only [Act.put, List.setIfInBounds_toArray, List.set_cons_zero, List.set_cons_succ])
            (first | (refine Reg.take 5 (v := ?_) rfl (by kernel_rfl) (by kernel_rfl) (by kernel_rfl) (fun _ _ _ h => h) (Or.inl ⟨by rfl, ?_⟩) (by assumption) ?_; rotate_left; (focus ((intro W hSW); (try dsimp only at hSW); (try go_split_ands); go_simp; (try (with_reducible rfl)); done))) | (refine Reg.take 5 (v := undef) rfl (by kernel_rfl) (by kernel_rfl) (by kernel_rfl) (fun _ _ _ h => h) (Or.inr ⟨by rfl, rfl⟩) (by assumption) ?_))
            (try simp only [Act.put, List.setIfInBounds_toArray, List.set_cons_zero, List.set_cons_succ])
            (first | (refine Reg.take 6 (v := ?_) rfl (by kernel_rfl) (by kernel_rfl) (by kernel_rfl) (fun _ _ _ h => h) (Or.inl ⟨by rfl, ?_⟩) (by assumption) ?_; rotate_left; (focus ((intro W hSW); (try dsimp only at hSW); (try go_split_ands); go_simp; (try (with_reducible rfl)); done))) | (refine Reg.take 6 (v := undef) rfl (by kernel_rfl) (by kernel_rfl) (by kernel_rfl) (fun _ _ _ h => h) (Or.inr ⟨by rfl, rfl⟩) (by assumption) ?_))
            (try simp only [Act.put, List.setIfInBounds_toArray, List.set_cons_zero, List.set_cons_succ])
            (first | (refine Reg.take 7 (v := ?_) rfl (by kernel_rfl) (by kernel_rfl) (by kernel_rfl) (fun _ _ _ h => h) (Or.inl ⟨by rfl, ?_⟩) (by assumption) ?_; rotate_left; (focus ((intro W hSW); (try dsimp only at hSW); (try go_split_ands); go_simp; (try (with_reducible rfl)); done))) | (refine Reg.take 7 (v := undef) rfl (by kernel_rfl) (by kernel_rfl) (by kernel_rfl) (fun _ _ _ h => h) (Or.inr ⟨by rfl, rfl⟩) (by assumption) ?_))
            (try simp only [Act.put, List.setIfInBounds_toArray, List.set_cons_zero, List.set_cons_succ])
            refine Reg.step 8 rfl (by kernel_rfl) (by rfl) (fun K hK => ?_)
            obtain ⟨f0, f1, f2, f3, f4, f5, f6⟩ := seven_frozen DB13.out
            obtain ⟨y0, y1, y2, y3, y4, y5, y6⟩ := seven DB13.out
            go_simp
            have bt := but_set7 w13 gd (.int .i64 D2.p.t.last) (.int .i64 D2.p.t.now) (.slice D2.A D2.n D2.a) (.slice D2.S D2.m D2.s) (.slice D2.W D2.q D2.k) (.int .i64 D2.p.ttl) (.int .i64 D2.p.zones)
            have FB14 := Lib.hid (Lea.Cells.but FB13.out bt (by have := HGF.out; omega))
            have DB14 := Lib.hid (cells_set7 DB13.out (.int .i64 D2.p.t.last) (.int .i64 D2.p.t.now) (.slice D2.A D2.n D2.a) (.slice D2.S D2.m D2.s) (.slice D2.W D2.q D2.k) (.int .i64 D2.p.ttl) (.int .i64 D2.p.zones))
            have AD14 := Lib.hid (AD13.out.keepB bt.size fun k hk => bt.block (AD13.out.lt hk) (bl_ne DB13.out AD13.out hk))
            have AY14 : Hid (∀ y ∈ ys, CoordAt (((((((w13.setCell ⟨gd, 0, none⟩ (.int .i64 D2.p.t.last)).setCell ⟨gd, 1, none⟩ (.int .i64 D2.p.t.now)).setCell ⟨gd, 2, none⟩ (.slice D2.A D2.n D2.a)).setCell ⟨gd, 3, none⟩ (.slice D2.S D2.m D2.s)).setCell ⟨gd, 4, none⟩ (.slice D2.W D2.q D2.k)).setCell ⟨gd, 5, none⟩ (.int .i64 D2.p.ttl)).setCell ⟨gd, 6, none⟩ (.int .i64 D2.p.zones)) y) := fun y hy => (AY13.out y hy).keepB bt.size fun k hk => bt.block ((AY13.out y hy).lt hk) (by have := HYB.out y hy k hk; omega)
            have SR14 := Lib.hid (row_keep SR13.out bt.size fun k o h0 e => bt.block (row_lt SR13.out h0 e) (by have := HSB.out k o h0 e; omega))
            have L14 := Lib.hid (L13.out.trans (bt.below L13.out.size HGDW.out))
            refine hK.out _ _ (seven FB14.out) (fun hHeld3 => ?_)
            clear hK K
            (try simp only [Act.put, List.setIfInBounds_toArray, List.set_cons_zero, List.set_cons_succ])
            clear bt f0 f1 f2 f3 f4 f5 f6 y0 y1 y2 y3 y4 y5 y6
            generalize ((((((w13.setCell ⟨gd, 0, none⟩ (.int .i64 D2.p.t.last)).setCell ⟨gd, 1, none⟩ (.int .i64 D2.p.t.now)).setCell ⟨gd, 2, none⟩ (.slice D2.A D2.n D2.a)).setCell ⟨gd, 3, none⟩ (.slice D2.S D2.m D2.s)).setCell ⟨gd, 4, none⟩ (.slice D2.W D2.q D2.k)).setCell ⟨gd, 5, none⟩ (.int .i64 D2.p.ttl)).setCell ⟨gd, 6, none⟩ (.int .i64 D2.p.zones) = w14 at *
            (first | (refine Reg.take 9 (v := ?_) rfl (by kernel_rfl) (by kernel_rfl) (by kernel_rfl) (fun _ _ _ h => h) (Or.inl ⟨by rfl, ?_⟩) (by assumption) ?_; rotate_left; (focus ((intro W hSW); (try dsimp only at hSW); (try go_split_ands); go_simp; (try (with_reducible rfl)); done))) | (refine Reg.take 9 (v := undef) rfl (by kernel_rfl) (by kernel_rfl) (by kernel_rfl) (fun _ _ _ h => h) (Or.inr ⟨by rfl, rfl⟩) (by assumption) ?_))
            (try simp only [Act.put, List.setIfInBounds_toArray, List.set_cons_zero, List.set_cons_succ])
            refine wpAnyH_done (by kernel_rfl) ?_ _
            clear hHeld hHeld2 hHeld3
            obtain ⟨Yk, hyk⟩ : ∃ y, ys[k]? = some y := ⟨_, List.getElem?_eq_getElem (by have := HI.out.1; have := HWLL.out; omega)⟩
            have HYM := Lib.hid (List.mem_of_getElem? hyk)
            have HYP := Lib.hid ((HI.out.2 k Yk hyk).trans HDP2.out.symm)
            obtain ⟨sb, so, hS, hsb, hcellS⟩ := SR14.out.elem hyk
            subst hS
            have HS2 := fun W (hW : Below w14.heap.size w14 W) => And.intro (seven (Lea.Cells.below DB14.out hW)) (show W.cell? ⟨sb, so + k * 7, none⟩ = some (.int .i64 Yk.p.t.last) ∧ W.cell? ⟨sb, so + k * 7 + 1, none⟩ = some (.int .i64 Yk.p.t.now) ∧ W.cell? ⟨sb, so + k * 7 + 2, none⟩ = some (.slice Yk.A Yk.n Yk.a) ∧ W.cell? ⟨sb, so + k * 7 + 3, none⟩ = some (.slice Yk.S Yk.m Yk.s) ∧ W.cell? ⟨sb, so + k * 7 + 4, none⟩ = some (.slice Yk.W Yk.q Yk.k) ∧ W.cell? ⟨sb, so + k * 7 + 5, none⟩ = some (.int .i64 Yk.p.ttl) ∧ W.cell? ⟨sb, so + k * 7 + 6, none⟩ = some (.int .i64 Yk.p.zones) by
              have h := hcellS W (hW.block sb hsb)
              exact ⟨h 0 _ rfl, h 1 _ rfl, h 2 _ rfl, h 3 _ rfl, h 4 _ rfl, h 5 _ rfl, h 6 _ rfl⟩)
            have HTN : Hid (∀ e ∈ ws.take k, e.now ≤ 1152921504606846976) := fun e he => HWN.out e (List.mem_of_mem_take he)
            have HLD := Lib.hid (lim AD14.out (by rw [HDP2.out]; exact ws_inv I4.out _) (by rw [HDP2.out]; exact ws_bd I4.out B4.out HTN.out (by rw [HTL.out]; have := HWL.out; have := HWLL.out; omega)))
            have HSM2 := fun W (hW : Below w14.heap.size w14 W) => Lib.hid (same_any (AD14.out.below hW) ((AY14.out Yk HYM.out).below hW) HYP.out HLD.out.1 HLD.out.2.1 HLD.out.2.2)
            have hk0 : (0 : Int) ≤ (k : Int) := by omega
            have hke : (k : Int) < (el : Int) := by have := HEL.out; have := HWLL.out; omega
            clear hyk hcellS
            go_upto_region 29 with fail
            refine wp_region_held_drew (S := fun W => (W.cell? ⟨gd, 0, none⟩ = some (.int .i64 D2.p.t.last) ∧ W.cell? ⟨gd, 1, none⟩ = some (.int .i64 D2.p.t.now) ∧ W.cell? ⟨gd, 2, none⟩ = some (.slice D2.A D2.n D2.a) ∧ W.cell? ⟨gd, 3, none⟩ = some (.slice D2.S D2.m D2.s) ∧ W.cell? ⟨gd, 4, none⟩ = some (.slice D2.W D2.q D2.k) ∧ W.cell? ⟨gd, 5, none⟩ = some (.int .i64 D2.p.ttl) ∧ W.cell? ⟨gd, 6, none⟩ = some (.int .i64 D2.p.zones)) ∧ (W.cell? ⟨sb, so + k * 7, none⟩ = some (.int .i64 Yk.p.t.last) ∧ W.cell? ⟨sb, so + k * 7 + 1, none⟩ = some (.int .i64 Yk.p.t.now) ∧ W.cell? ⟨sb, so + k * 7 + 2, none⟩ = some (.slice Yk.A Yk.n Yk.a) ∧ W.cell? ⟨sb, so + k * 7 + 3, none⟩ = some (.slice Yk.S Yk.m Yk.s) ∧ W.cell? ⟨sb, so + k * 7 + 4, none⟩ = some (.slice Yk.W Yk.q Yk.k) ∧ W.cell? ⟨sb, so + k * 7 + 5, none⟩ = some (.int .i64 Yk.p.ttl) ∧ W.cell? ⟨sb, so + k * 7 + 6, none⟩ = some (.int .i64 Yk.p.zones))) (by kernel_rfl) (HS2 _ ((Below.refl _ w14).drew)) (fun hHeld => ?_)
            have BW : Hid (Below w14.heap.size w14 w14.drew) := (Below.refl _ w14).drew
            generalize w14.drew = w15 at *
            (first | (refine Reg.take 0 (v := ?_) rfl (by kernel_rfl) (by kernel_rfl) (by kernel_rfl) (fun _ _ _ h => h) (Or.inl ⟨by rfl, ?_⟩) (by assumption) ?_; rotate_left; (focus ((intro W hSW); (try dsimp only at hSW); (try go_split_ands); go_simp; (try (with_reducible rfl)); done))) | (refine Reg.take 0 (v := undef) rfl (by kernel_rfl) (by kernel_rfl) (by kernel_rfl) (fun _ _ _ h => h) (Or.inr ⟨by rfl, rfl⟩) (by assumption) ?_))
            (try simp only [Act.put, List.setIfInBounds_toArray, List.set_cons_zero, List.set_cons_succ])
            (first | (refine Reg.take 1 (v := ?_) rfl (by kernel_rfl) (by kernel_rfl) (by kernel_rfl) (fun _ _ _ h => h) (Or.inl ⟨by rfl, ?_⟩) (by assumption) ?_; rotate_left; (focus ((intro W hSW); (try dsimp only at hSW); (try go_split_ands); go_simp; (try (with_reducible rfl)); done))) | (refine Reg.take 1 (v := undef) rfl (by kernel_rfl) (by kernel_rfl) (by kernel_rfl) (fun _ _ _ h => h) (Or.inr ⟨by rfl, rfl⟩) (by assumption) ?_))
            (try simp only [Act.put, List.setIfInBounds_toArray, List.set_cons_zero, List.set_cons_succ])
            (first | (refine Reg.take 2 (v := ?_) rfl (by kernel_rfl) (by kernel_rfl) (by kernel_rfl) (fun _ _ _ h => h) (Or.inl ⟨by rfl, ?_⟩) (by assumption) ?_; rotate_left; (focus ((intro W hSW); (try dsimp only at hSW); (try go_split_ands); go_simp; (try (with_reducible rfl)); done))) | (refine Reg.take 2 (v := undef) rfl (by kernel_rfl) (by kernel_rfl) (by kernel_rfl) (fun _ _ _ h => h) (Or.inr ⟨by rfl, rfl⟩) (by assumption) ?_))
            (try simp only [Act.put, List.setIfInBounds_toArray, List.set_cons_zero, List.set_cons_succ])
            (first | (refine Reg.take 3 (v := ?_) rfl (by kernel_rfl) (by kernel_rfl) (by kernel_rfl) (fun _ _ _ h => h) (Or.inl ⟨by rfl, ?_⟩) (by assumption) ?_; rotate_left; (focus ((intro W hSW); (try dsimp only at hSW); (try go_split_ands); go_simp; (try (with_reducible rfl)); done))) | (refine Reg.take 3 (v := undef) rfl (by kernel_rfl) (by kernel_rfl) (by kernel_rfl) (fun _ _ _ h => h) (Or.inr ⟨by rfl, rfl⟩) (by assumption) ?_))
            (try simp only [Act.put, List.setIfInBounds_toArray, List.set_cons_zero, List.set_cons_succ])
            (first | (refine Reg.take 4 (v := ?_) rfl (by kernel_rfl) (by kernel_rfl) (by kernel_rfl) (fun _ _ _ h => h) (Or.inl ⟨by rfl, ?_⟩) (by assumption) ?_; rotate_left; (focus ((intro W hSW); (try dsimp only at hSW); (try go_split_ands); go_simp; (try (with_reducible rfl)); done))) | (refine Reg.take 4 (v := undef) rfl (by kernel_rfl) (by kernel_rfl) (by kernel_rfl) (fun _ _ _ h => h) (Or.inr ⟨by rfl, rfl⟩) (by assumption) ?_))
            (try simp only [Act.put, List.setIfInBounds_toArray, List.set_cons_zero, List.set_cons_succ])
            (first | (refine Reg.take 5 (v := ?_) rfl (by kernel_rfl) (by kernel_rfl) (by kernel_rfl) (fun _ _ _ h => h) (Or.inl ⟨by rfl, ?_⟩) (by assumption) ?_; rotate_left; (focus ((intro W hSW); (try dsimp only at hSW); (try go_split_ands); go_simp; (try (with_reducible rfl)); done))) | (refine Reg.take 5 (v := undef) rfl (by kernel_rfl) (by kernel_rfl) (by kernel_rfl) (fun _ _ _ h => h) (Or.inr ⟨by rfl, rfl⟩) (by assumption) ?_))
            (try simp only [Act.put, List.setIfInBounds_toArray, List.set_cons_zero, List.set_cons_succ])
            (first | (refine Reg.take 6 (v := ?_) rfl (by kernel_rfl) (by kernel_rfl) (by kernel_rfl) (fun _ _ _ h => h) (Or.inl ⟨by rfl, ?_⟩) (by assumption) ?_; rotate_left; (focus ((intro W hSW); (try dsimp only at hSW); (try go_split_ands); go_simp; (try (with_reducible rfl)); done))) | (refine Reg.take 6 (v := undef) rfl (by kernel_rfl) (by kernel_rfl) (by kernel_rfl) (fun _ _ _ h => h) (Or.inr ⟨by rfl, rfl⟩) (by assumption) ?_))
            (try simp only [Act.put, List.setIfInBounds_toArray, List.set_cons_zero, List.set_cons_succ])
            (first | (refine Reg.take 7 (v := ?_) rfl (by kernel_rfl) (by kernel_rfl) (by kernel_rfl) (fun _ _ _ h => h) (Or.inl ⟨by rfl, ?_⟩) (by assumption) ?_; rotate_left; (focus ((intro W hSW); (try dsimp only at hSW); (try go_split_ands); go_simp; (try (with_reducible rfl)); done))) | (refine Reg.take 7 (v := undef) rfl (by kernel_rfl) (by kernel_rfl) (by kernel_rfl) (fun _ _ _ h => h) (Or.inr ⟨by rfl, rfl⟩) (by assumption) ?_))
            (try simp only [Act.put, List.setIfInBounds_toArray, List.set_cons_zero, List.set_cons_succ])
            (first | (refine Reg.take 8 (v := ?_) rfl (by kernel_rfl) (by kernel_rfl) (by kernel_rfl) (fun _ _ _ h => h) (Or.inl ⟨by rfl, ?_⟩) (by assumption) ?_; rotate_left; (focus ((intro W hSW); (try dsimp only at hSW); (try go_split_ands); go_simp; (try (with_reducible rfl)); done))) | (refine Reg.take 8 (v := undef) rfl (by kernel_rfl) (by kernel_rfl) (by kernel_rfl) (fun _ _ _ h => h) (Or.inr ⟨by rfl, rfl⟩) (by assumption) ?_))
            (try simp only [Act.put, List.setIfInBounds_toArray, List.set_cons_zero, List.set_cons_succ])
            (first | (refine Reg.take 9 (v := ?_) rfl (by kernel_rfl) (by kernel_rfl) (by kernel_rfl) (fun _ _ _ h => h) (Or.inl ⟨by rfl, ?_⟩) (by assumption) ?_; rotate_left; (focus ((intro W hSW); (try dsimp only at hSW); (try go_split_ands); go_simp; (try (with_reducible rfl)); done))) | (refine Reg.take 9 (v := undef) rfl (by kernel_rfl) (by kernel_rfl) (by kernel_rfl) (fun _ _ _ h => h) (Or.inr ⟨by rfl, rfl⟩) (by assumption) ?_))
            (try simp only [Act.put, List.setIfInBounds_toArray, List.set_cons_zero, List.set_cons_succ])
            (first | (refine Reg.take 10 (v := ?_) rfl (by kernel_rfl) (by kernel_rfl) (by kernel_rfl) (fun _ _ _ h => h) (Or.inl ⟨by rfl, ?_⟩) (by assumption) ?_; rotate_left; (focus ((intro W hSW); (try dsimp only at hSW); (try go_split_ands); go_simp; (try (with_reducible rfl)); done))) | (refine Reg.take 10 (v := undef) rfl (by kernel_rfl) (by kernel_rfl) (by kernel_rfl) (fun _ _ _ h => h) (Or.inr ⟨by rfl, rfl⟩) (by assumption) ?_))
            (try simp only [Act.put, List.setIfInBounds_toArray, List.set_cons_zero, List.set_cons_succ])
            (first | (refine Reg.take 11 (v := ?_) rfl (by kernel_rfl) (by kernel_rfl) (by kernel_rfl) (fun _ _ _ h => h) (Or.inl ⟨by rfl, ?_⟩) (by assumption) ?_; rotate_left; (focus ((intro W hSW); (try dsimp only at hSW); (try go_split_ands); go_simp; (try (with_reducible rfl)); done))) | (refine Reg.take 11 (v := undef) rfl (by kernel_rfl) (by kernel_rfl) (by kernel_rfl) (fun _ _ _ h => h) (Or.inr ⟨by rfl, rfl⟩) (by assumption) ?_))
            (try simp only [Act.put, List.setIfInBounds_toArray, List.set_cons_zero, List.set_cons_succ])
            refine Reg.step 12 rfl (by kernel_rfl) (by rfl) (fun K hK => ?_)
            go_simp
            refine (HSM2 w15 BW.out).out.mono ?_
            rintro e' w16 ⟨rfl, hb⟩
            have BX16 := Lib.hid (BW.out.trans (hb.mono BW.out.size))
            have L16 := Lib.hid (L14.out.trans (BX16.out.mono L14.out.size))
            clear hb
            refine hK.out _ _ (HS2 _ BX16.out) (fun hHeld2 => ?_)
            clear hK K
            (try simp only [Act.put, List.setIfInBounds_toArray, List.set_cons_zero, List.set_cons_succ])
            (first | (refine Reg.take 13 (v := ?_) rfl (by kernel_rfl) (by kernel_rfl) (by kernel_rfl) (fun _ _ _ h => h) (Or.inl ⟨by rfl, ?_⟩) (by assumption) ?_; rotate_left; (focus ((intro W hSW); (try dsimp only at hSW); (try go_split_ands); go_simp; (try (with_reducible rfl)); done))) | (refine Reg.take 13 (v := undef) rfl (by kernel_rfl) (by kernel_rfl) (by kernel_rfl) (fun _ _ _ h => h) (Or.inr ⟨by rfl, rfl⟩) (by assumption) ?_))
            (try simp only [Act.put, List.setIfInBounds_toArray, List.set_cons_zero, List.set_cons_succ])
            (first | (refine Reg.take 14 (v := ?_) rfl (by kernel_rfl) (by kernel_rfl) (by kernel_rfl) (fun _ _ _ h => h) (Or.inl ⟨by rfl, ?_⟩) (by assumption) ?_; rotate_left; (focus ((intro W hSW); (try dsimp only at hSW); (try go_split_ands); go_simp; (try (with_reducible rfl)); done))) | (refine Reg.take 14 (v := undef) rfl (by kernel_rfl) (by kernel_rfl) (by kernel_rfl) (fun _ _ _ h => h) (Or.inr ⟨by rfl, rfl⟩) (by assumption) ?_))
            (try simp only [Act.put, List.setIfInBounds_toArray, List.set_cons_zero, List.set_cons_succ])
            refine wpAnyH_done (by kernel_rfl) ?_ _
            clear hHeld hHeld2
            go_wp2_with fail
            go_ret
            exact ⟨rfl, L16.out⟩
          · have HNX : Hid (endE ws q ≤ cj) := by have := of_decide_eq_true f1; show _ ≤ _; omega
            go_wp2_with fail
            go_round
            case rel => exact ⟨q, rfl, by have := HQ.out; omega, HNX.out⟩
            case measure => simp [intOf]; have := HQ.out; omega
        · have hkw : k = wl := by omega
          have HCUT : Hid (k < ws.length → cj < endE ws (k + 1)) := by
            show _ → _
            intro h
            rw [HWLL.out] at h
            omega
          have hqe : ¬ (q : Int) < (el : Int) := by have := HEL.out; have := HWLL.out; omega
          have hqe2 : decide ((q : Int) < (el : Int)) = false := decide_eq_false hqe
          have hqe3 : decide (q < el) = false := decide_eq_false (by omega)
          clear hq hkw
          obtain ⟨rest, ht1, ht2⟩ := tape_cut (fun e he => (HWI.out e he).2) (k := k) (by rw [HWLL.out]; exact hk) hK.out HCUT.out (by rw [TLB.out.2]; exact hcj)
          have TK := Lib.hid (show Row cb w11 T cj tc (tapeE (ws.take k) ++ rest) by rw [← ht1]; exact TR11.out.head hcj)
          have HRS := Lib.hid ht2
          have HTL : Hid ((ws.take k).length = k) := by show _ = _; rw [List.length_take, HWLL.out]; omega
          have hcjc : cj ≤ tc := by have := TR11.out.cap; omega
          have hsl := fun w => run_head T tl tc cj hcjc w
          have HR2 := fun W (h : CoordAt W x) (hb : Row cb W T cj tc (tapeE (ws.take k) ++ rest)) => Lib.hid (replay_any h hb HRS.out (fun e he => HWI.out e (List.mem_of_mem_take he)) (fun e he => HWN.out e (List.mem_of_mem_take he)) I4.out B4.out (by rw [HTL.out]; have := HWL.out; have := HWLL.out; omega) (by have := TLB.out.1; omega))
          rw [HTL.out] at HR2
          clear ht1 ht2
          obtain ⟨m0, m1, m2, m3, m4, m5, m6⟩ := seven FB11.out
          go_upto_region 28 with fail
          refine wp_region_held_drew (S := fun W => W.cell? ⟨gf, 0, none⟩ = some (.int .i64 x.p.t.last) ∧ W.cell? ⟨gf, 1, none⟩ = some (.int .i64 x.p.t.now) ∧ W.cell? ⟨gf, 2, none⟩ = some (.slice x.A x.n x.a) ∧ W.cell? ⟨gf, 3, none⟩ = some (.slice x.S x.m x.s) ∧ W.cell? ⟨gf, 4, none⟩ = some (.slice x.W x.q x.k) ∧ W.cell? ⟨gf, 5, none⟩ = some (.int .i64 x.p.ttl) ∧ W.cell? ⟨gf, 6, none⟩ = some (.int .i64 x.p.zones)) (by kernel_rfl) (seven FB11.out) (fun hHeld => ?_)
          have hb : Below w11.heap.size w11 w11.drew := (Below.refl _ w11).drew
          have L12 := Lib.hid (L11.out.trans (hb.mono L11.out.size))
          have SR12 := Lib.hid (RowS.below SR11.out hb)
          have AY12 : Hid (∀ y ∈ ys, CoordAt w11.drew y) := fun y hy => (AY11.out y hy).below hb
          have FB12 := Lib.hid (Lea.Cells.below FB11.out hb)
          have DB12 := Lib.hid (Lea.Cells.below DB11.out hb)
          have TK12 := Lib.hid (TK.out.below hb)
          clear hb m0 m1 m2 m3 m4 m5 m6
          generalize w11.drew = w12 at *
          (first | (refine Reg.take 0 (v := ?_) rfl (by kernel_rfl) (by kernel_rfl) (by kernel_rfl) (fun _ _ _ h => h) (Or.inl ⟨by rfl, ?_⟩) (by assumption) ?_; rotate_left; (focus ((intro W hSW); (try dsimp only at hSW); (try go_split_ands); go_simp; (try (with_reducible rfl)); done))) | (refine Reg.take 0 (v := undef) rfl (by kernel_rfl) (by kernel_rfl) (by kernel_rfl) (fun _ _ _ h => h) (Or.inr ⟨by rfl, rfl⟩) (by assumption) ?_))
          (try simp only [Act.put, List.setIfInBounds_toArray, List.set_cons_zero, List.set_cons_succ])
          (first | (refine Reg.take 1 (v := ?_) rfl (by kernel_rfl) (by kernel_rfl) (by kernel_rfl) (fun _ _ _ h => h) (Or.inl ⟨by rfl, ?_⟩) (by assumption) ?_; rotate_left; (focus ((intro W hSW); (try dsimp only at hSW); (try go_split_ands); go_simp; (try (with_reducible rfl)); done))) | (refine Reg.take 1 (v := undef) rfl (by kernel_rfl) (by kernel_rfl) (by kernel_rfl) (fun _ _ _ h => h) (Or.inr ⟨by rfl, rfl⟩) (by assumption) ?_))
          (try simp only [Act.put, List.setIfInBounds_toArray, List.set_cons_zero, List.set_cons_succ])
          (first | (refine Reg.take 2 (v := ?_) rfl (by kernel_rfl) (by kernel_rfl) (by kernel_rfl) (fun _ _ _ h => h) (Or.inl ⟨by rfl, ?_⟩) (by assumption) ?_; rotate_left; (focus ((intro W hSW); (try dsimp only at hSW); (try go_split_ands); go_simp; (try (with_reducible rfl)); done))) | (refine Reg.take 2 (v := undef) rfl (by kernel_rfl) (by kernel_rfl) (by kernel_rfl) (fun _ _ _ h => h) (Or.inr ⟨by rfl, rfl⟩) (by assumption) ?_))
          (try simp only [Act.put, List.setIfInBounds_toArray, List.set_cons_zero, List.set_cons_succ])
          (first | (refine Reg.take 3 (v := ?_) rfl (by kernel_rfl) (by kernel_rfl) (by kernel_rfl) (fun _ _ _ h => h) (Or.inl ⟨by rfl, ?_⟩) (by assumption) ?_; rotate_left; (focus ((intro W hSW); (try dsimp only at hSW); (try go_split_ands); go_simp; (try (with_reducible rfl)); done))) | (refine Reg.take 3 (v := undef) rfl (by kernel_rfl) (by kernel_rfl) (by kernel_rfl) (fun _ _ _ h => h) (Or.inr ⟨by rfl, rfl⟩) (by assumption) ?_))
          (try simp only [Act.put, List.setIfInBounds_toArray, List.set_cons_zero, List.set_cons_succ])
          refine Reg.step 4 rfl (by kernel_rfl) (by rfl) (fun K hK => ?_)
          go_simp
          refine (HR2 w12 (AY12.out x HXM.out) TK12.out).out.mono ?_
          rintro e' w13 ⟨D2, rfl, hdp, hda, hb⟩
          have L13 := Lib.hid (L12.out.trans (hb.mono L12.out.size))
          have SR13 := Lib.hid (RowS.below SR12.out hb)
          have AY13 : Hid (∀ y ∈ ys, CoordAt w13 y) := fun y hy => (AY12.out y hy).below hb
          have FB13 := Lib.hid (Lea.Cells.below FB12.out hb)
          have DB13 := Lib.hid (Lea.Cells.below DB12.out hb)
          have HDP2 := Lib.hid hdp
          have AD13 := Lib.hid hda
          clear hb hdp hda
          refine hK.out _ _ (seven FB13.out) (fun hHeld2 => ?_)
          clear hK K
          (try simp only [Act.put, List.setIfInBounds_toArray, List.set_cons_zero, List.set_cons_succ])
          (first | (refine Reg.take 5 (v := ?_) rfl (by kernel_rfl) (by kernel_rfl) (by kernel_rfl) (fun _ _ _ h => h) (Or.inl ⟨by rfl, ?_⟩) (by assumption) ?_; rotate_left; (focus ((intro W hSW); (try dsimp only at hSW); (try go_split_ands); go_simp; (try (with_reducible rfl)); done))) | (refine Reg.take 5 (v := undef) rfl (by kernel_rfl) (by kernel_rfl) (by kernel_rfl) (fun _ _ _ h => h) (Or.inr ⟨by rfl, rfl⟩) (by assumption) ?_))
          (try simp only [Act.put, List.setIfInBounds_toArray, List.set_cons_zero, List.set_cons_succ])
          (first | (refine Reg.take 6 (v := ?_) rfl (by kernel_rfl) (by kernel_rfl) (by kernel_rfl) (fun _ _ _ h => h) (Or.inl ⟨by rfl, ?_⟩) (by assumption) ?_; rotate_left; (focus ((intro W hSW); (try dsimp only at hSW); (try go_split_ands); go_simp; (try (with_reducible rfl)); done))) | (refine Reg.take 6 (v := undef) rfl (by kernel_rfl) (by kernel_rfl) (by kernel_rfl) (fun _ _ _ h => h) (Or.inr ⟨by rfl, rfl⟩) (by assumption) ?_))
          (try simp only [Act.put, List.setIfInBounds_toArray, List.set_cons_zero, List.set_cons_succ])
          (first | (refine Reg.take 7 (v := ?_) rfl (by kernel_rfl) (by kernel_rfl) (by kernel_rfl) (fun _ _ _ h => h) (Or.inl ⟨by rfl, ?_⟩) (by assumption) ?_; rotate_left; (focus ((intro W hSW); (try dsimp only at hSW); (try go_split_ands); go_simp; (try (with_reducible rfl)); done))) | (refine Reg.take 7 (v := undef) rfl (by kernel_rfl) (by kernel_rfl) (by kernel_rfl) (fun _ _ _ h => h) (Or.inr ⟨by rfl, rfl⟩) (by assumption) ?_))
          (try simp only [Act.put, List.setIfInBounds_toArray, List.set_cons_zero, List.set_cons_succ])
          refine Reg.step 8 rfl (by kernel_rfl) (by rfl) (fun K hK => ?_)
          obtain ⟨f0, f1, f2, f3, f4, f5, f6⟩ := seven_frozen DB13.out
          obtain ⟨y0, y1, y2, y3, y4, y5, y6⟩ := seven DB13.out
          go_simp
          have bt := but_set7 w13 gd (.int .i64 D2.p.t.last) (.int .i64 D2.p.t.now) (.slice D2.A D2.n D2.a) (.slice D2.S D2.m D2.s) (.slice D2.W D2.q D2.k) (.int .i64 D2.p.ttl) (.int .i64 D2.p.zones)
          have FB14 := Lib.hid (Lea.Cells.but FB13.out bt (by have := HGF.out; omega))
          have DB14 := Lib.hid (cells_set7 DB13.out (.int .i64 D2.p.t.last) (.int .i64 D2.p.t.now) (.slice D2.A D2.n D2.a) (.slice D2.S D2.m D2.s) (.slice D2.W D2.q D2.k) (.int .i64 D2.p.ttl) (.int .i64 D2.p.zones))
          have AD14 := Lib.hid (AD13.out.keepB bt.size fun k hk => bt.block (AD13.out.lt hk) (bl_ne DB13.out AD13.out hk))
          have AY14 : Hid (∀ y ∈ ys, CoordAt (((((((w13.setCell ⟨gd, 0, none⟩ (.int .i64 D2.p.t.last)).setCell ⟨gd, 1, none⟩ (.int .i64 D2.p.t.now)).setCell ⟨gd, 2, none⟩ (.slice D2.A D2.n D2.a)).setCell ⟨gd, 3, none⟩ (.slice D2.S D2.m D2.s)).setCell ⟨gd, 4, none⟩ (.slice D2.W D2.q D2.k)).setCell ⟨gd, 5, none⟩ (.int .i64 D2.p.ttl)).setCell ⟨gd, 6, none⟩ (.int .i64 D2.p.zones)) y) := fun y hy => (AY13.out y hy).keepB bt.size fun k hk => bt.block ((AY13.out y hy).lt hk) (by have := HYB.out y hy k hk; omega)
          have SR14 := Lib.hid (row_keep SR13.out bt.size fun k o h0 e => bt.block (row_lt SR13.out h0 e) (by have := HSB.out k o h0 e; omega))
          have L14 := Lib.hid (L13.out.trans (bt.below L13.out.size HGDW.out))
          refine hK.out _ _ (seven FB14.out) (fun hHeld3 => ?_)
          clear hK K
          (try simp only [Act.put, List.setIfInBounds_toArray, List.set_cons_zero, List.set_cons_succ])
          clear bt f0 f1 f2 f3 f4 f5 f6 y0 y1 y2 y3 y4 y5 y6
          generalize ((((((w13.setCell ⟨gd, 0, none⟩ (.int .i64 D2.p.t.last)).setCell ⟨gd, 1, none⟩ (.int .i64 D2.p.t.now)).setCell ⟨gd, 2, none⟩ (.slice D2.A D2.n D2.a)).setCell ⟨gd, 3, none⟩ (.slice D2.S D2.m D2.s)).setCell ⟨gd, 4, none⟩ (.slice D2.W D2.q D2.k)).setCell ⟨gd, 5, none⟩ (.int .i64 D2.p.ttl)).setCell ⟨gd, 6, none⟩ (.int .i64 D2.p.zones) = w14 at *
          (first | (refine Reg.take 9 (v := ?_) rfl (by kernel_rfl) (by kernel_rfl) (by kernel_rfl) (fun _ _ _ h => h) (Or.inl ⟨by rfl, ?_⟩) (by assumption) ?_; rotate_left; (focus ((intro W hSW); (try dsimp only at hSW); (try go_split_ands); go_simp; (try (with_reducible rfl)); done))) | (refine Reg.take 9 (v := undef) rfl (by kernel_rfl) (by kernel_rfl) (by kernel_rfl) (fun _ _ _ h => h) (Or.inr ⟨by rfl, rfl⟩) (by assumption) ?_))
          (try simp only [Act.put, List.setIfInBounds_toArray, List.set_cons_zero, List.set_cons_succ])
          refine wpAnyH_done (by kernel_rfl) ?_ _
          clear hHeld hHeld2 hHeld3
          obtain ⟨Yk, hyk⟩ : ∃ y, ys[k]? = some y := ⟨_, List.getElem?_eq_getElem (by have := HI.out.1; have := HWLL.out; omega)⟩
          have HYM := Lib.hid (List.mem_of_getElem? hyk)
          have HYP := Lib.hid ((HI.out.2 k Yk hyk).trans HDP2.out.symm)
          obtain ⟨sb, so, hS, hsb, hcellS⟩ := SR14.out.elem hyk
          subst hS
          have HS2 := fun W (hW : Below w14.heap.size w14 W) => And.intro (seven (Lea.Cells.below DB14.out hW)) (show W.cell? ⟨sb, so + k * 7, none⟩ = some (.int .i64 Yk.p.t.last) ∧ W.cell? ⟨sb, so + k * 7 + 1, none⟩ = some (.int .i64 Yk.p.t.now) ∧ W.cell? ⟨sb, so + k * 7 + 2, none⟩ = some (.slice Yk.A Yk.n Yk.a) ∧ W.cell? ⟨sb, so + k * 7 + 3, none⟩ = some (.slice Yk.S Yk.m Yk.s) ∧ W.cell? ⟨sb, so + k * 7 + 4, none⟩ = some (.slice Yk.W Yk.q Yk.k) ∧ W.cell? ⟨sb, so + k * 7 + 5, none⟩ = some (.int .i64 Yk.p.ttl) ∧ W.cell? ⟨sb, so + k * 7 + 6, none⟩ = some (.int .i64 Yk.p.zones) by
            have h := hcellS W (hW.block sb hsb)
            exact ⟨h 0 _ rfl, h 1 _ rfl, h 2 _ rfl, h 3 _ rfl, h 4 _ rfl, h 5 _ rfl, h 6 _ rfl⟩)
          have HTN : Hid (∀ e ∈ ws.take k, e.now ≤ 1152921504606846976) := fun e he => HWN.out e (List.mem_of_mem_take he)
          have HLD := Lib.hid (lim AD14.out (by rw [HDP2.out]; exact ws_inv I4.out _) (by rw [HDP2.out]; exact ws_bd I4.out B4.out HTN.out (by rw [HTL.out]; have := HWL.out; have := HWLL.out; omega)))
          have HSM2 := fun W (hW : Below w14.heap.size w14 W) => Lib.hid (same_any (AD14.out.below hW) ((AY14.out Yk HYM.out).below hW) HYP.out HLD.out.1 HLD.out.2.1 HLD.out.2.2)
          have hk0 : (0 : Int) ≤ (k : Int) := by omega
          have hke : (k : Int) < (el : Int) := by have := HEL.out; have := HWLL.out; omega
          clear hyk hcellS
          go_upto_region 29 with fail
          refine wp_region_held_drew (S := fun W => (W.cell? ⟨gd, 0, none⟩ = some (.int .i64 D2.p.t.last) ∧ W.cell? ⟨gd, 1, none⟩ = some (.int .i64 D2.p.t.now) ∧ W.cell? ⟨gd, 2, none⟩ = some (.slice D2.A D2.n D2.a) ∧ W.cell? ⟨gd, 3, none⟩ = some (.slice D2.S D2.m D2.s) ∧ W.cell? ⟨gd, 4, none⟩ = some (.slice D2.W D2.q D2.k) ∧ W.cell? ⟨gd, 5, none⟩ = some (.int .i64 D2.p.ttl) ∧ W.cell? ⟨gd, 6, none⟩ = some (.int .i64 D2.p.zones)) ∧ (W.cell? ⟨sb, so + k * 7, none⟩ = some (.int .i64 Yk.p.t.last) ∧ W.cell? ⟨sb, so + k * 7 + 1, none⟩ = some (.int .i64 Yk.p.t.now) ∧ W.cell? ⟨sb, so + k * 7 + 2, none⟩ = some (.slice Yk.A Yk.n Yk.a) ∧ W.cell? ⟨sb, so + k * 7 + 3, none⟩ = some (.slice Yk.S Yk.m Yk.s) ∧ W.cell? ⟨sb, so + k * 7 + 4, none⟩ = some (.slice Yk.W Yk.q Yk.k) ∧ W.cell? ⟨sb, so + k * 7 + 5, none⟩ = some (.int .i64 Yk.p.ttl) ∧ W.cell? ⟨sb, so + k * 7 + 6, none⟩ = some (.int .i64 Yk.p.zones))) (by kernel_rfl) (HS2 _ ((Below.refl _ w14).drew)) (fun hHeld => ?_)
          have BW : Hid (Below w14.heap.size w14 w14.drew) := (Below.refl _ w14).drew
          generalize w14.drew = w15 at *
          (first | (refine Reg.take 0 (v := ?_) rfl (by kernel_rfl) (by kernel_rfl) (by kernel_rfl) (fun _ _ _ h => h) (Or.inl ⟨by rfl, ?_⟩) (by assumption) ?_; rotate_left; (focus ((intro W hSW); (try dsimp only at hSW); (try go_split_ands); go_simp; (try (with_reducible rfl)); done))) | (refine Reg.take 0 (v := undef) rfl (by kernel_rfl) (by kernel_rfl) (by kernel_rfl) (fun _ _ _ h => h) (Or.inr ⟨by rfl, rfl⟩) (by assumption) ?_))
          (try simp only [Act.put, List.setIfInBounds_toArray, List.set_cons_zero, List.set_cons_succ])
          (first | (refine Reg.take 1 (v := ?_) rfl (by kernel_rfl) (by kernel_rfl) (by kernel_rfl) (fun _ _ _ h => h) (Or.inl ⟨by rfl, ?_⟩) (by assumption) ?_; rotate_left; (focus ((intro W hSW); (try dsimp only at hSW); (try go_split_ands); go_simp; (try (with_reducible rfl)); done))) | (refine Reg.take 1 (v := undef) rfl (by kernel_rfl) (by kernel_rfl) (by kernel_rfl) (fun _ _ _ h => h) (Or.inr ⟨by rfl, rfl⟩) (by assumption) ?_))
          (try simp only [Act.put, List.setIfInBounds_toArray, List.set_cons_zero, List.set_cons_succ])
          (first | (refine Reg.take 2 (v := ?_) rfl (by kernel_rfl) (by kernel_rfl) (by kernel_rfl) (fun _ _ _ h => h) (Or.inl ⟨by rfl, ?_⟩) (by assumption) ?_; rotate_left; (focus ((intro W hSW); (try dsimp only at hSW); (try go_split_ands); go_simp; (try (with_reducible rfl)); done))) | (refine Reg.take 2 (v := undef) rfl (by kernel_rfl) (by kernel_rfl) (by kernel_rfl) (fun _ _ _ h => h) (Or.inr ⟨by rfl, rfl⟩) (by assumption) ?_))
          (try simp only [Act.put, List.setIfInBounds_toArray, List.set_cons_zero, List.set_cons_succ])
          (first | (refine Reg.take 3 (v := ?_) rfl (by kernel_rfl) (by kernel_rfl) (by kernel_rfl) (fun _ _ _ h => h) (Or.inl ⟨by rfl, ?_⟩) (by assumption) ?_; rotate_left; (focus ((intro W hSW); (try dsimp only at hSW); (try go_split_ands); go_simp; (try (with_reducible rfl)); done))) | (refine Reg.take 3 (v := undef) rfl (by kernel_rfl) (by kernel_rfl) (by kernel_rfl) (fun _ _ _ h => h) (Or.inr ⟨by rfl, rfl⟩) (by assumption) ?_))
          (try simp only [Act.put, List.setIfInBounds_toArray, List.set_cons_zero, List.set_cons_succ])
          (first | (refine Reg.take 4 (v := ?_) rfl (by kernel_rfl) (by kernel_rfl) (by kernel_rfl) (fun _ _ _ h => h) (Or.inl ⟨by rfl, ?_⟩) (by assumption) ?_; rotate_left; (focus ((intro W hSW); (try dsimp only at hSW); (try go_split_ands); go_simp; (try (with_reducible rfl)); done))) | (refine Reg.take 4 (v := undef) rfl (by kernel_rfl) (by kernel_rfl) (by kernel_rfl) (fun _ _ _ h => h) (Or.inr ⟨by rfl, rfl⟩) (by assumption) ?_))
          (try simp only [Act.put, List.setIfInBounds_toArray, List.set_cons_zero, List.set_cons_succ])
          (first | (refine Reg.take 5 (v := ?_) rfl (by kernel_rfl) (by kernel_rfl) (by kernel_rfl) (fun _ _ _ h => h) (Or.inl ⟨by rfl, ?_⟩) (by assumption) ?_; rotate_left; (focus ((intro W hSW); (try dsimp only at hSW); (try go_split_ands); go_simp; (try (with_reducible rfl)); done))) | (refine Reg.take 5 (v := undef) rfl (by kernel_rfl) (by kernel_rfl) (by kernel_rfl) (fun _ _ _ h => h) (Or.inr ⟨by rfl, rfl⟩) (by assumption) ?_))
          (try simp only [Act.put, List.setIfInBounds_toArray, List.set_cons_zero, List.set_cons_succ])
          (first | (refine Reg.take 6 (v := ?_) rfl (by kernel_rfl) (by kernel_rfl) (by kernel_rfl) (fun _ _ _ h => h) (Or.inl ⟨by rfl, ?_⟩) (by assumption) ?_; rotate_left; (focus ((intro W hSW); (try dsimp only at hSW); (try go_split_ands); go_simp; (try (with_reducible rfl)); done))) | (refine Reg.take 6 (v := undef) rfl (by kernel_rfl) (by kernel_rfl) (by kernel_rfl) (fun _ _ _ h => h) (Or.inr ⟨by rfl, rfl⟩) (by assumption) ?_))
          (try simp only [Act.put, List.setIfInBounds_toArray, List.set_cons_zero, List.set_cons_succ])
          (first | (refine Reg.take 7 (v := ?_) rfl (by kernel_rfl) (by kernel_rfl) (by kernel_rfl) (fun _ _ _ h => h) (Or.inl ⟨by rfl, ?_⟩) (by assumption) ?_; rotate_left; (focus ((intro W hSW); (try dsimp only at hSW); (try go_split_ands); go_simp; (try (with_reducible rfl)); done))) | (refine Reg.take 7 (v := undef) rfl (by kernel_rfl) (by kernel_rfl) (by kernel_rfl) (fun _ _ _ h => h) (Or.inr ⟨by rfl, rfl⟩) (by assumption) ?_))
          (try simp only [Act.put, List.setIfInBounds_toArray, List.set_cons_zero, List.set_cons_succ])
          (first | (refine Reg.take 8 (v := ?_) rfl (by kernel_rfl) (by kernel_rfl) (by kernel_rfl) (fun _ _ _ h => h) (Or.inl ⟨by rfl, ?_⟩) (by assumption) ?_; rotate_left; (focus ((intro W hSW); (try dsimp only at hSW); (try go_split_ands); go_simp; (try (with_reducible rfl)); done))) | (refine Reg.take 8 (v := undef) rfl (by kernel_rfl) (by kernel_rfl) (by kernel_rfl) (fun _ _ _ h => h) (Or.inr ⟨by rfl, rfl⟩) (by assumption) ?_))
          (try simp only [Act.put, List.setIfInBounds_toArray, List.set_cons_zero, List.set_cons_succ])
          (first | (refine Reg.take 9 (v := ?_) rfl (by kernel_rfl) (by kernel_rfl) (by kernel_rfl) (fun _ _ _ h => h) (Or.inl ⟨by rfl, ?_⟩) (by assumption) ?_; rotate_left; (focus ((intro W hSW); (try dsimp only at hSW); (try go_split_ands); go_simp; (try (with_reducible rfl)); done))) | (refine Reg.take 9 (v := undef) rfl (by kernel_rfl) (by kernel_rfl) (by kernel_rfl) (fun _ _ _ h => h) (Or.inr ⟨by rfl, rfl⟩) (by assumption) ?_))
          (try simp only [Act.put, List.setIfInBounds_toArray, List.set_cons_zero, List.set_cons_succ])
          (first | (refine Reg.take 10 (v := ?_) rfl (by kernel_rfl) (by kernel_rfl) (by kernel_rfl) (fun _ _ _ h => h) (Or.inl ⟨by rfl, ?_⟩) (by assumption) ?_; rotate_left; (focus ((intro W hSW); (try dsimp only at hSW); (try go_split_ands); go_simp; (try (with_reducible rfl)); done))) | (refine Reg.take 10 (v := undef) rfl (by kernel_rfl) (by kernel_rfl) (by kernel_rfl) (fun _ _ _ h => h) (Or.inr ⟨by rfl, rfl⟩) (by assumption) ?_))
          (try simp only [Act.put, List.setIfInBounds_toArray, List.set_cons_zero, List.set_cons_succ])
          (first | (refine Reg.take 11 (v := ?_) rfl (by kernel_rfl) (by kernel_rfl) (by kernel_rfl) (fun _ _ _ h => h) (Or.inl ⟨by rfl, ?_⟩) (by assumption) ?_; rotate_left; (focus ((intro W hSW); (try dsimp only at hSW); (try go_split_ands); go_simp; (try (with_reducible rfl)); done))) | (refine Reg.take 11 (v := undef) rfl (by kernel_rfl) (by kernel_rfl) (by kernel_rfl) (fun _ _ _ h => h) (Or.inr ⟨by rfl, rfl⟩) (by assumption) ?_))
          (try simp only [Act.put, List.setIfInBounds_toArray, List.set_cons_zero, List.set_cons_succ])
          refine Reg.step 12 rfl (by kernel_rfl) (by rfl) (fun K hK => ?_)
          go_simp
          refine (HSM2 w15 BW.out).out.mono ?_
          rintro e' w16 ⟨rfl, hb⟩
          have BX16 := Lib.hid (BW.out.trans (hb.mono BW.out.size))
          have L16 := Lib.hid (L14.out.trans (BX16.out.mono L14.out.size))
          clear hb
          refine hK.out _ _ (HS2 _ BX16.out) (fun hHeld2 => ?_)
          clear hK K
          (try simp only [Act.put, List.setIfInBounds_toArray, List.set_cons_zero, List.set_cons_succ])
          (first | (refine Reg.take 13 (v := ?_) rfl (by kernel_rfl) (by kernel_rfl) (by kernel_rfl) (fun _ _ _ h => h) (Or.inl ⟨by rfl, ?_⟩) (by assumption) ?_; rotate_left; (focus ((intro W hSW); (try dsimp only at hSW); (try go_split_ands); go_simp; (try (with_reducible rfl)); done))) | (refine Reg.take 13 (v := undef) rfl (by kernel_rfl) (by kernel_rfl) (by kernel_rfl) (fun _ _ _ h => h) (Or.inr ⟨by rfl, rfl⟩) (by assumption) ?_))
          (try simp only [Act.put, List.setIfInBounds_toArray, List.set_cons_zero, List.set_cons_succ])
          (first | (refine Reg.take 14 (v := ?_) rfl (by kernel_rfl) (by kernel_rfl) (by kernel_rfl) (fun _ _ _ h => h) (Or.inl ⟨by rfl, ?_⟩) (by assumption) ?_; rotate_left; (focus ((intro W hSW); (try dsimp only at hSW); (try go_split_ands); go_simp; (try (with_reducible rfl)); done))) | (refine Reg.take 14 (v := undef) rfl (by kernel_rfl) (by kernel_rfl) (by kernel_rfl) (fun _ _ _ h => h) (Or.inr ⟨by rfl, rfl⟩) (by assumption) ?_))
          (try simp only [Act.put, List.setIfInBounds_toArray, List.set_cons_zero, List.set_cons_succ])
          refine wpAnyH_done (by kernel_rfl) ?_ _
          clear hHeld hHeld2
          go_wp2_with fail
          go_ret
          exact ⟨rfl, L16.out⟩
end Coo
end Go.Proofs.YtmflngclncidjaaGreat
