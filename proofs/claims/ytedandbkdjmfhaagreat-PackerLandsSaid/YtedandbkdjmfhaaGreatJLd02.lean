/-
  SEVERAL TEXTS IN ONE FILE: PkLands.
-/
import Derived.Test.YtedandbkdjmfhaaGreatJ23
import Derived.Test.YtedandbkdjmfhaaGreatJ22
import Derived.Test.YtedandbkdjmfhaaGreatJLd01
set_option linter.unusedSimpArgs false
set_option linter.unusedVariables false
/-
  THE STATEMENT PackerLands: its walk.
-/
namespace Go.Proofs.YtedandbkdjmfhaaGreat
open Go.RowKit Mem Zns Box
namespace Pk
open Seg (Hdr Rc Rv cellsOf cellsOf_len RowR hdV recV fits nums hnums nn goods frame headX recX frames check recB headB)
set_option maxRecDepth 100000 in
set_option maxHeartbeats 51200000 in
theorem lands_walk (h : Hdr) {A : Option Addr} {n c : Nat} {bs : List Bt} {w : World} (hr : Row btv w A n c bs ∧ ∀ b ∈ bs, BtAt w b) (z : Int) (hf : fits (hnums h)) :
    Calls Tryz.prog 3 #[hdV h, .slice A n c, .int .i64 z] w fun e w' => e = .returned (.bool true) ∧ Below w.heap.size w w' := by
  have HR := Lib.hid hr.1
  have HBT := Lib.hid hr.2
  have HF := Lib.hid hf
  have HLV := fun w => Lib.hid (live_any w)
  have hnbig := hr.1.big
  clear hr
  obtain ⟨r1, j1, a1, a2, a3, a4, a5, a6⟩ : ∃ (r : Int) (j : Nat), Int.tmod z 3000 = r ∧ -3000 < r ∧ r < 3000 ∧ Int.tmod (r + 3000) 3000 = j ∧ (r + 3000) % 3000 = j ∧ j < 3000 := Cut.cut_at z 3000 (by omega)
  obtain ⟨M, hM⟩ : ∃ M : Int, M = 40 + (j1 : Int) := ⟨_, rfl⟩
  have HM1 : Hid (1 ≤ M ∧ M ≤ 65536) := ⟨by omega, by omega⟩
  have HME := Lib.hid hM
  have HNW := fun w => Lib.hid (new_2 (w := w) HM1.out.1 HM1.out.2)
  have HBG := fun w => Lib.hid (begin_any (h := h) (zone := 1) (most := M) (w := w) hf)
  have HBC := Lib.hid (begin_cases h 1 M)
  generalize beginP h 1 M = bp at *
  unfold hdV at HBG
  clear hf
  have L1 : Hid (Below w.heap.size w (w.alloc (.cells #[.int .i64 h.host, .int .i64 h.epoch, .int .i64 h.seq] 23))) := (Below.refl _ w).alloc (Nat.le_refl _) _
  have X1 : Hid (Cells (w.alloc (.cells #[.int .i64 h.host, .int .i64 h.epoch, .int .i64 h.seq] 23)) w.heap.size 23 #[.int .i64 h.host, .int .i64 h.epoch, .int .i64 h.seq]) := Cells.new _ _ _
  unfold hdV
  go_enter Tryz.func3, Tryz.ntmps3
  go_upto_region 1 with fail
  generalize w.alloc (.cells #[.int .i64 h.host, .int .i64 h.epoch, .int .i64 h.seq] 23) = w1 at *
  go_upto_region 2 with (go_at_call 4; refine (HLV w1).out.mono ?_; rintro e w2 ⟨rfl, hb⟩; have L2 := Lib.hid (L1.out.trans (hb.mono L1.out.size)); have X2 := Lib.hid (Cells.below X1.out hb); clear hb L1 X1 HLV)
  by_cases h30 : 30 < n
  · have hd : decide ((30 : Int) < (n : Int)) = true := decide_eq_true (by omega)
    clear h30
    go_wp2_with fail
    go_ret
    exact ⟨rfl, L2.out⟩
  have hd : decide ((30 : Int) < (n : Int)) = false := decide_eq_false (by omega)
  have HN30 : Hid (n ≤ 30) := by show _ ≤ _; omega
  clear h30
  go_upto_region 4 with fail
  clear hd
  go_upto_region 5 with fail
  rw [← hM]
  clear hM a1 a2 a3 a4 a5 a6
  go_upto_region 6 with (go_at_call 5; refine (HNW w2).out.mono ?_; rintro e w3 ⟨X0, rfl, hd, hp, hn, hb⟩; have L3 := Lib.hid (L2.out.trans (hb.mono L2.out.size)); have X3 := Lib.hid (Cells.below X2.out hb); have V3 := Lib.hid hd; have HX0 := Lib.hid hp; have HN0 := Lib.hid hn; clear hb hd hp hn HNW L2 X2)
  have BB : Below w3.heap.size w3 (w3.alloc (.cells #[.int .i64 X0.cap, .int .i64 X0.op, .int .i64 X0.ac, .slice X0.A X0.n X0.c] 28)) := (Below.refl _ w3).alloc (Nat.le_refl _) _
  have D4 : Hid (Cells (w3.alloc (.cells #[.int .i64 X0.cap, .int .i64 X0.op, .int .i64 X0.ac, .slice X0.A X0.n X0.c] 28)) w3.heap.size 28 #[.int .i64 X0.cap, .int .i64 X0.op, .int .i64 X0.ac, .slice X0.A X0.n X0.c]) := Cells.new _ _ _
  have LX : Hid (w.heap.size < w3.heap.size) := Cells.lt X3.out
  have LW : Hid (w.heap.size ≤ w3.heap.size) := L3.out.size
  have L4 := Lib.hid (L3.out.trans (BB.mono L3.out.size))
  have X4 := Lib.hid (Cells.below X3.out BB)
  have V4 := Lib.hid (DevAt.below V3.out BB)
  clear L3 X3 V3 BB
  generalize w3.alloc (.cells #[.int .i64 X0.cap, .int .i64 X0.op, .int .i64 X0.ac, .slice X0.A X0.n X0.c] 28) = w4 at *
  generalize w3.heap.size = g8 at *
  have m0 := Cells.cell X4.out 0
  have m1 := Cells.cell X4.out 1
  have m2 := Cells.cell X4.out 2
  (try dsimp only at m0 m1 m2)
  rcases HBC.out with ⟨hnn, hmz, hle, rfl⟩ | rfl | rfl
  · go_upto_region 7 with (go_at_call 6; refine (HBG w4).out.mono ?_; rintro e w5 ⟨Y0, rfl, hp, hO, hb⟩; have L5 := Lib.hid (L4.out.trans (hb.mono L4.out.size)); have X5 := Lib.hid (Cells.below X4.out hb); have V5 := Lib.hid (DevAt.below V4.out hb); have D5 := Lib.hid (Cells.below D4.out hb); have Y5 := Lib.hid (hO.mono L4.out.size); have HP := Lib.hid hp; clear L4 X4 V4 D4 hb hO hp m0 m1 m2 HBG; unfold pxv)
    have BB : Below w5.heap.size w5 (w5.alloc (.cells #[.int .i64 Y0.p.h.host, .int .i64 Y0.p.h.epoch, .int .i64 Y0.p.h.seq, .int .i64 Y0.p.zone, .int .i64 Y0.p.cap, .int .i64 Y0.p.at_, .slice Y0.B Y0.p.buf.length Y0.bc, .slice Y0.L Y0.p.l.length Y0.lc] 35)) := (Below.refl _ w5).alloc (Nat.le_refl _) _
    have Q6 : Hid (Cells (w5.alloc (.cells #[.int .i64 Y0.p.h.host, .int .i64 Y0.p.h.epoch, .int .i64 Y0.p.h.seq, .int .i64 Y0.p.zone, .int .i64 Y0.p.cap, .int .i64 Y0.p.at_, .slice Y0.B Y0.p.buf.length Y0.bc, .slice Y0.L Y0.p.l.length Y0.lc] 35)) w5.heap.size 35 #[.int .i64 Y0.p.h.host, .int .i64 Y0.p.h.epoch, .int .i64 Y0.p.h.seq, .int .i64 Y0.p.zone, .int .i64 Y0.p.cap, .int .i64 Y0.p.at_, .slice Y0.B Y0.p.buf.length Y0.bc, .slice Y0.L Y0.p.l.length Y0.lc]) := Cells.new _ _ _
    have LD : Hid (g8 < w5.heap.size) := Cells.lt D5.out
    have LQ : Hid (w.heap.size ≤ w5.heap.size) := L5.out.size
    have L6 := Lib.hid (L5.out.trans (BB.mono L5.out.size))
    have X6 := Lib.hid (Cells.below X5.out BB)
    have V6 := Lib.hid (DevAt.below V5.out BB)
    have D6 := Lib.hid (Cells.below D5.out BB)
    have Y6 := Lib.hid (OwnP.below Y5.out BB)
    clear L5 X5 V5 D5 Y5 BB
    generalize w5.alloc (.cells #[.int .i64 Y0.p.h.host, .int .i64 Y0.p.h.epoch, .int .i64 Y0.p.h.seq, .int .i64 Y0.p.zone, .int .i64 Y0.p.cap, .int .i64 Y0.p.at_, .slice Y0.B Y0.p.buf.length Y0.bc, .slice Y0.L Y0.p.l.length Y0.lc] 35) = w6 at *
    generalize w5.heap.size = g10 at *
    clear HBC
    have hE0 : 0 ≤ h.epoch := hnn h.epoch (by simp [hnums])
    have HNN := Lib.hid hnn
    have HLE := Lib.hid hle
    have LB : Hid (g10 < w6.heap.size) := Cells.lt Q6.out
    clear hnn hmz hle LX
    go_upto_region 9 with fail
    rcases Int.lt_or_eq_of_le hE0 with hE | hE
    · have HDO := Lib.hid (do_fence (E := h.epoch) V6.out HX0.out HN0.out HM1.out.1 HM1.out.2 hE)
      have HE := Lib.hid hE
      clear hE hE0
      have q0 := Cells.cell X6.out 0
      have q1 := Cells.cell X6.out 1
      have q2 := Cells.cell X6.out 2
      have k0 := Cells.cell D6.out 0
      have k1 := Cells.cell D6.out 1
      have k2 := Cells.cell D6.out 2
      have k3 := Cells.cell D6.out 3
      (try dsimp only at q0 q1 q2 k0 k1 k2 k3)
      go_upto_region 10 with (go_at_call 7; refine HDO.out.mono ?_; rintro e w7 ⟨X1, B1, b1, rfl, hd, hp, hn, hrow, hfr, hb⟩; have L7 := Lib.hid (L6.out.trans (hb.mono L6.out.size)); have X7 := Lib.hid (Cells.below X6.out hb); have V7 := Lib.hid (DevAt.below V6.out hb); have D7 := Lib.hid (Cells.below D6.out hb); have Y7 := Lib.hid (OwnP.below Y6.out hb); have Q7 := Lib.hid (Cells.below Q6.out hb); have HX1 := Lib.hid hp; have HN1 := Lib.hid hn; have U7 := Lib.hid hd; have FR1 := Lib.hid hfr; clear hp hn hd hrow hfr; have bb : Below w7.heap.size w7 (w7.alloc (.cells #[.int .i64 0, .int .i64 0, .slice none 0 0] 39)) := (Below.refl _ w7).alloc (Nat.le_refl _) _; have D8 := Lib.hid (Cells.below D7.out bb); have bt := mov4 (w7.alloc (.cells #[.int .i64 0, .int .i64 0, .slice none 0 0] 39)) g8 (.int .i64 X1.cap) (.int .i64 X1.op) (.int .i64 X1.ac) (.slice X1.A X1.n X1.c); unfold set4W at bt; have cg := Chg.mov D8.out bt; have E8 := Lib.hid (cg.cells (Cells.new w7 #[.int .i64 0, .int .i64 0, .slice none 0 0] 39) (by decide)); have z0 := Cells.cell D8.out 0; have f0 := Cells.frozen D8.out 0; have z1 := Cells.cell D8.out 1; have f1 := Cells.frozen D8.out 1; have z2 := Cells.cell D8.out 2; have f2 := Cells.frozen D8.out 2; have z3 := Cells.cell D8.out 3; have f3 := Cells.frozen D8.out 3; have y0 := Cells.cell E8.out 0; have e0 := Cells.frozen E8.out 0; have y1 := Cells.cell E8.out 1; have e1 := Cells.frozen E8.out 1; have y2 := Cells.cell E8.out 2; have e2 := Cells.frozen E8.out 2; (try dsimp only at z0 z1 z2 z3 y0 y1 y2); clear L6 X6 V6 D6 Y6 Q6 hb q0 q1 q2 k0 k1 k2 k3 HDO)
      clear z0 f0 z1 f1 z2 f2 z3 f3 bt cg D8 E8 V7
      clear y0 e0 y1 e1 y2 e2
      have E8 : Hid (Cells (w7.alloc (.cells #[.int .i64 0, .int .i64 0, .slice none 0 0] 39)) w7.heap.size 39 #[.int .i64 0, .int .i64 0, .slice none 0 0]) := Cells.new _ _ _
      have HA12 : Hid (Apd X1 (some w7.heap.size)) := Lib.hid ((Apd.none_ X1).new U7.out (.inr rfl))
      have LE : Hid (g10 < w7.heap.size) := Cells.lt Q7.out
      have L8 := Lib.hid (L7.out.trans (bb.mono L7.out.size))
      have X8 := Lib.hid (Cells.below X7.out bb)
      have D8 := Lib.hid (Cells.below D7.out bb)
      have Q8 := Lib.hid (Cells.below Q7.out bb)
      have Y8 := Lib.hid (OwnP.below Y7.out bb)
      have U8 := Lib.hid (DevAt.below U7.out bb)
      clear L7 X7 D7 Q7 Y7 U7 bb
      generalize w7.alloc (.cells #[.int .i64 0, .int .i64 0, .slice none 0 0] 39) = w8 at *
      generalize w7.heap.size = g12 at *
      have LG := Lib.hid LQ.out
      clear LQ
      have bt := mov4 w8 g8 (.int .i64 X1.cap) (.int .i64 X1.op) (.int .i64 X1.ac) (.slice X1.A X1.n X1.c)
      unfold set4W at bt
      have cg := Chg.mov D8.out bt
      have L9 := Lib.hid (L8.out.trans (bt.up L8.out.size LW.out))
      have D9 : Hid (Cells _ g8 28 #[.int .i64 X1.cap, .int .i64 X1.op, .int .i64 X1.ac, .slice X1.A X1.n X1.c]) := Lib.hid (set4 D8.out (.int .i64 X1.cap) (.int .i64 X1.op) (.int .i64 X1.ac) (.slice X1.A X1.n X1.c))
      unfold set4W at D9
      have X9 := Lib.hid (Chg.cells cg X8.out (by decide))
      have Q9 := Lib.hid (Chg.cells cg Q8.out (by decide))
      have Y9 := Lib.hid (OwnP.chg Y8.out cg (by decide) (by decide))
      have U9 := Lib.hid (DevAt.grown U8.out cg.by_ (FR1.out.box (by have := LD.out; have := LB.out; omega)))
      have E9 := Lib.hid (Chg.cells cg E8.out (by decide))
      clear bt cg L8 X8 D8 Q8 Y8 U8 E8
      generalize (((w8.setCell ⟨g8, 0, none⟩ (.int .i64 X1.cap)).setCell ⟨g8, 1, none⟩ (.int .i64 X1.op)).setCell ⟨g8, 2, none⟩ (.int .i64 X1.ac)).setCell ⟨g8, 3, none⟩ (.slice X1.A X1.n X1.c) = w9 at *
      have bt := mov3 w9 g12 (.int .i64 0) (.int .i64 0) (.slice B1 0 b1)
      unfold set3W at bt
      have cg := Chg.mov E9.out bt
      have L10 := Lib.hid (L9.out.trans (bt.up L9.out.size (by have := LG.out; have := LE.out; omega)))
      have E10 : Hid (Cells _ g12 39 #[.int .i64 0, .int .i64 0, .slice B1 0 b1]) := Lib.hid (set3 E9.out (.int .i64 0) (.int .i64 0) (.slice B1 0 b1))
      unfold set3W at E10
      have X10 := Lib.hid (Chg.cells cg X9.out (by decide))
      have D10 := Lib.hid (Chg.cells cg D9.out (by decide))
      have Q10 := Lib.hid (Chg.cells cg Q9.out (by decide))
      have Y10 := Lib.hid (OwnP.chg Y9.out cg (by decide) (by decide))
      have U10 := Lib.hid (DevAt.grown U9.out cg.by_ (HA12.out))
      clear bt cg L9 X9 D9 Q9 Y9 U9 E9
      generalize ((w9.setCell ⟨g12, 0, none⟩ (.int .i64 0)).setCell ⟨g12, 1, none⟩ (.int .i64 0)).setCell ⟨g12, 2, none⟩ (.slice B1 0 b1) = w10 at *
      have m0 := Cells.cell E10.out 0
      (try dsimp only at m0)
      go_wp2_with fail
      clear m0 E10 HA12 LE
      obtain ⟨b0, hb0⟩ : ∃ b, b = g10 + 1 := ⟨_, rfl⟩
      have FRB : Hid (Fre b0 X1) := Lib.hid (FR1.out.mono (by have := LB.out; omega))
      have LB0 : Hid (g10 < b0) := by show _ < _; omega
      have HB0E := Lib.hid hb0
      clear hb0 FR1 LB
      have HG8 : Hid (g8 < b0 ∧ g10 < b0) := ⟨by have := LD.out; have := LB0.out; omega, LB0.out⟩
      go_loopw [13, 14, 81] (fun s1 s2 i wr => ∃ (k : Nat) (us : List Rv) (X : Dx) (Y : Px) (D : List (BitVec 8)) (Wt : Option Addr) (wn wc : Nat) (Pt : Option Addr) (pc : Nat), s1 = .slice Wt wn wc ∧ s2 = .slice Pt wn pc ∧ i = .int .i64 k ∧ k ≤ n ∧ Hid (Ld h M (us.map Rv.r) D Y.p) ∧ Hid (goods (us.map Rv.r)) ∧ Hid (∀ u ∈ us, Row cb w u.D u.r.data.length u.c u.r.data) ∧ Hid (X.p = devP M h.epoch D ∧ X.n = 2) ∧ Hid (Below w.heap.size w wr) ∧ Hid (Cells wr w.heap.size 23 #[.int .i64 h.host, .int .i64 h.epoch, .int .i64 h.seq]) ∧ Hid (Cells wr g8 28 #[.int .i64 X.cap, .int .i64 X.op, .int .i64 X.ac, .slice X.A X.n X.c]) ∧ Hid (PBox wr g10 Y) ∧ Hid (DevAt wr X) ∧ Hid (OwnP w.heap.size wr Y) ∧ Hid (OwnRs w.heap.size wr Wt wn wc us) ∧ Hid (Mem.Owns ci 3 w.heap.size wr (.slice Pt wn pc) wn (places ((frame (headX h)).length : Int) (us.map Rv.r))) ∧ Hid (Fre b0 X ∧ Apd X (Value.slice Wt wn wc).ownBlock ∧ Apd X (Value.slice Pt wn pc).ownBlock)) (fun _ _ i _ => n - (intOf i).toNat)
      case atStart =>
        refine ⟨0, [], X1, Y0, [], none, 0, 0, none, 0, rfl, rfl, rfl, by omega, ?_, ?_, ?_, ?_, L10, X10, D10, Q10, U10, Y10, ?_, ?_, ?_⟩
        · show Ld _ _ _ _ _; rw [HP.out]; exact Ld.begun HLE.out
        · exact Lib.hid (by intro r hr; cases hr)
        · exact Lib.hid (by intro r hr; cases hr)
        · exact Lib.hid ⟨HX1.out, HN1.out⟩
        · exact Lib.hid (OwnS.Owns.nil _ _ _ _ _)
        · exact Lib.hid (Mem.Owns.nil _ _ _ _)
        · exact Lib.hid ⟨FRB.out, Apd.none_ _, Apd.none_ _⟩
      case round =>
        clear L10 X10 D10 Q10 U10 Y10 HX1 HN1 FRB HP
        obtain ⟨k, us, X, Y, D, Wt, wn, wc, Pt, pc, rfl, rfl, rfl, hk, HLd, HGo, HDa, HXp, L2, X2, D2, Q2, U2, Y2, W2, P2, HFr⟩ := hrel
        by_cases hlt : k < n
        · obtain ⟨y, hy⟩ := HR.out.get hlt
          obtain ⟨b0', o0, rfl, hb0, hcell⟩ := HR.out.at_ (Nat.lt_of_le_of_lt (Nat.zero_le k) hlt)
          have q0 : wr.cell? ⟨b0', o0 + k, none⟩ = some (.slice y.A y.n y.c) := by
            rw [World.cell?_of_block (w := w) (L2.out.block b0' hb0)]
            exact hcell k y hy
          have HYA := Lib.hid (HBT.out y (List.mem_of_getElem? hy))
          have HB := Lib.hid (Seg.big_any (most := 8000) (HYA.out.row.below L2.out))
          have hk0 : (0 : Int) ≤ (k : Int) := by omega
          have hkn : (k : Int) < (n : Int) := by omega
          have OKY : Hid (OkP Y.p) := Lib.hid (HLd.out.okp HM1.out.2)
          generalize decide ((8000 : Int) < Seg.bulkR (y.xs.map Rv.r)) = bg at HB
          clear hcell hy
          go_upto_region 17 with fail
          clear q0
          rcases bg with _ | _
          rotate_left
          · go_wp2_with (go_at_call 8; refine HB.out.mono ?_; rintro e w3 ⟨rfl, hb⟩; have L3 := Lib.hid (L2.out.trans (hb.mono L2.out.size)); clear hb HB)
            go_ret
            exact ⟨rfl, L3.out⟩
          go_upto_region 19 with (go_at_call 8; refine HB.out.mono ?_; rintro e w3 ⟨rfl, hb⟩; have L3 := Lib.hid (L2.out.trans (hb.mono L2.out.size)); have X3 := Lib.hid (Cells.below X2.out hb); have D3 := Lib.hid (Cells.below D2.out hb); have Q3 := Lib.hid (Cells.below Q2.out hb); have U3 := Lib.hid (DevAt.below U2.out hb); have Y3 := Lib.hid (OwnP.below Y2.out hb); have W3 := Lib.hid (OwnS.Owns.below W2.out hb); have P3 := Lib.hid (Mem.Owns.below P2.out hb); clear L2 X2 D2 Q2 U2 Y2 W2 P2 hb HB)
          rcases addP_cases Y.p (y.xs.map Rv.r) with ⟨h1, h2, h3⟩ | ⟨e', he', -, h3⟩
          · have HLW0 := Lib.hid (HLd.out.more HM1.out.2 h1 h2)
            have HCN : Hid (wn ≤ 65536 ∧ y.n ≤ 65536) := by
              have h4 := HLW0.out.count HM1.out.2
              rw [List.length_append, List.length_map, List.length_map, W3.out.2, HYA.out.row.len] at h4
              exact ⟨by omega, by omega⟩
            have HSUM : Hid (Y.p.at_ + (Y.p.buf.length : Int) = ((frame (headX h)).length : Int) + ((frames (us.map Rv.r)).length : Int)) := by
              show _ = _
              rw [HLd.out.at_, HLd.out.sum]
            clear h1 h2
            have HADD := Lib.hid (add_any (Y3.out.any OKY.out) OKY.out (HYA.out.row.below L3.out) HYA.out.good)
            rw [h3] at HADD
            unfold GaveA pxv at HADD
            dsimp only at HADD
            obtain ⟨k0, k1, k2, k3, k4, k5, k6, k7⟩ := eight_cells Q3.out
            go_upto_region 20 with (go_at_call 9; refine HADD.out.mono ?_; rintro e w4 ⟨V, T, tk, td, rfl, hV, hO, hT, hb⟩; have L4 := Lib.hid (L3.out.trans (hb.mono L3.out.size)); have X4 := Lib.hid (Cells.below X3.out hb); have D4 := Lib.hid (Cells.below D3.out hb); have Q4 := Lib.hid (Cells.below Q3.out hb); have U4 := Lib.hid (DevAt.below U3.out hb); have Y4 := Lib.hid (OwnP.below Y3.out hb); have W4 := Lib.hid (OwnS.Owns.below W3.out hb); have P4 := Lib.hid (Mem.Owns.below P3.out hb); have V4 := Lib.hid (hO.mono L3.out.size); have T4 := Lib.hid (hT.mono L3.out.size); have ALW := Lib.hid (ap_laterS W3.out hO.recs); have AT := Lib.hid (ap_later P3.out hT); have HV := Lib.hid hV; obtain rfl : tk = y.n := (by have h5 := hT.len; have h6 := HYA.out.row.len; simp only [places_len, List.length_map] at h5; omega); clear hV hO hT h3; clear L3 X3 D3 Q3 U3 Y3 W3 P3 hb HADD k0 k1 k2 k3 k4 k5 k6 k7)
            clear Y4
            have BB : Below w4.heap.size w4 (w4.alloc (.cells #[.int .i64 V.p.h.host, .int .i64 V.p.h.epoch, .int .i64 V.p.h.seq, .int .i64 V.p.zone, .int .i64 V.p.cap, .int .i64 V.p.at_, .slice V.B V.p.buf.length V.bc, .slice V.L V.p.l.length V.lc] 35)) := (Below.refl _ w4).alloc (Nat.le_refl _) _
            have S5 : Hid (Cells (w4.alloc (.cells #[.int .i64 V.p.h.host, .int .i64 V.p.h.epoch, .int .i64 V.p.h.seq, .int .i64 V.p.zone, .int .i64 V.p.cap, .int .i64 V.p.at_, .slice V.B V.p.buf.length V.bc, .slice V.L V.p.l.length V.lc] 35)) w4.heap.size 35 #[.int .i64 V.p.h.host, .int .i64 V.p.h.epoch, .int .i64 V.p.h.seq, .int .i64 V.p.zone, .int .i64 V.p.cap, .int .i64 V.p.at_, .slice V.B V.p.buf.length V.bc, .slice V.L V.p.l.length V.lc]) := Cells.new _ _ _
            have HA17 : Hid (Apd X (some w4.heap.size)) := Lib.hid ((Apd.none_ X).new U4.out (.inr rfl))
            have L17 : Hid (w.heap.size ≤ w4.heap.size ∧ g10 < w4.heap.size) := ⟨L4.out.size, Cells.lt Q4.out⟩
            have L5 := Lib.hid (L4.out.trans (BB.mono L4.out.size))
            have X5 := Lib.hid (Cells.below X4.out BB)
            have D5 := Lib.hid (Cells.below D4.out BB)
            have Q5 := Lib.hid (Cells.below Q4.out BB)
            have U5 := Lib.hid (DevAt.below U4.out BB)
            have W5 := Lib.hid (OwnS.Owns.below W4.out BB)
            have P5 := Lib.hid (Mem.Owns.below P4.out BB)
            have V5 := Lib.hid (OwnP.below V4.out BB)
            have T5 := Lib.hid (Mem.Owns.below T4.out BB)
            clear L4 X4 D4 Q4 U4 W4 P4 V4 T4 BB
            generalize w4.alloc (.cells #[.int .i64 V.p.h.host, .int .i64 V.p.h.epoch, .int .i64 V.p.h.seq, .int .i64 V.p.zone, .int .i64 V.p.cap, .int .i64 V.p.at_, .slice V.B V.p.buf.length V.bc, .slice V.L V.p.l.length V.lc] 35) = w5 at *
            generalize w4.heap.size = g17 at *
            go_upto_region 23 with fail
            obtain ⟨k0, k1, k2, k3, k4, k5, k6, k7⟩ := eight_cells S5.out
            obtain ⟨y0, y1, y2, y3, y4, y5, y6, y7⟩ := eight_cells Q5.out
            obtain ⟨e0, e1, e2, e3, e4, e5, e6, e7⟩ := eight_free Q5.out
            go_upto_region 24 with fail
            clear k0 y0 e0 k1 y1 e1 k2 y2 e2 k3 y3 e3 k4 y4 e4 k5 y5 e5 k6 y6 e6 k7 y7 e7
            have bt := mov8 w5 g10 (.int .i64 V.p.h.host) (.int .i64 V.p.h.epoch) (.int .i64 V.p.h.seq) (.int .i64 V.p.zone) (.int .i64 V.p.cap) (.int .i64 V.p.at_) (.slice V.B V.p.buf.length V.bc) (.slice V.L V.p.l.length V.lc)
            unfold set8W at bt
            have cg := Chg.mov Q5.out bt
            have L6 := Lib.hid (L5.out.trans (bt.up L5.out.size LG.out))
            have Q6 : Hid (Cells _ g10 35 #[.int .i64 V.p.h.host, .int .i64 V.p.h.epoch, .int .i64 V.p.h.seq, .int .i64 V.p.zone, .int .i64 V.p.cap, .int .i64 V.p.at_, .slice V.B V.p.buf.length V.bc, .slice V.L V.p.l.length V.lc]) := Lib.hid (set8 Q5.out (.int .i64 V.p.h.host) (.int .i64 V.p.h.epoch) (.int .i64 V.p.h.seq) (.int .i64 V.p.zone) (.int .i64 V.p.cap) (.int .i64 V.p.at_) (.slice V.B V.p.buf.length V.bc) (.slice V.L V.p.l.length V.lc))
            unfold set8W at Q6
            have X6 := Lib.hid (Chg.cells cg X5.out (by decide))
            have D6 := Lib.hid (Chg.cells cg D5.out (by decide))
            have U6 := Lib.hid (DevAt.grown U5.out cg.by_ (HFr.out.1.box HG8.out.2))
            have W6 := Lib.hid (Chg.owns cg W5.out (by decide))
            have P6 := Lib.hid (Chg.ownI cg P5.out (by decide))
            have V6 := Lib.hid (OwnP.chg V5.out cg (by decide) (by decide))
            have T6 := Lib.hid (Chg.ownI cg T5.out (by decide))
            have S6 := Lib.hid (Cells.mov S5.out bt (by simpa using (Nat.ne_of_gt L17.out.2)))
            clear bt cg L5 X5 D5 Q5 U5 W5 P5 V5 T5 S5
            generalize (((((((w5.setCell ⟨g10, 0, none⟩ (.int .i64 V.p.h.host)).setCell ⟨g10, 1, none⟩ (.int .i64 V.p.h.epoch)).setCell ⟨g10, 2, none⟩ (.int .i64 V.p.h.seq)).setCell ⟨g10, 3, none⟩ (.int .i64 V.p.zone)).setCell ⟨g10, 4, none⟩ (.int .i64 V.p.cap)).setCell ⟨g10, 5, none⟩ (.int .i64 V.p.at_)).setCell ⟨g10, 6, none⟩ (.slice V.B V.p.buf.length V.bc)).setCell ⟨g10, 7, none⟩ (.slice V.L V.p.l.length V.lc) = w6 at *
            go_upto_region 25 with (first
              | (at_builtin
                 refine OwnS.wpList_append fitR Tryz.underlying33 info_recP rfl (by omega) rfl (.tmp 103) (.tmp 104) rfl rfl w.heap.size (.slice Wt wn wc) wn us rfl W6.out y.A y.n y.c y.xs rfl (rowS_of (HYA.out.row.below L6.out)) (by have := HCN.out; omega) L6.out.size ?_
                 intro W' wc' w7 ho hg hn
                 have cg : Chg 57 _ w6 w7 := Chg.own W6.out hg
                 have L7 := Lib.hid (L6.out.trans (OwnS.below_row W6.out hg L6.out.size))
                 have W7 := Lib.hid ho
                 have V7 := Lib.hid (OwnP.wanted V6.out W6.out ALW.out hg)
                 have HAW := Lib.hid (HFr.out.2.1.new U6.out hn)
                 have X7 := Lib.hid (Chg.cells cg X6.out (by decide))
                 have D7 := Lib.hid (Chg.cells cg D6.out (by decide))
                 have Q7 := Lib.hid (Chg.cells cg Q6.out (by decide))
                 have U7 := Lib.hid (DevAt.grown U6.out hg HFr.out.2.1)
                 have P7 := Lib.hid (Chg.ownI cg P6.out (by decide))
                 have T7 := Lib.hid (Chg.ownI cg T6.out (by decide))
                 have S7 := Lib.hid (Chg.cells cg S6.out (by decide))
                 clear ho hg hn cg L6 X6 D6 Q6 U6 W6 P6 V6 T6 S6)
              | fail)
            go_upto_region 26 with (first
              | (at_builtin
                 refine OwnB.wpList_append ci_one Tryz.underlying44 Wire.info_int rfl (by omega) rfl (.tmp 106) (.tmp 107) rfl rfl w.heap.size (.slice Pt wn pc) wn _ rfl P7.out T y.n td _ rfl (Wire.gave_row T7.out (by rw [places_len, List.length_map, HYA.out.row.len]; have := HCN.out; omega)).1 (by have := HCN.out; omega) L7.out.size ?_
                 intro P' pc' w8 ho hg hn
                 have cg : Chg 3 _ w7 w8 := Chg.own (OwnB.toS P7.out) hg
                 have L8 := Lib.hid (L7.out.trans (OwnB.below_row P7.out hg L7.out.size))
                 have P8 : Hid (Mem.Owns ci 3 w.heap.size w8 (.slice P' (wn + y.n) pc') (wn + y.n) (places ((frame (headX h)).length : Int) ((us ++ y.xs).map Rv.r))) := by
                   show Mem.Owns _ _ _ _ _ _ _
                   rw [List.map_append, places_append, ← HSUM.out]
                   exact ho
                 have HAP := Lib.hid (HFr.out.2.2.new U7.out hn)
                 have X8 := Lib.hid (Chg.cells cg X7.out (by decide))
                 have D8 := Lib.hid (Chg.cells cg D7.out (by decide))
                 have Q8 := Lib.hid (Chg.cells cg Q7.out (by decide))
                 have U8 := Lib.hid (DevAt.grown U7.out hg HFr.out.2.2)
                 have W8 := Lib.hid (Chg.owns cg W7.out (by decide))
                 have V8 := Lib.hid (OwnP.chg V7.out cg (by decide) (by decide))
                 have S8 := Lib.hid (Chg.cells cg S7.out (by decide))
                 clear ho hg hn cg L7 T7 X7 D7 Q7 U7 W7 P7 V7 S7)
              | fail)
            have HLW : Hid (Lw h M ((us ++ y.xs).map Rv.r) D V.p) := by
              show Lw _ _ _ _ _
              rw [List.map_append, HV.out]
              exact HLW0.out
            have HGo' : Hid (goods ((us ++ y.xs).map Rv.r)) := Lib.hid fun r hr => by
              rw [List.map_append] at hr
              rcases List.mem_append.1 hr with hr | hr
              · exact HGo.out r hr
              · exact HYA.out.good r hr
            have HDa' : Hid (∀ u ∈ us ++ y.xs, Row cb w u.D u.r.data.length u.c u.r.data) := Lib.hid fun u hu => by
              rcases List.mem_append.1 hu with hu | hu
              · exact HDa.out u hu
              · exact HYA.out.row.data u hu
            have HFr' := Lib.hid (And.intro HFr.out.1 (And.intro HAW.out HAP.out))
            clear HLW0 HGo HDa HFr HAW HAP HSUM ALW AT
            rcases Nat.eq_zero_or_pos V.p.buf.length with h0 | h0
            · have HLN := Lib.hid (HLW.out.none_ h0)
              have HFL := Lib.hid (flush_none (V8.out.any HLW.out.okp) HLW.out.okp h0)
              unfold GaveN pxv at HFL
              clear h0 HLW
              obtain ⟨k0, k1, k2, k3, k4, k5, k6, k7⟩ := eight_cells Q8.out
              go_upto_region 27 with (go_at_call 10; refine HFL.out.mono ?_; rintro e w9 ⟨Z, rfl, hZ, hO, hb⟩; have L9 := Lib.hid (L8.out.trans (hb.mono L8.out.size)); have X9 := Lib.hid (Cells.below X8.out hb); have D9 := Lib.hid (Cells.below D8.out hb); have Q9 := Lib.hid (Cells.below Q8.out hb); have U9 := Lib.hid (DevAt.below U8.out hb); have W9 := Lib.hid (OwnS.Owns.below W8.out hb); have P9 := Lib.hid (Mem.Owns.below P8.out hb); have V9 := Lib.hid (OwnP.below V8.out hb); have S9 := Lib.hid (Cells.below S8.out hb); have Z9 := Lib.hid (hO.mono L8.out.size); have HZ := Lib.hid hZ; have bb : Below w9.heap.size w9 (w9.alloc (.cells #[.int .i64 0, .int .i64 0, .int .i64 0, .int .i64 0, .int .i64 0, .slice none 0 0] 43)) := (Below.refl _ w9).alloc (Nat.le_refl _) _; have S10 := Lib.hid (Cells.below S9.out bb); obtain ⟨y0, y1, y2, y3, y4, y5, y6, y7⟩ := eight_cells S10.out; obtain ⟨e0, e1, e2, e3, e4, e5, e6, e7⟩ := eight_free S10.out; clear L8 X8 D8 Q8 U8 W8 P8 V8 S8 hZ hO hb HFL k0 k1 k2 k3 k4 k5 k6 k7)
              clear S10 y0 e0 y1 e1 y2 e2 y3 e3 y4 e4 y5 e5 y6 e6 y7 e7 V9
              have L10 := Lib.hid (L9.out.trans (bb.mono L9.out.size))
              have X10 := Lib.hid (Cells.below X9.out bb)
              have D10 := Lib.hid (Cells.below D9.out bb)
              have Q10 := Lib.hid (Cells.below Q9.out bb)
              have U10 := Lib.hid (DevAt.below U9.out bb)
              have W10 := Lib.hid (OwnS.Owns.below W9.out bb)
              have P10 := Lib.hid (Mem.Owns.below P9.out bb)
              have S10 := Lib.hid (Cells.below S9.out bb)
              have Z10 := Lib.hid (OwnP.below Z9.out bb)
              clear L9 X9 D9 Q9 U9 W9 P9 S9 Z9 bb
              generalize w9.alloc (.cells #[.int .i64 0, .int .i64 0, .int .i64 0, .int .i64 0, .int .i64 0, .slice none 0 0] 43) = w10 at *
              have bt := mov8 w10 g17 (.int .i64 Z.p.h.host) (.int .i64 Z.p.h.epoch) (.int .i64 Z.p.h.seq) (.int .i64 Z.p.zone) (.int .i64 Z.p.cap) (.int .i64 Z.p.at_) (.slice Z.B Z.p.buf.length Z.bc) (.slice Z.L Z.p.l.length Z.lc)
              unfold set8W at bt
              have cg := Chg.mov S10.out bt
              have L11 := Lib.hid (L10.out.trans (bt.up L10.out.size L17.out.1))
              have S11 : Hid (Cells _ g17 35 #[.int .i64 Z.p.h.host, .int .i64 Z.p.h.epoch, .int .i64 Z.p.h.seq, .int .i64 Z.p.zone, .int .i64 Z.p.cap, .int .i64 Z.p.at_, .slice Z.B Z.p.buf.length Z.bc, .slice Z.L Z.p.l.length Z.lc]) := Lib.hid (set8 S10.out (.int .i64 Z.p.h.host) (.int .i64 Z.p.h.epoch) (.int .i64 Z.p.h.seq) (.int .i64 Z.p.zone) (.int .i64 Z.p.cap) (.int .i64 Z.p.at_) (.slice Z.B Z.p.buf.length Z.bc) (.slice Z.L Z.p.l.length Z.lc))
              unfold set8W at S11
              have X11 := Lib.hid (Chg.cells cg X10.out (by decide))
              have D11 := Lib.hid (Chg.cells cg D10.out (by decide))
              have Q11 := Lib.hid (Cells.mov Q10.out bt (by simpa using (Nat.ne_of_lt L17.out.2)))
              have U11 := Lib.hid (DevAt.grown U10.out cg.by_ (HA17.out))
              have W11 := Lib.hid (Chg.owns cg W10.out (by decide))
              have P11 := Lib.hid (Chg.ownI cg P10.out (by decide))
              have Z11 := Lib.hid (OwnP.chg Z10.out cg (by decide) (by decide))
              clear bt cg L10 X10 D10 Q10 U10 W10 P10 S10 Z10
              generalize (((((((w10.setCell ⟨g17, 0, none⟩ (.int .i64 Z.p.h.host)).setCell ⟨g17, 1, none⟩ (.int .i64 Z.p.h.epoch)).setCell ⟨g17, 2, none⟩ (.int .i64 Z.p.h.seq)).setCell ⟨g17, 3, none⟩ (.int .i64 Z.p.zone)).setCell ⟨g17, 4, none⟩ (.int .i64 Z.p.cap)).setCell ⟨g17, 5, none⟩ (.int .i64 Z.p.at_)).setCell ⟨g17, 6, none⟩ (.slice Z.B Z.p.buf.length Z.bc)).setCell ⟨g17, 7, none⟩ (.slice Z.L Z.p.l.length Z.lc) = w11 at *
              obtain ⟨k0, k1, k2, k3, k4, k5, k6, k7⟩ := eight_cells S11.out
              obtain ⟨y0, y1, y2, y3, y4, y5, y6, y7⟩ := eight_cells Q11.out
              obtain ⟨e0, e1, e2, e3, e4, e5, e6, e7⟩ := eight_free Q11.out
              go_upto_region 33 with fail
              clear k0 y0 e0 k1 y1 e1 k2 y2 e2 k3 y3 e3 k4 y4 e4 k5 y5 e5 k6 y6 e6 k7 y7 e7
              have bt := mov8 w11 g10 (.int .i64 Z.p.h.host) (.int .i64 Z.p.h.epoch) (.int .i64 Z.p.h.seq) (.int .i64 Z.p.zone) (.int .i64 Z.p.cap) (.int .i64 Z.p.at_) (.slice Z.B Z.p.buf.length Z.bc) (.slice Z.L Z.p.l.length Z.lc)
              unfold set8W at bt
              have cg := Chg.mov Q11.out bt
              have L12 := Lib.hid (L11.out.trans (bt.up L11.out.size LG.out))
              have Q12 : Hid (Cells _ g10 35 #[.int .i64 Z.p.h.host, .int .i64 Z.p.h.epoch, .int .i64 Z.p.h.seq, .int .i64 Z.p.zone, .int .i64 Z.p.cap, .int .i64 Z.p.at_, .slice Z.B Z.p.buf.length Z.bc, .slice Z.L Z.p.l.length Z.lc]) := Lib.hid (set8 Q11.out (.int .i64 Z.p.h.host) (.int .i64 Z.p.h.epoch) (.int .i64 Z.p.h.seq) (.int .i64 Z.p.zone) (.int .i64 Z.p.cap) (.int .i64 Z.p.at_) (.slice Z.B Z.p.buf.length Z.bc) (.slice Z.L Z.p.l.length Z.lc))
              unfold set8W at Q12
              have X12 := Lib.hid (Chg.cells cg X11.out (by decide))
              have D12 := Lib.hid (Chg.cells cg D11.out (by decide))
              have U12 := Lib.hid (DevAt.grown U11.out cg.by_ (HFr'.out.1.box HG8.out.2))
              have W12 := Lib.hid (Chg.owns cg W11.out (by decide))
              have P12 := Lib.hid (Chg.ownI cg P11.out (by decide))
              have S12 := Lib.hid (Cells.mov S11.out bt (by simpa using (Nat.ne_of_gt L17.out.2)))
              have Z12 := Lib.hid (OwnP.chg Z11.out cg (by decide) (by decide))
              clear bt cg L11 X11 D11 Q11 U11 W11 P11 S11 Z11
              generalize (((((((w11.setCell ⟨g10, 0, none⟩ (.int .i64 Z.p.h.host)).setCell ⟨g10, 1, none⟩ (.int .i64 Z.p.h.epoch)).setCell ⟨g10, 2, none⟩ (.int .i64 Z.p.h.seq)).setCell ⟨g10, 3, none⟩ (.int .i64 Z.p.zone)).setCell ⟨g10, 4, none⟩ (.int .i64 Z.p.cap)).setCell ⟨g10, 5, none⟩ (.int .i64 Z.p.at_)).setCell ⟨g10, 6, none⟩ (.slice Z.B Z.p.buf.length Z.bc)).setCell ⟨g10, 7, none⟩ (.slice Z.L Z.p.l.length Z.lc) = w12 at *
              go_wp2_with fail
              go_roundw
              case rel =>
                refine ⟨k + 1, us ++ y.xs, X, Z, D, W', wn + y.n, wc', P', pc', rfl, rfl, by go_num, by omega, ?_, HGo', HDa', HXp, L12, X12, D12, Q12, U12, Z12, W12, P12, HFr'⟩
                show Ld _ _ _ _ _
                rw [HZ.out]
                exact HLN.out
              case measure => simp [intOf]; omega
            · have HFL := Lib.hid (flush_2 (V8.out.any HLW.out.okp) HLW.out h0)
              have HLS := Lib.hid HLW.out.some_
              have HFT := Lib.hid HLW.out.fits_
              have HAT := Lib.hid HLW.out.at_
              have HB0 := Lib.hid h0
              unfold pxv at HFL
              clear h0 HLW
              obtain ⟨k0, k1, k2, k3, k4, k5, k6, k7⟩ := eight_cells Q8.out
              go_upto_region 27 with (go_at_call 10; refine HFL.out.mono ?_; rintro e w9 ⟨C, cd, cn, Z, rfl, hcn, hZ, hO, hC, hb⟩; have L9 := Lib.hid (L8.out.trans (hb.mono L8.out.size)); have X9 := Lib.hid (Cells.below X8.out hb); have D9 := Lib.hid (Cells.below D8.out hb); have Q9 := Lib.hid (Cells.below Q8.out hb); have U9 := Lib.hid (DevAt.below U8.out hb); have W9 := Lib.hid (OwnS.Owns.below W8.out hb); have P9 := Lib.hid (Mem.Owns.below P8.out hb); have V9 := Lib.hid (OwnP.below V8.out hb); have S9 := Lib.hid (Cells.below S8.out hb); have Z9 := Lib.hid (hO.mono L8.out.size); have C9 := Lib.hid (hC.mono L8.out.size); have HZ := Lib.hid hZ; have HCN2 := Lib.hid hcn; have bb : Below w9.heap.size w9 (w9.alloc (.cells #[.int .i64 1, .int .i64 1, .int .i64 h.epoch, .int .i64 0, .int .i64 0, .slice C cn cd] 43)) := (Below.refl _ w9).alloc (Nat.le_refl _) _; have S10 := Lib.hid (Cells.below S9.out bb); obtain ⟨y0, y1, y2, y3, y4, y5, y6, y7⟩ := eight_cells S10.out; obtain ⟨e0, e1, e2, e3, e4, e5, e6, e7⟩ := eight_free S10.out; clear L8 X8 D8 Q8 U8 W8 P8 V8 S8 hcn hZ hO hC hb HFL k0 k1 k2 k3 k4 k5 k6 k7)
              clear S10 y0 e0 y1 e1 y2 e2 y3 e3 y4 e4 y5 e5 y6 e6 y7 e7 V9
              have K10 : Hid (Cells (w9.alloc (.cells #[.int .i64 1, .int .i64 1, .int .i64 h.epoch, .int .i64 0, .int .i64 0, .slice C cn cd] 43)) w9.heap.size 43 #[.int .i64 1, .int .i64 1, .int .i64 h.epoch, .int .i64 0, .int .i64 0, .slice C cn cd]) := Cells.new _ _ _
              have L10 := Lib.hid (L9.out.trans (bb.mono L9.out.size))
              have X10 := Lib.hid (Cells.below X9.out bb)
              have D10 := Lib.hid (Cells.below D9.out bb)
              have Q10 := Lib.hid (Cells.below Q9.out bb)
              have U10 := Lib.hid (DevAt.below U9.out bb)
              have W10 := Lib.hid (OwnS.Owns.below W9.out bb)
              have P10 := Lib.hid (Mem.Owns.below P9.out bb)
              have S10 := Lib.hid (Cells.below S9.out bb)
              have Z10 := Lib.hid (OwnP.below Z9.out bb)
              have C10 := Lib.hid (Mem.Owns.below C9.out bb)
              clear L9 X9 D9 Q9 U9 W9 P9 S9 Z9 C9 bb
              generalize w9.alloc (.cells #[.int .i64 1, .int .i64 1, .int .i64 h.epoch, .int .i64 0, .int .i64 0, .slice C cn cd] 43) = w10 at *
              generalize w9.heap.size = kb at *
              have bt := mov8 w10 g17 (.int .i64 Z.p.h.host) (.int .i64 Z.p.h.epoch) (.int .i64 Z.p.h.seq) (.int .i64 Z.p.zone) (.int .i64 Z.p.cap) (.int .i64 Z.p.at_) (.slice Z.B Z.p.buf.length Z.bc) (.slice Z.L Z.p.l.length Z.lc)
              unfold set8W at bt
              have cg := Chg.mov S10.out bt
              have L11 := Lib.hid (L10.out.trans (bt.up L10.out.size L17.out.1))
              have S11 : Hid (Cells _ g17 35 #[.int .i64 Z.p.h.host, .int .i64 Z.p.h.epoch, .int .i64 Z.p.h.seq, .int .i64 Z.p.zone, .int .i64 Z.p.cap, .int .i64 Z.p.at_, .slice Z.B Z.p.buf.length Z.bc, .slice Z.L Z.p.l.length Z.lc]) := Lib.hid (set8 S10.out (.int .i64 Z.p.h.host) (.int .i64 Z.p.h.epoch) (.int .i64 Z.p.h.seq) (.int .i64 Z.p.zone) (.int .i64 Z.p.cap) (.int .i64 Z.p.at_) (.slice Z.B Z.p.buf.length Z.bc) (.slice Z.L Z.p.l.length Z.lc))
              unfold set8W at S11
              have X11 := Lib.hid (Chg.cells cg X10.out (by decide))
              have D11 := Lib.hid (Chg.cells cg D10.out (by decide))
              have Q11 := Lib.hid (Cells.mov Q10.out bt (by simpa using (Nat.ne_of_lt L17.out.2)))
              have U11 := Lib.hid (DevAt.grown U10.out cg.by_ (HA17.out))
              have W11 := Lib.hid (Chg.owns cg W10.out (by decide))
              have P11 := Lib.hid (Chg.ownI cg P10.out (by decide))
              have Z11 := Lib.hid (OwnP.chg Z10.out cg (by decide) (by decide))
              have C11 := Lib.hid (Chg.ownI cg C10.out (by decide))
              have K11 := Lib.hid (Chg.cells cg K10.out (by decide))
              clear bt cg L10 X10 D10 Q10 U10 W10 P10 S10 Z10 C10 K10
              generalize (((((((w10.setCell ⟨g17, 0, none⟩ (.int .i64 Z.p.h.host)).setCell ⟨g17, 1, none⟩ (.int .i64 Z.p.h.epoch)).setCell ⟨g17, 2, none⟩ (.int .i64 Z.p.h.seq)).setCell ⟨g17, 3, none⟩ (.int .i64 Z.p.zone)).setCell ⟨g17, 4, none⟩ (.int .i64 Z.p.cap)).setCell ⟨g17, 5, none⟩ (.int .i64 Z.p.at_)).setCell ⟨g17, 6, none⟩ (.slice Z.B Z.p.buf.length Z.bc)).setCell ⟨g17, 7, none⟩ (.slice Z.L Z.p.l.length Z.lc) = w11 at *
              have HDO := Lib.hid (do_append (m := cn) U11.out HXp.out.1 HXp.out.2 HM1.out.1 HM1.out.2 (Int.le_of_lt HE.out) (by rw [HCN2.out]; exact (Wire.gave_row C11.out (by have := HFT.out; have := HM1.out.2; omega)).1) HCN2.out HB0.out HFT.out)
              have k0 := Cells.cell D11.out 0
              have k1 := Cells.cell D11.out 1
              have k2 := Cells.cell D11.out 2
              have k3 := Cells.cell D11.out 3
              (try dsimp only at k0 k1 k2 k3)
              have m0 := Cells.cell K11.out 0
              have m1 := Cells.cell K11.out 1
              have m2 := Cells.cell K11.out 2
              have m3 := Cells.cell K11.out 3
              have m4 := Cells.cell K11.out 4
              have m5 := Cells.cell K11.out 5
              (try dsimp only at m0 m1 m2 m3 m4 m5)
              go_upto_region 29 with (go_at_call 7; refine HDO.out.mono ?_; rintro e w12 ⟨X2, B2, b2, rfl, hd, hp, hn, hrow, hfr, hb⟩; have L12 := Lib.hid (L11.out.trans (hb.mono L11.out.size)); have X12 := Lib.hid (Cells.below X11.out hb); have D12 := Lib.hid (Cells.below D11.out hb); have Q12 := Lib.hid (Cells.below Q11.out hb); have U12 := Lib.hid (DevAt.below U11.out hb); have W12 := Lib.hid (OwnS.Owns.below W11.out hb); have P12 := Lib.hid (Mem.Owns.below P11.out hb); have S12 := Lib.hid (Cells.below S11.out hb); have Z12 := Lib.hid (OwnP.below Z11.out hb); have C12 := Lib.hid (Mem.Owns.below C11.out hb); have K12 := Lib.hid (Cells.below K11.out hb); have N12 := Lib.hid hd; have HX2 := Lib.hid hp; have HN2 := Lib.hid hn; have HAW2 := Lib.hid (apd_owns hfr W11.out); have HAP2 := Lib.hid (apd_ownI hfr P11.out); have HFRB := Lib.hid (hfr.mono (show b0 ≤ w11.heap.size by have := Cells.lt Q11.out; have := HB0E.out; omega)); clear L11 X11 D11 Q11 U11 W11 P11 S11 Z11 C11 K11 hd hp hn hrow hfr hb HDO k0 k1 k2 k3 m0 m1 m2 m3 m4 m5)
              clear K12 C12 U12
              have bb : Below w12.heap.size w12 ((w12.alloc (.cells #[.int .i64 X2.cap, .int .i64 X2.op, .int .i64 X2.ac, .slice X2.A X2.n X2.c] 28)).alloc (.cells #[.int .i64 0, .int .i64 (D.length : Int), .slice B2 0 b2] 39)) := ((Below.refl _ w12).alloc (Nat.le_refl _) _).alloc (by simp) _
              have F13 : Hid (Cells ((w12.alloc (.cells #[.int .i64 X2.cap, .int .i64 X2.op, .int .i64 X2.ac, .slice X2.A X2.n X2.c] 28)).alloc (.cells #[.int .i64 0, .int .i64 (D.length : Int), .slice B2 0 b2] 39)) w12.heap.size 28 #[.int .i64 X2.cap, .int .i64 X2.op, .int .i64 X2.ac, .slice X2.A X2.n X2.c]) := Lib.hid (Cells.alloc (Cells.new _ _ _) _)
              have R13 : Hid (Cells ((w12.alloc (.cells #[.int .i64 X2.cap, .int .i64 X2.op, .int .i64 X2.ac, .slice X2.A X2.n X2.c] 28)).alloc (.cells #[.int .i64 0, .int .i64 (D.length : Int), .slice B2 0 b2] 39)) (w12.heap.size + 1) 39 #[.int .i64 0, .int .i64 (D.length : Int), .slice B2 0 b2]) := by
                have := Cells.new (w12.alloc (.cells #[.int .i64 X2.cap, .int .i64 X2.op, .int .i64 X2.ac, .slice X2.A X2.n X2.c] 28)) #[.int .i64 0, .int .i64 (D.length : Int), .slice B2 0 b2] 39
                rw [World.size_alloc] at this
                exact this
              have L22 : Hid (g8 < w12.heap.size) := Cells.lt D12.out
              have L13 := Lib.hid (L12.out.trans (bb.mono L12.out.size))
              have X13 := Lib.hid (Cells.below X12.out bb)
              have D13 := Lib.hid (Cells.below D12.out bb)
              have Q13 := Lib.hid (Cells.below Q12.out bb)
              have W13 := Lib.hid (OwnS.Owns.below W12.out bb)
              have P13 := Lib.hid (Mem.Owns.below P12.out bb)
              have S13 := Lib.hid (Cells.below S12.out bb)
              have Z13 := Lib.hid (OwnP.below Z12.out bb)
              have N13 := Lib.hid (DevAt.below N12.out bb)
              clear L12 X12 D12 Q12 W12 P12 S12 Z12 N12 bb
              generalize (w12.alloc (.cells #[.int .i64 X2.cap, .int .i64 X2.op, .int .i64 X2.ac, .slice X2.A X2.n X2.c] 28)).alloc (.cells #[.int .i64 0, .int .i64 (D.length : Int), .slice B2 0 b2] 39) = w13 at *
              generalize w12.heap.size = g22 at *
              have m0 := Cells.cell R13.out 0
              have m1 := Cells.cell R13.out 1
              have k3 : w13.cell? ⟨g10, 5, none⟩ = some (.int .i64 (D.length : Int)) := by
                have h5 := Cells.cell Q13.out 5
                (try dsimp only at h5)
                rw [← HAT.out]
                exact h5
              (try dsimp only at m0 m1)
              go_upto_region 31 with fail
              clear m0 m1 k3 R13
              have z0 := Cells.cell F13.out 0
              have z1 := Cells.cell F13.out 1
              have z2 := Cells.cell F13.out 2
              have z3 := Cells.cell F13.out 3
              (try dsimp only at z0 z1 z2 z3)
              have y0 := Cells.cell D13.out 0
              have e0 := Cells.frozen D13.out 0
              have y1 := Cells.cell D13.out 1
              have e1 := Cells.frozen D13.out 1
              have y2 := Cells.cell D13.out 2
              have e2 := Cells.frozen D13.out 2
              have y3 := Cells.cell D13.out 3
              have e3 := Cells.frozen D13.out 3
              (try dsimp only at y0 y1 y2 y3)
              go_upto_region 32 with fail
              clear z0 y0 e0 z1 y1 e1 z2 y2 e2 z3 y3 e3
              have bt := mov4 w13 g8 (.int .i64 X2.cap) (.int .i64 X2.op) (.int .i64 X2.ac) (.slice X2.A X2.n X2.c)
              unfold set4W at bt
              have cg := Chg.mov D13.out bt
              have L14 := Lib.hid (L13.out.trans (bt.up L13.out.size LW.out))
              have D14 : Hid (Cells _ g8 28 #[.int .i64 X2.cap, .int .i64 X2.op, .int .i64 X2.ac, .slice X2.A X2.n X2.c]) := Lib.hid (set4 D13.out (.int .i64 X2.cap) (.int .i64 X2.op) (.int .i64 X2.ac) (.slice X2.A X2.n X2.c))
              unfold set4W at D14
              have X14 := Lib.hid (Chg.cells cg X13.out (by decide))
              have Q14 := Lib.hid (Chg.cells cg Q13.out (by decide))
              have W14 := Lib.hid (Chg.owns cg W13.out (by decide))
              have P14 := Lib.hid (Chg.ownI cg P13.out (by decide))
              have S14 := Lib.hid (Chg.cells cg S13.out (by decide))
              have Z14 := Lib.hid (OwnP.chg Z13.out cg (by decide) (by decide))
              have N14 := Lib.hid (DevAt.grown N13.out cg.by_ (HFRB.out.box HG8.out.1))
              have F14 := Lib.hid (Cells.mov F13.out bt (by simpa using (Nat.ne_of_gt L22.out)))
              clear bt cg L13 X13 D13 Q13 W13 P13 S13 Z13 N13 F13
              generalize (((w13.setCell ⟨g8, 0, none⟩ (.int .i64 X2.cap)).setCell ⟨g8, 1, none⟩ (.int .i64 X2.op)).setCell ⟨g8, 2, none⟩ (.int .i64 X2.ac)).setCell ⟨g8, 3, none⟩ (.slice X2.A X2.n X2.c) = w14 at *
              clear F14
              obtain ⟨k0, k1, k2, k3, k4, k5, k6, k7⟩ := eight_cells S14.out
              obtain ⟨y0, y1, y2, y3, y4, y5, y6, y7⟩ := eight_cells Q14.out
              obtain ⟨e0, e1, e2, e3, e4, e5, e6, e7⟩ := eight_free Q14.out
              go_upto_region 33 with fail
              clear k0 y0 e0 k1 y1 e1 k2 y2 e2 k3 y3 e3 k4 y4 e4 k5 y5 e5 k6 y6 e6 k7 y7 e7
              have bt := mov8 w14 g10 (.int .i64 Z.p.h.host) (.int .i64 Z.p.h.epoch) (.int .i64 Z.p.h.seq) (.int .i64 Z.p.zone) (.int .i64 Z.p.cap) (.int .i64 Z.p.at_) (.slice Z.B Z.p.buf.length Z.bc) (.slice Z.L Z.p.l.length Z.lc)
              unfold set8W at bt
              have cg := Chg.mov Q14.out bt
              have L15 := Lib.hid (L14.out.trans (bt.up L14.out.size LG.out))
              have Q15 : Hid (Cells _ g10 35 #[.int .i64 Z.p.h.host, .int .i64 Z.p.h.epoch, .int .i64 Z.p.h.seq, .int .i64 Z.p.zone, .int .i64 Z.p.cap, .int .i64 Z.p.at_, .slice Z.B Z.p.buf.length Z.bc, .slice Z.L Z.p.l.length Z.lc]) := Lib.hid (set8 Q14.out (.int .i64 Z.p.h.host) (.int .i64 Z.p.h.epoch) (.int .i64 Z.p.h.seq) (.int .i64 Z.p.zone) (.int .i64 Z.p.cap) (.int .i64 Z.p.at_) (.slice Z.B Z.p.buf.length Z.bc) (.slice Z.L Z.p.l.length Z.lc))
              unfold set8W at Q15
              have X15 := Lib.hid (Chg.cells cg X14.out (by decide))
              have D15 := Lib.hid (Chg.cells cg D14.out (by decide))
              have W15 := Lib.hid (Chg.owns cg W14.out (by decide))
              have P15 := Lib.hid (Chg.ownI cg P14.out (by decide))
              have S15 := Lib.hid (Cells.mov S14.out bt (by simpa using (Nat.ne_of_gt L17.out.2)))
              have Z15 := Lib.hid (OwnP.chg Z14.out cg (by decide) (by decide))
              have N15 := Lib.hid (DevAt.grown N14.out cg.by_ (HFRB.out.box HG8.out.2))
              clear bt cg L14 X14 D14 Q14 W14 P14 S14 Z14 N14
              generalize (((((((w14.setCell ⟨g10, 0, none⟩ (.int .i64 Z.p.h.host)).setCell ⟨g10, 1, none⟩ (.int .i64 Z.p.h.epoch)).setCell ⟨g10, 2, none⟩ (.int .i64 Z.p.h.seq)).setCell ⟨g10, 3, none⟩ (.int .i64 Z.p.zone)).setCell ⟨g10, 4, none⟩ (.int .i64 Z.p.cap)).setCell ⟨g10, 5, none⟩ (.int .i64 Z.p.at_)).setCell ⟨g10, 6, none⟩ (.slice Z.B Z.p.buf.length Z.bc)).setCell ⟨g10, 7, none⟩ (.slice Z.L Z.p.l.length Z.lc) = w15 at *
              go_wp2_with fail
              go_roundw
              case rel =>
                refine ⟨k + 1, us ++ y.xs, X2, Z, D ++ V.p.buf, W', wn + y.n, wc', P', pc', rfl, rfl, by go_num, by omega, ?_, HGo', HDa', Lib.hid ⟨HX2.out, HN2.out⟩, L15, X15, D15, Q15, N15, Z15, W15, P15, Lib.hid ⟨HFRB.out, HAW2.out, HAP2.out⟩⟩
                show Ld _ _ _ _ _
                rw [HZ.out]
                exact HLS.out
              case measure => simp [intOf]; omega
          · have hd : ((e' : Int) == 0) = false := by rw [beq_eq_false_iff_ne]; omega
            have HLW := Lib.hid (HLd.out.lw HM1.out.2)
            clear he'
            have HADD := Lib.hid (add_any (Y3.out.any OKY.out) OKY.out (HYA.out.row.below L3.out) HYA.out.good)
            rw [h3] at HADD
            unfold GaveA pxv at HADD
            dsimp only at HADD
            obtain ⟨k0, k1, k2, k3, k4, k5, k6, k7⟩ := eight_cells Q3.out
            go_upto_region 20 with (go_at_call 9; refine HADD.out.mono ?_; rintro e w4 ⟨V, T, tk, td, rfl, hV, hO, hT, hb⟩; have L4 := Lib.hid (L3.out.trans (hb.mono L3.out.size)); have X4 := Lib.hid (Cells.below X3.out hb); have D4 := Lib.hid (Cells.below D3.out hb); have Q4 := Lib.hid (Cells.below Q3.out hb); have U4 := Lib.hid (DevAt.below U3.out hb); have Y4 := Lib.hid (OwnP.below Y3.out hb); have W4 := Lib.hid (OwnS.Owns.below W3.out hb); have P4 := Lib.hid (Mem.Owns.below P3.out hb); clear hV hO hT h3; clear L3 X3 D3 Q3 U3 Y3 W3 P3 hb HADD k0 k1 k2 k3 k4 k5 k6 k7)
            have BB : Below w4.heap.size w4 (w4.alloc (.cells #[.int .i64 V.p.h.host, .int .i64 V.p.h.epoch, .int .i64 V.p.h.seq, .int .i64 V.p.zone, .int .i64 V.p.cap, .int .i64 V.p.at_, .slice V.B V.p.buf.length V.bc, .slice V.L V.p.l.length V.lc] 35)) := (Below.refl _ w4).alloc (Nat.le_refl _) _
            have S5 : Hid (Cells (w4.alloc (.cells #[.int .i64 V.p.h.host, .int .i64 V.p.h.epoch, .int .i64 V.p.h.seq, .int .i64 V.p.zone, .int .i64 V.p.cap, .int .i64 V.p.at_, .slice V.B V.p.buf.length V.bc, .slice V.L V.p.l.length V.lc] 35)) w4.heap.size 35 #[.int .i64 V.p.h.host, .int .i64 V.p.h.epoch, .int .i64 V.p.h.seq, .int .i64 V.p.zone, .int .i64 V.p.cap, .int .i64 V.p.at_, .slice V.B V.p.buf.length V.bc, .slice V.L V.p.l.length V.lc]) := Cells.new _ _ _
            have HA17 : Hid (Apd X (some w4.heap.size)) := Lib.hid ((Apd.none_ X).new U4.out (.inr rfl))
            have L17 : Hid (w.heap.size ≤ w4.heap.size ∧ g10 < w4.heap.size) := ⟨L4.out.size, Cells.lt Q4.out⟩
            have L5 := Lib.hid (L4.out.trans (BB.mono L4.out.size))
            have X5 := Lib.hid (Cells.below X4.out BB)
            have D5 := Lib.hid (Cells.below D4.out BB)
            have Q5 := Lib.hid (Cells.below Q4.out BB)
            have U5 := Lib.hid (DevAt.below U4.out BB)
            have Y5 := Lib.hid (OwnP.below Y4.out BB)
            have W5 := Lib.hid (OwnS.Owns.below W4.out BB)
            have P5 := Lib.hid (Mem.Owns.below P4.out BB)
            clear L4 X4 D4 Q4 U4 Y4 W4 P4 BB
            generalize w4.alloc (.cells #[.int .i64 V.p.h.host, .int .i64 V.p.h.epoch, .int .i64 V.p.h.seq, .int .i64 V.p.zone, .int .i64 V.p.cap, .int .i64 V.p.at_, .slice V.B V.p.buf.length V.bc, .slice V.L V.p.l.length V.lc] 35) = w5 at *
            generalize w4.heap.size = g17 at *
            obtain ⟨w8, hw8⟩ : ∃ x, x = w5 := ⟨_, rfl⟩
            subst hw8
            have L8 := L5
            have X8 := X5
            have D8 := D5
            have Q8 := Q5
            have U8 := U5
            have Y8 := Y5
            have W8 := W5
            have P8 := P5
            have S8 := S5
            clear L5 X5 D5 Q5 U5 Y5 W5 P5 S5
            rcases Nat.eq_zero_or_pos Y.p.buf.length with h0 | h0
            · have HLN := Lib.hid (HLW.out.none_ h0)
              have HFL := Lib.hid (flush_none (Y8.out.any HLW.out.okp) HLW.out.okp h0)
              unfold GaveN pxv at HFL
              clear h0 HLW
              obtain ⟨k0, k1, k2, k3, k4, k5, k6, k7⟩ := eight_cells Q8.out
              go_upto_region 27 with (go_at_call 10; refine HFL.out.mono ?_; rintro e w9 ⟨Z, rfl, hZ, hO, hb⟩; have L9 := Lib.hid (L8.out.trans (hb.mono L8.out.size)); have X9 := Lib.hid (Cells.below X8.out hb); have D9 := Lib.hid (Cells.below D8.out hb); have Q9 := Lib.hid (Cells.below Q8.out hb); have U9 := Lib.hid (DevAt.below U8.out hb); have Y9 := Lib.hid (OwnP.below Y8.out hb); have W9 := Lib.hid (OwnS.Owns.below W8.out hb); have P9 := Lib.hid (Mem.Owns.below P8.out hb); have S9 := Lib.hid (Cells.below S8.out hb); have Z9 := Lib.hid (hO.mono L8.out.size); have HZ := Lib.hid hZ; have bb : Below w9.heap.size w9 (w9.alloc (.cells #[.int .i64 0, .int .i64 0, .int .i64 0, .int .i64 0, .int .i64 0, .slice none 0 0] 43)) := (Below.refl _ w9).alloc (Nat.le_refl _) _; have S10 := Lib.hid (Cells.below S9.out bb); obtain ⟨y0, y1, y2, y3, y4, y5, y6, y7⟩ := eight_cells S10.out; obtain ⟨e0, e1, e2, e3, e4, e5, e6, e7⟩ := eight_free S10.out; clear L8 X8 D8 Q8 U8 Y8 W8 P8 S8 hZ hO hb HFL k0 k1 k2 k3 k4 k5 k6 k7)
              clear S10 y0 e0 y1 e1 y2 e2 y3 e3 y4 e4 y5 e5 y6 e6 y7 e7 Y9
              have L10 := Lib.hid (L9.out.trans (bb.mono L9.out.size))
              have X10 := Lib.hid (Cells.below X9.out bb)
              have D10 := Lib.hid (Cells.below D9.out bb)
              have Q10 := Lib.hid (Cells.below Q9.out bb)
              have U10 := Lib.hid (DevAt.below U9.out bb)
              have W10 := Lib.hid (OwnS.Owns.below W9.out bb)
              have P10 := Lib.hid (Mem.Owns.below P9.out bb)
              have S10 := Lib.hid (Cells.below S9.out bb)
              have Z10 := Lib.hid (OwnP.below Z9.out bb)
              clear L9 X9 D9 Q9 U9 W9 P9 S9 Z9 bb
              generalize w9.alloc (.cells #[.int .i64 0, .int .i64 0, .int .i64 0, .int .i64 0, .int .i64 0, .slice none 0 0] 43) = w10 at *
              have bt := mov8 w10 g17 (.int .i64 Z.p.h.host) (.int .i64 Z.p.h.epoch) (.int .i64 Z.p.h.seq) (.int .i64 Z.p.zone) (.int .i64 Z.p.cap) (.int .i64 Z.p.at_) (.slice Z.B Z.p.buf.length Z.bc) (.slice Z.L Z.p.l.length Z.lc)
              unfold set8W at bt
              have cg := Chg.mov S10.out bt
              have L11 := Lib.hid (L10.out.trans (bt.up L10.out.size L17.out.1))
              have S11 : Hid (Cells _ g17 35 #[.int .i64 Z.p.h.host, .int .i64 Z.p.h.epoch, .int .i64 Z.p.h.seq, .int .i64 Z.p.zone, .int .i64 Z.p.cap, .int .i64 Z.p.at_, .slice Z.B Z.p.buf.length Z.bc, .slice Z.L Z.p.l.length Z.lc]) := Lib.hid (set8 S10.out (.int .i64 Z.p.h.host) (.int .i64 Z.p.h.epoch) (.int .i64 Z.p.h.seq) (.int .i64 Z.p.zone) (.int .i64 Z.p.cap) (.int .i64 Z.p.at_) (.slice Z.B Z.p.buf.length Z.bc) (.slice Z.L Z.p.l.length Z.lc))
              unfold set8W at S11
              have X11 := Lib.hid (Chg.cells cg X10.out (by decide))
              have D11 := Lib.hid (Chg.cells cg D10.out (by decide))
              have Q11 := Lib.hid (Cells.mov Q10.out bt (by simpa using (Nat.ne_of_lt L17.out.2)))
              have U11 := Lib.hid (DevAt.grown U10.out cg.by_ (HA17.out))
              have W11 := Lib.hid (Chg.owns cg W10.out (by decide))
              have P11 := Lib.hid (Chg.ownI cg P10.out (by decide))
              have Z11 := Lib.hid (OwnP.chg Z10.out cg (by decide) (by decide))
              clear bt cg L10 X10 D10 Q10 U10 W10 P10 S10 Z10
              generalize (((((((w10.setCell ⟨g17, 0, none⟩ (.int .i64 Z.p.h.host)).setCell ⟨g17, 1, none⟩ (.int .i64 Z.p.h.epoch)).setCell ⟨g17, 2, none⟩ (.int .i64 Z.p.h.seq)).setCell ⟨g17, 3, none⟩ (.int .i64 Z.p.zone)).setCell ⟨g17, 4, none⟩ (.int .i64 Z.p.cap)).setCell ⟨g17, 5, none⟩ (.int .i64 Z.p.at_)).setCell ⟨g17, 6, none⟩ (.slice Z.B Z.p.buf.length Z.bc)).setCell ⟨g17, 7, none⟩ (.slice Z.L Z.p.l.length Z.lc) = w11 at *
              obtain ⟨k0, k1, k2, k3, k4, k5, k6, k7⟩ := eight_cells S11.out
              obtain ⟨y0, y1, y2, y3, y4, y5, y6, y7⟩ := eight_cells Q11.out
              obtain ⟨e0, e1, e2, e3, e4, e5, e6, e7⟩ := eight_free Q11.out
              go_upto_region 33 with fail
              clear k0 y0 e0 k1 y1 e1 k2 y2 e2 k3 y3 e3 k4 y4 e4 k5 y5 e5 k6 y6 e6 k7 y7 e7
              have bt := mov8 w11 g10 (.int .i64 Z.p.h.host) (.int .i64 Z.p.h.epoch) (.int .i64 Z.p.h.seq) (.int .i64 Z.p.zone) (.int .i64 Z.p.cap) (.int .i64 Z.p.at_) (.slice Z.B Z.p.buf.length Z.bc) (.slice Z.L Z.p.l.length Z.lc)
              unfold set8W at bt
              have cg := Chg.mov Q11.out bt
              have L12 := Lib.hid (L11.out.trans (bt.up L11.out.size LG.out))
              have Q12 : Hid (Cells _ g10 35 #[.int .i64 Z.p.h.host, .int .i64 Z.p.h.epoch, .int .i64 Z.p.h.seq, .int .i64 Z.p.zone, .int .i64 Z.p.cap, .int .i64 Z.p.at_, .slice Z.B Z.p.buf.length Z.bc, .slice Z.L Z.p.l.length Z.lc]) := Lib.hid (set8 Q11.out (.int .i64 Z.p.h.host) (.int .i64 Z.p.h.epoch) (.int .i64 Z.p.h.seq) (.int .i64 Z.p.zone) (.int .i64 Z.p.cap) (.int .i64 Z.p.at_) (.slice Z.B Z.p.buf.length Z.bc) (.slice Z.L Z.p.l.length Z.lc))
              unfold set8W at Q12
              have X12 := Lib.hid (Chg.cells cg X11.out (by decide))
              have D12 := Lib.hid (Chg.cells cg D11.out (by decide))
              have U12 := Lib.hid (DevAt.grown U11.out cg.by_ (HFr.out.1.box HG8.out.2))
              have W12 := Lib.hid (Chg.owns cg W11.out (by decide))
              have P12 := Lib.hid (Chg.ownI cg P11.out (by decide))
              have S12 := Lib.hid (Cells.mov S11.out bt (by simpa using (Nat.ne_of_gt L17.out.2)))
              have Z12 := Lib.hid (OwnP.chg Z11.out cg (by decide) (by decide))
              clear bt cg L11 X11 D11 Q11 U11 W11 P11 S11 Z11
              generalize (((((((w11.setCell ⟨g10, 0, none⟩ (.int .i64 Z.p.h.host)).setCell ⟨g10, 1, none⟩ (.int .i64 Z.p.h.epoch)).setCell ⟨g10, 2, none⟩ (.int .i64 Z.p.h.seq)).setCell ⟨g10, 3, none⟩ (.int .i64 Z.p.zone)).setCell ⟨g10, 4, none⟩ (.int .i64 Z.p.cap)).setCell ⟨g10, 5, none⟩ (.int .i64 Z.p.at_)).setCell ⟨g10, 6, none⟩ (.slice Z.B Z.p.buf.length Z.bc)).setCell ⟨g10, 7, none⟩ (.slice Z.L Z.p.l.length Z.lc) = w12 at *
              go_wp2_with fail
              go_roundw
              case rel =>
                refine ⟨k + 1, us, X, Z, D, Wt, wn, wc, Pt, pc, rfl, rfl, by go_num, by omega, ?_, HGo, HDa, HXp, L12, X12, D12, Q12, U12, Z12, W12, P12, HFr⟩
                show Ld _ _ _ _ _
                rw [HZ.out]
                exact HLN.out
              case measure => simp [intOf]; omega
            · have HFL := Lib.hid (flush_2 (Y8.out.any HLW.out.okp) HLW.out h0)
              have HLS := Lib.hid HLW.out.some_
              have HFT := Lib.hid HLW.out.fits_
              have HAT := Lib.hid HLW.out.at_
              have HB0 := Lib.hid h0
              unfold pxv at HFL
              clear h0 HLW
              obtain ⟨k0, k1, k2, k3, k4, k5, k6, k7⟩ := eight_cells Q8.out
              go_upto_region 27 with (go_at_call 10; refine HFL.out.mono ?_; rintro e w9 ⟨C, cd, cn, Z, rfl, hcn, hZ, hO, hC, hb⟩; have L9 := Lib.hid (L8.out.trans (hb.mono L8.out.size)); have X9 := Lib.hid (Cells.below X8.out hb); have D9 := Lib.hid (Cells.below D8.out hb); have Q9 := Lib.hid (Cells.below Q8.out hb); have U9 := Lib.hid (DevAt.below U8.out hb); have Y9 := Lib.hid (OwnP.below Y8.out hb); have W9 := Lib.hid (OwnS.Owns.below W8.out hb); have P9 := Lib.hid (Mem.Owns.below P8.out hb); have S9 := Lib.hid (Cells.below S8.out hb); have Z9 := Lib.hid (hO.mono L8.out.size); have C9 := Lib.hid (hC.mono L8.out.size); have HZ := Lib.hid hZ; have HCN2 := Lib.hid hcn; have bb : Below w9.heap.size w9 (w9.alloc (.cells #[.int .i64 1, .int .i64 1, .int .i64 h.epoch, .int .i64 0, .int .i64 0, .slice C cn cd] 43)) := (Below.refl _ w9).alloc (Nat.le_refl _) _; have S10 := Lib.hid (Cells.below S9.out bb); obtain ⟨y0, y1, y2, y3, y4, y5, y6, y7⟩ := eight_cells S10.out; obtain ⟨e0, e1, e2, e3, e4, e5, e6, e7⟩ := eight_free S10.out; clear L8 X8 D8 Q8 U8 Y8 W8 P8 S8 hcn hZ hO hC hb HFL k0 k1 k2 k3 k4 k5 k6 k7)
              clear S10 y0 e0 y1 e1 y2 e2 y3 e3 y4 e4 y5 e5 y6 e6 y7 e7 Y9
              have K10 : Hid (Cells (w9.alloc (.cells #[.int .i64 1, .int .i64 1, .int .i64 h.epoch, .int .i64 0, .int .i64 0, .slice C cn cd] 43)) w9.heap.size 43 #[.int .i64 1, .int .i64 1, .int .i64 h.epoch, .int .i64 0, .int .i64 0, .slice C cn cd]) := Cells.new _ _ _
              have L10 := Lib.hid (L9.out.trans (bb.mono L9.out.size))
              have X10 := Lib.hid (Cells.below X9.out bb)
              have D10 := Lib.hid (Cells.below D9.out bb)
              have Q10 := Lib.hid (Cells.below Q9.out bb)
              have U10 := Lib.hid (DevAt.below U9.out bb)
              have W10 := Lib.hid (OwnS.Owns.below W9.out bb)
              have P10 := Lib.hid (Mem.Owns.below P9.out bb)
              have S10 := Lib.hid (Cells.below S9.out bb)
              have Z10 := Lib.hid (OwnP.below Z9.out bb)
              have C10 := Lib.hid (Mem.Owns.below C9.out bb)
              clear L9 X9 D9 Q9 U9 W9 P9 S9 Z9 C9 bb
              generalize w9.alloc (.cells #[.int .i64 1, .int .i64 1, .int .i64 h.epoch, .int .i64 0, .int .i64 0, .slice C cn cd] 43) = w10 at *
              generalize w9.heap.size = kb at *
              have bt := mov8 w10 g17 (.int .i64 Z.p.h.host) (.int .i64 Z.p.h.epoch) (.int .i64 Z.p.h.seq) (.int .i64 Z.p.zone) (.int .i64 Z.p.cap) (.int .i64 Z.p.at_) (.slice Z.B Z.p.buf.length Z.bc) (.slice Z.L Z.p.l.length Z.lc)
              unfold set8W at bt
              have cg := Chg.mov S10.out bt
              have L11 := Lib.hid (L10.out.trans (bt.up L10.out.size L17.out.1))
              have S11 : Hid (Cells _ g17 35 #[.int .i64 Z.p.h.host, .int .i64 Z.p.h.epoch, .int .i64 Z.p.h.seq, .int .i64 Z.p.zone, .int .i64 Z.p.cap, .int .i64 Z.p.at_, .slice Z.B Z.p.buf.length Z.bc, .slice Z.L Z.p.l.length Z.lc]) := Lib.hid (set8 S10.out (.int .i64 Z.p.h.host) (.int .i64 Z.p.h.epoch) (.int .i64 Z.p.h.seq) (.int .i64 Z.p.zone) (.int .i64 Z.p.cap) (.int .i64 Z.p.at_) (.slice Z.B Z.p.buf.length Z.bc) (.slice Z.L Z.p.l.length Z.lc))
              unfold set8W at S11
              have X11 := Lib.hid (Chg.cells cg X10.out (by decide))
              have D11 := Lib.hid (Chg.cells cg D10.out (by decide))
              have Q11 := Lib.hid (Cells.mov Q10.out bt (by simpa using (Nat.ne_of_lt L17.out.2)))
              have U11 := Lib.hid (DevAt.grown U10.out cg.by_ (HA17.out))
              have W11 := Lib.hid (Chg.owns cg W10.out (by decide))
              have P11 := Lib.hid (Chg.ownI cg P10.out (by decide))
              have Z11 := Lib.hid (OwnP.chg Z10.out cg (by decide) (by decide))
              have C11 := Lib.hid (Chg.ownI cg C10.out (by decide))
              have K11 := Lib.hid (Chg.cells cg K10.out (by decide))
              clear bt cg L10 X10 D10 Q10 U10 W10 P10 S10 Z10 C10 K10
              generalize (((((((w10.setCell ⟨g17, 0, none⟩ (.int .i64 Z.p.h.host)).setCell ⟨g17, 1, none⟩ (.int .i64 Z.p.h.epoch)).setCell ⟨g17, 2, none⟩ (.int .i64 Z.p.h.seq)).setCell ⟨g17, 3, none⟩ (.int .i64 Z.p.zone)).setCell ⟨g17, 4, none⟩ (.int .i64 Z.p.cap)).setCell ⟨g17, 5, none⟩ (.int .i64 Z.p.at_)).setCell ⟨g17, 6, none⟩ (.slice Z.B Z.p.buf.length Z.bc)).setCell ⟨g17, 7, none⟩ (.slice Z.L Z.p.l.length Z.lc) = w11 at *
              have HDO := Lib.hid (do_append (m := cn) U11.out HXp.out.1 HXp.out.2 HM1.out.1 HM1.out.2 (Int.le_of_lt HE.out) (by rw [HCN2.out]; exact (Wire.gave_row C11.out (by have := HFT.out; have := HM1.out.2; omega)).1) HCN2.out HB0.out HFT.out)
              have k0 := Cells.cell D11.out 0
              have k1 := Cells.cell D11.out 1
              have k2 := Cells.cell D11.out 2
              have k3 := Cells.cell D11.out 3
              (try dsimp only at k0 k1 k2 k3)
              have m0 := Cells.cell K11.out 0
              have m1 := Cells.cell K11.out 1
              have m2 := Cells.cell K11.out 2
              have m3 := Cells.cell K11.out 3
              have m4 := Cells.cell K11.out 4
              have m5 := Cells.cell K11.out 5
              (try dsimp only at m0 m1 m2 m3 m4 m5)
              go_upto_region 29 with (go_at_call 7; refine HDO.out.mono ?_; rintro e w12 ⟨X2, B2, b2, rfl, hd, hp, hn, hrow, hfr, hb⟩; have L12 := Lib.hid (L11.out.trans (hb.mono L11.out.size)); have X12 := Lib.hid (Cells.below X11.out hb); have D12 := Lib.hid (Cells.below D11.out hb); have Q12 := Lib.hid (Cells.below Q11.out hb); have U12 := Lib.hid (DevAt.below U11.out hb); have W12 := Lib.hid (OwnS.Owns.below W11.out hb); have P12 := Lib.hid (Mem.Owns.below P11.out hb); have S12 := Lib.hid (Cells.below S11.out hb); have Z12 := Lib.hid (OwnP.below Z11.out hb); have C12 := Lib.hid (Mem.Owns.below C11.out hb); have K12 := Lib.hid (Cells.below K11.out hb); have N12 := Lib.hid hd; have HX2 := Lib.hid hp; have HN2 := Lib.hid hn; have HAW2 := Lib.hid (apd_owns hfr W11.out); have HAP2 := Lib.hid (apd_ownI hfr P11.out); have HFRB := Lib.hid (hfr.mono (show b0 ≤ w11.heap.size by have := Cells.lt Q11.out; have := HB0E.out; omega)); clear L11 X11 D11 Q11 U11 W11 P11 S11 Z11 C11 K11 hd hp hn hrow hfr hb HDO k0 k1 k2 k3 m0 m1 m2 m3 m4 m5)
              clear K12 C12 U12
              have bb : Below w12.heap.size w12 ((w12.alloc (.cells #[.int .i64 X2.cap, .int .i64 X2.op, .int .i64 X2.ac, .slice X2.A X2.n X2.c] 28)).alloc (.cells #[.int .i64 0, .int .i64 (D.length : Int), .slice B2 0 b2] 39)) := ((Below.refl _ w12).alloc (Nat.le_refl _) _).alloc (by simp) _
              have F13 : Hid (Cells ((w12.alloc (.cells #[.int .i64 X2.cap, .int .i64 X2.op, .int .i64 X2.ac, .slice X2.A X2.n X2.c] 28)).alloc (.cells #[.int .i64 0, .int .i64 (D.length : Int), .slice B2 0 b2] 39)) w12.heap.size 28 #[.int .i64 X2.cap, .int .i64 X2.op, .int .i64 X2.ac, .slice X2.A X2.n X2.c]) := Lib.hid (Cells.alloc (Cells.new _ _ _) _)
              have R13 : Hid (Cells ((w12.alloc (.cells #[.int .i64 X2.cap, .int .i64 X2.op, .int .i64 X2.ac, .slice X2.A X2.n X2.c] 28)).alloc (.cells #[.int .i64 0, .int .i64 (D.length : Int), .slice B2 0 b2] 39)) (w12.heap.size + 1) 39 #[.int .i64 0, .int .i64 (D.length : Int), .slice B2 0 b2]) := by
                have := Cells.new (w12.alloc (.cells #[.int .i64 X2.cap, .int .i64 X2.op, .int .i64 X2.ac, .slice X2.A X2.n X2.c] 28)) #[.int .i64 0, .int .i64 (D.length : Int), .slice B2 0 b2] 39
                rw [World.size_alloc] at this
                exact this
              have L22 : Hid (g8 < w12.heap.size) := Cells.lt D12.out
              have L13 := Lib.hid (L12.out.trans (bb.mono L12.out.size))
              have X13 := Lib.hid (Cells.below X12.out bb)
              have D13 := Lib.hid (Cells.below D12.out bb)
              have Q13 := Lib.hid (Cells.below Q12.out bb)
              have W13 := Lib.hid (OwnS.Owns.below W12.out bb)
              have P13 := Lib.hid (Mem.Owns.below P12.out bb)
              have S13 := Lib.hid (Cells.below S12.out bb)
              have Z13 := Lib.hid (OwnP.below Z12.out bb)
              have N13 := Lib.hid (DevAt.below N12.out bb)
              clear L12 X12 D12 Q12 W12 P12 S12 Z12 N12 bb
              generalize (w12.alloc (.cells #[.int .i64 X2.cap, .int .i64 X2.op, .int .i64 X2.ac, .slice X2.A X2.n X2.c] 28)).alloc (.cells #[.int .i64 0, .int .i64 (D.length : Int), .slice B2 0 b2] 39) = w13 at *
              generalize w12.heap.size = g22 at *
              have m0 := Cells.cell R13.out 0
              have m1 := Cells.cell R13.out 1
              have k3 : w13.cell? ⟨g10, 5, none⟩ = some (.int .i64 (D.length : Int)) := by
                have h5 := Cells.cell Q13.out 5
                (try dsimp only at h5)
                rw [← HAT.out]
                exact h5
              (try dsimp only at m0 m1)
              go_upto_region 31 with fail
              clear m0 m1 k3 R13
              have z0 := Cells.cell F13.out 0
              have z1 := Cells.cell F13.out 1
              have z2 := Cells.cell F13.out 2
              have z3 := Cells.cell F13.out 3
              (try dsimp only at z0 z1 z2 z3)
              have y0 := Cells.cell D13.out 0
              have e0 := Cells.frozen D13.out 0
              have y1 := Cells.cell D13.out 1
              have e1 := Cells.frozen D13.out 1
              have y2 := Cells.cell D13.out 2
              have e2 := Cells.frozen D13.out 2
              have y3 := Cells.cell D13.out 3
              have e3 := Cells.frozen D13.out 3
              (try dsimp only at y0 y1 y2 y3)
              go_upto_region 32 with fail
              clear z0 y0 e0 z1 y1 e1 z2 y2 e2 z3 y3 e3
              have bt := mov4 w13 g8 (.int .i64 X2.cap) (.int .i64 X2.op) (.int .i64 X2.ac) (.slice X2.A X2.n X2.c)
              unfold set4W at bt
              have cg := Chg.mov D13.out bt
              have L14 := Lib.hid (L13.out.trans (bt.up L13.out.size LW.out))
              have D14 : Hid (Cells _ g8 28 #[.int .i64 X2.cap, .int .i64 X2.op, .int .i64 X2.ac, .slice X2.A X2.n X2.c]) := Lib.hid (set4 D13.out (.int .i64 X2.cap) (.int .i64 X2.op) (.int .i64 X2.ac) (.slice X2.A X2.n X2.c))
              unfold set4W at D14
              have X14 := Lib.hid (Chg.cells cg X13.out (by decide))
              have Q14 := Lib.hid (Chg.cells cg Q13.out (by decide))
              have W14 := Lib.hid (Chg.owns cg W13.out (by decide))
              have P14 := Lib.hid (Chg.ownI cg P13.out (by decide))
              have S14 := Lib.hid (Chg.cells cg S13.out (by decide))
              have Z14 := Lib.hid (OwnP.chg Z13.out cg (by decide) (by decide))
              have N14 := Lib.hid (DevAt.grown N13.out cg.by_ (HFRB.out.box HG8.out.1))
              have F14 := Lib.hid (Cells.mov F13.out bt (by simpa using (Nat.ne_of_gt L22.out)))
              clear bt cg L13 X13 D13 Q13 W13 P13 S13 Z13 N13 F13
              generalize (((w13.setCell ⟨g8, 0, none⟩ (.int .i64 X2.cap)).setCell ⟨g8, 1, none⟩ (.int .i64 X2.op)).setCell ⟨g8, 2, none⟩ (.int .i64 X2.ac)).setCell ⟨g8, 3, none⟩ (.slice X2.A X2.n X2.c) = w14 at *
              clear F14
              obtain ⟨k0, k1, k2, k3, k4, k5, k6, k7⟩ := eight_cells S14.out
              obtain ⟨y0, y1, y2, y3, y4, y5, y6, y7⟩ := eight_cells Q14.out
              obtain ⟨e0, e1, e2, e3, e4, e5, e6, e7⟩ := eight_free Q14.out
              go_upto_region 33 with fail
              clear k0 y0 e0 k1 y1 e1 k2 y2 e2 k3 y3 e3 k4 y4 e4 k5 y5 e5 k6 y6 e6 k7 y7 e7
              have bt := mov8 w14 g10 (.int .i64 Z.p.h.host) (.int .i64 Z.p.h.epoch) (.int .i64 Z.p.h.seq) (.int .i64 Z.p.zone) (.int .i64 Z.p.cap) (.int .i64 Z.p.at_) (.slice Z.B Z.p.buf.length Z.bc) (.slice Z.L Z.p.l.length Z.lc)
              unfold set8W at bt
              have cg := Chg.mov Q14.out bt
              have L15 := Lib.hid (L14.out.trans (bt.up L14.out.size LG.out))
              have Q15 : Hid (Cells _ g10 35 #[.int .i64 Z.p.h.host, .int .i64 Z.p.h.epoch, .int .i64 Z.p.h.seq, .int .i64 Z.p.zone, .int .i64 Z.p.cap, .int .i64 Z.p.at_, .slice Z.B Z.p.buf.length Z.bc, .slice Z.L Z.p.l.length Z.lc]) := Lib.hid (set8 Q14.out (.int .i64 Z.p.h.host) (.int .i64 Z.p.h.epoch) (.int .i64 Z.p.h.seq) (.int .i64 Z.p.zone) (.int .i64 Z.p.cap) (.int .i64 Z.p.at_) (.slice Z.B Z.p.buf.length Z.bc) (.slice Z.L Z.p.l.length Z.lc))
              unfold set8W at Q15
              have X15 := Lib.hid (Chg.cells cg X14.out (by decide))
              have D15 := Lib.hid (Chg.cells cg D14.out (by decide))
              have W15 := Lib.hid (Chg.owns cg W14.out (by decide))
              have P15 := Lib.hid (Chg.ownI cg P14.out (by decide))
              have S15 := Lib.hid (Cells.mov S14.out bt (by simpa using (Nat.ne_of_gt L17.out.2)))
              have Z15 := Lib.hid (OwnP.chg Z14.out cg (by decide) (by decide))
              have N15 := Lib.hid (DevAt.grown N14.out cg.by_ (HFRB.out.box HG8.out.2))
              clear bt cg L14 X14 D14 Q14 W14 P14 S14 Z14 N14
              generalize (((((((w14.setCell ⟨g10, 0, none⟩ (.int .i64 Z.p.h.host)).setCell ⟨g10, 1, none⟩ (.int .i64 Z.p.h.epoch)).setCell ⟨g10, 2, none⟩ (.int .i64 Z.p.h.seq)).setCell ⟨g10, 3, none⟩ (.int .i64 Z.p.zone)).setCell ⟨g10, 4, none⟩ (.int .i64 Z.p.cap)).setCell ⟨g10, 5, none⟩ (.int .i64 Z.p.at_)).setCell ⟨g10, 6, none⟩ (.slice Z.B Z.p.buf.length Z.bc)).setCell ⟨g10, 7, none⟩ (.slice Z.L Z.p.l.length Z.lc) = w15 at *
              go_wp2_with fail
              go_roundw
              case rel =>
                refine ⟨k + 1, us, X2, Z, D ++ Y.p.buf, Wt, wn, wc, Pt, pc, rfl, rfl, by go_num, by omega, ?_, HGo, HDa, Lib.hid ⟨HX2.out, HN2.out⟩, L15, X15, D15, Q15, N15, Z15, W15, P15, Lib.hid ⟨HFRB.out, HAW2.out, HAP2.out⟩⟩
                show Ld _ _ _ _ _
                rw [HZ.out]
                exact HLS.out
              case measure => simp [intOf]; omega
        · obtain rfl : k = n := by omega
          have HLW := Lib.hid (HLd.out.lw HM1.out.2)
          go_upto_region 34 with fail
          go_cut [24, 25, 26] from 136 to 140 (fun a _ s wx => ∃ b : Bool, s = .bool b ∧ Hid (Below w.heap.size w wx) ∧ Hid (Cells wx w.heap.size 23 #[.int .i64 h.host, .int .i64 h.epoch, .int .i64 h.seq]) ∧ Hid (Cells wx g8 28 #[.int .i64 X.cap, .int .i64 X.op, .int .i64 X.ac, .slice X.A X.n X.c]) ∧ Hid (DevAt wx X) ∧ Hid (OwnRs w.heap.size wx Wt wn wc us) ∧ Hid (Mem.Owns ci 3 w.heap.size wx (.slice Pt wn pc) wn (places ((frame (headX h)).length : Int) (us.map Rv.r))) ∧ Hid ((b = false ∧ Y.p.buf = []) ∨ (b = true ∧ 0 < Y.p.buf.length ∧ ∃ (kb : Nat) (C : Option Addr) (cn cd : Nat), a = .pointer (some ⟨kb, 0, none⟩) ∧ cn = Y.p.buf.length ∧ g10 < wx.heap.size ∧ Cells wx kb 43 #[.int .i64 1, .int .i64 1, .int .i64 h.epoch, .int .i64 0, .int .i64 0, .slice C cn cd] ∧ OwnB1 w.heap.size wx C cd Y.p.buf)))
          case first =>
            rcases Nat.eq_zero_or_pos Y.p.buf.length with h0 | h0
            · have HBE : Hid (Y.p.buf = []) := Lib.hid (List.eq_nil_of_length_eq_zero h0)
              have HFL := Lib.hid (flush_none (Y2.out.any HLW.out.okp) HLW.out.okp h0)
              unfold GaveN pxv at HFL
              clear h0 HLW
              obtain ⟨k0, k1, k2, k3, k4, k5, k6, k7⟩ := eight_cells Q2.out
              go_wp2_with (go_at_call 10; refine HFL.out.mono ?_; rintro e w3 ⟨Z, rfl, hZ, hO, hb⟩; have L3 := Lib.hid (L2.out.trans (hb.mono L2.out.size)); have X3 := Lib.hid (Cells.below X2.out hb); have D3 := Lib.hid (Cells.below D2.out hb); have Q3 := Lib.hid (Cells.below Q2.out hb); have U3 := Lib.hid (DevAt.below U2.out hb); have Y3 := Lib.hid (OwnP.below Y2.out hb); have W3 := Lib.hid (OwnS.Owns.below W2.out hb); have P3 := Lib.hid (Mem.Owns.below P2.out hb); clear L2 X2 D2 Q2 U2 Y2 W2 P2 hZ hO hb HFL k0 k1 k2 k3 k4 k5 k6 k7)
              go_meet
              have bb : Below w3.heap.size w3 ((w3.alloc (.cells #[.int .i64 0, .int .i64 0, .int .i64 0, .int .i64 0, .int .i64 0, .slice none 0 0] 43)).alloc (.cells #[.int .i64 Z.p.h.host, .int .i64 Z.p.h.epoch, .int .i64 Z.p.h.seq, .int .i64 Z.p.zone, .int .i64 Z.p.cap, .int .i64 Z.p.at_, .slice Z.B Z.p.buf.length Z.bc, .slice Z.L Z.p.l.length Z.lc] 35)) := ((Below.refl _ w3).alloc (Nat.le_refl _) _).alloc (by simp) _
              have L4 := Lib.hid (L3.out.trans (bb.mono L3.out.size))
              have X4 := Lib.hid (Cells.below X3.out bb)
              have D4 := Lib.hid (Cells.below D3.out bb)
              have Q4 := Lib.hid (Cells.below Q3.out bb)
              have U4 := Lib.hid (DevAt.below U3.out bb)
              have Y4 := Lib.hid (OwnP.below Y3.out bb)
              have W4 := Lib.hid (OwnS.Owns.below W3.out bb)
              have P4 := Lib.hid (Mem.Owns.below P3.out bb)
              clear L3 X3 D3 Q3 U3 Y3 W3 P3 bb
              generalize (w3.alloc (.cells #[.int .i64 0, .int .i64 0, .int .i64 0, .int .i64 0, .int .i64 0, .slice none 0 0] 43)).alloc (.cells #[.int .i64 Z.p.h.host, .int .i64 Z.p.h.epoch, .int .i64 Z.p.h.seq, .int .i64 Z.p.zone, .int .i64 Z.p.cap, .int .i64 Z.p.at_, .slice Z.B Z.p.buf.length Z.bc, .slice Z.L Z.p.l.length Z.lc] 35) = w4 at *
              exact ⟨false, rfl, L4, X4, D4, U4, W4, P4, Lib.hid (.inl ⟨rfl, HBE.out⟩)⟩
            · have HFL := Lib.hid (flush_2 (Y2.out.any HLW.out.okp) HLW.out h0)
              have HB0 := Lib.hid h0
              unfold pxv at HFL
              clear h0 HLW
              obtain ⟨k0, k1, k2, k3, k4, k5, k6, k7⟩ := eight_cells Q2.out
              go_wp2_with (go_at_call 10; refine HFL.out.mono ?_; rintro e w3 ⟨C, cd, cn, Z, rfl, hcn, hZ, hO, hC, hb⟩; have L3 := Lib.hid (L2.out.trans (hb.mono L2.out.size)); have X3 := Lib.hid (Cells.below X2.out hb); have D3 := Lib.hid (Cells.below D2.out hb); have Q3 := Lib.hid (Cells.below Q2.out hb); have U3 := Lib.hid (DevAt.below U2.out hb); have Y3 := Lib.hid (OwnP.below Y2.out hb); have W3 := Lib.hid (OwnS.Owns.below W2.out hb); have P3 := Lib.hid (Mem.Owns.below P2.out hb); have C3 := Lib.hid (hC.mono L2.out.size); have HCN2 := Lib.hid hcn; clear L2 X2 D2 Q2 U2 Y2 W2 P2 hcn hZ hO hC hb HFL k0 k1 k2 k3 k4 k5 k6 k7)
              go_meet
              have bb : Below w3.heap.size w3 ((w3.alloc (.cells #[.int .i64 1, .int .i64 1, .int .i64 h.epoch, .int .i64 0, .int .i64 0, .slice C cn cd] 43)).alloc (.cells #[.int .i64 Z.p.h.host, .int .i64 Z.p.h.epoch, .int .i64 Z.p.h.seq, .int .i64 Z.p.zone, .int .i64 Z.p.cap, .int .i64 Z.p.at_, .slice Z.B Z.p.buf.length Z.bc, .slice Z.L Z.p.l.length Z.lc] 35)) := ((Below.refl _ w3).alloc (Nat.le_refl _) _).alloc (by simp) _
              have K4 : Hid (Cells ((w3.alloc (.cells #[.int .i64 1, .int .i64 1, .int .i64 h.epoch, .int .i64 0, .int .i64 0, .slice C cn cd] 43)).alloc (.cells #[.int .i64 Z.p.h.host, .int .i64 Z.p.h.epoch, .int .i64 Z.p.h.seq, .int .i64 Z.p.zone, .int .i64 Z.p.cap, .int .i64 Z.p.at_, .slice Z.B Z.p.buf.length Z.bc, .slice Z.L Z.p.l.length Z.lc] 35)) w3.heap.size 43 #[.int .i64 1, .int .i64 1, .int .i64 h.epoch, .int .i64 0, .int .i64 0, .slice C cn cd]) := Lib.hid (Cells.alloc (Cells.new _ _ _) _)
              have L4 := Lib.hid (L3.out.trans (bb.mono L3.out.size))
              have X4 := Lib.hid (Cells.below X3.out bb)
              have D4 := Lib.hid (Cells.below D3.out bb)
              have Q4 := Lib.hid (Cells.below Q3.out bb)
              have U4 := Lib.hid (DevAt.below U3.out bb)
              have Y4 := Lib.hid (OwnP.below Y3.out bb)
              have W4 := Lib.hid (OwnS.Owns.below W3.out bb)
              have P4 := Lib.hid (Mem.Owns.below P3.out bb)
              have C4 := Lib.hid (Mem.Owns.below C3.out bb)
              clear L3 X3 D3 Q3 U3 Y3 W3 P3 C3 bb
              generalize (w3.alloc (.cells #[.int .i64 1, .int .i64 1, .int .i64 h.epoch, .int .i64 0, .int .i64 0, .slice C cn cd] 43)).alloc (.cells #[.int .i64 Z.p.h.host, .int .i64 Z.p.h.epoch, .int .i64 Z.p.h.seq, .int .i64 Z.p.zone, .int .i64 Z.p.cap, .int .i64 Z.p.at_, .slice Z.B Z.p.buf.length Z.bc, .slice Z.L Z.p.l.length Z.lc] 35) = w4 at *
              exact ⟨true, rfl, L4, X4, D4, U4, W4, P4, Lib.hid (.inr ⟨rfl, HB0.out, w3.heap.size, C, cn, cd, rfl, HCN2.out, Cells.lt Q4.out, K4.out, C4.out⟩)⟩
          case rest =>
            obtain ⟨b, rfl, L4, X4, D4, U4, W4, P4, HB4⟩ := hcut
            obtain ⟨w4, hw4⟩ : ∃ x, x = wc := ⟨_, rfl⟩
            subst hw4
            clear L2 X2 D2 Q2 U2 Y2 W2 P2
            go_upto_if 141 with fail
            go_cut [27, 28] from 142 to 151 (fun _ _ wx => ∃ (X : Dx) (D : List (BitVec 8)) (p : Pp), Hid (Ld h M (us.map Rv.r) D p ∧ p.buf = []) ∧ Hid (X.p = devP M h.epoch D ∧ X.n = 2) ∧ Hid (Below w.heap.size w wx) ∧ Hid (Cells wx w.heap.size 23 #[.int .i64 h.host, .int .i64 h.epoch, .int .i64 h.seq]) ∧ Hid (Cells wx g8 28 #[.int .i64 X.cap, .int .i64 X.op, .int .i64 X.ac, .slice X.A X.n X.c]) ∧ Hid (DevAt wx X) ∧ Hid (OwnRs w.heap.size wx Wt wn wc us) ∧ Hid (Mem.Owns ci 3 w.heap.size wx (.slice Pt wn pc) wn (places ((frame (headX h)).length : Int) (us.map Rv.r))) ∧ Hid (Fre b0 X))
            case first =>
              rcases HB4.out with ⟨rfl, hbe⟩ | ⟨rfl, hb0, kb, C, cn, cd, rfl, hcn, hg, hK, hC⟩
              · have HLN := Lib.hid (HLW.out.none_ (by rw [hbe]; rfl))
                have HBE := Lib.hid hbe
                clear hbe
                go_wp2_with fail
                go_meet
                exact ⟨X, D, Y.p, Lib.hid ⟨HLN.out, HBE.out⟩, HXp, L4, X4, D4, U4, W4, P4, Lib.hid HFr.out.1⟩
              · have HLS := Lib.hid HLW.out.some_
                have HFT := Lib.hid HLW.out.fits_
                have HB0 := Lib.hid hb0
                have HCN2 := Lib.hid hcn
                have HG10 := Lib.hid hg
                have K4 := Lib.hid hK
                have C4 := Lib.hid hC
                clear hb0 hcn hg hK hC HLW HB4
                have HDO := Lib.hid (do_append (m := cn) U4.out HXp.out.1 HXp.out.2 HM1.out.1 HM1.out.2 (Int.le_of_lt HE.out) (by rw [HCN2.out]; exact (Wire.gave_row C4.out (by have := HFT.out; have := HM1.out.2; omega)).1) HCN2.out HB0.out HFT.out)
                have k0 := Cells.cell D4.out 0
                have k1 := Cells.cell D4.out 1
                have k2 := Cells.cell D4.out 2
                have k3 := Cells.cell D4.out 3
                (try dsimp only at k0 k1 k2 k3)
                have m0 := Cells.cell K4.out 0
                have m1 := Cells.cell K4.out 1
                have m2 := Cells.cell K4.out 2
                have m3 := Cells.cell K4.out 3
                have m4 := Cells.cell K4.out 4
                have m5 := Cells.cell K4.out 5
                (try dsimp only at m0 m1 m2 m3 m4 m5)
                go_upto_region 37 with (go_at_call 7; refine HDO.out.mono ?_; rintro e w5 ⟨X2, B2, b2, rfl, hd, hp, hn, hrow, hfr, hb⟩; have L5 := Lib.hid (L4.out.trans (hb.mono L4.out.size)); have X5 := Lib.hid (Cells.below X4.out hb); have D5 := Lib.hid (Cells.below D4.out hb); have U5 := Lib.hid (DevAt.below U4.out hb); have W5 := Lib.hid (OwnS.Owns.below W4.out hb); have P5 := Lib.hid (Mem.Owns.below P4.out hb); have C5 := Lib.hid (Mem.Owns.below C4.out hb); have K5 := Lib.hid (Cells.below K4.out hb); have N5 := Lib.hid hd; have HX2 := Lib.hid hp; have HN2 := Lib.hid hn; have HFRB := Lib.hid (hfr.mono (show b0 ≤ w4.heap.size by have := HG10.out; have := HB0E.out; omega)); clear L4 X4 D4 U4 W4 P4 C4 K4 hd hp hn hrow hfr hb HDO k0 k1 k2 k3 m0 m1 m2 m3 m4 m5)
                clear K5 C5 U5
                have bb : Below w5.heap.size w5 ((w5.alloc (.cells #[.int .i64 X2.cap, .int .i64 X2.op, .int .i64 X2.ac, .slice X2.A X2.n X2.c] 28)).alloc (.cells #[.int .i64 0, .int .i64 (D.length : Int), .slice B2 0 b2] 39)) := ((Below.refl _ w5).alloc (Nat.le_refl _) _).alloc (by simp) _
                have F6 : Hid (Cells ((w5.alloc (.cells #[.int .i64 X2.cap, .int .i64 X2.op, .int .i64 X2.ac, .slice X2.A X2.n X2.c] 28)).alloc (.cells #[.int .i64 0, .int .i64 (D.length : Int), .slice B2 0 b2] 39)) w5.heap.size 28 #[.int .i64 X2.cap, .int .i64 X2.op, .int .i64 X2.ac, .slice X2.A X2.n X2.c]) := Lib.hid (Cells.alloc (Cells.new _ _ _) _)
                have R6 : Hid (Cells ((w5.alloc (.cells #[.int .i64 X2.cap, .int .i64 X2.op, .int .i64 X2.ac, .slice X2.A X2.n X2.c] 28)).alloc (.cells #[.int .i64 0, .int .i64 (D.length : Int), .slice B2 0 b2] 39)) (w5.heap.size + 1) 39 #[.int .i64 0, .int .i64 (D.length : Int), .slice B2 0 b2]) := by
                  have := Cells.new (w5.alloc (.cells #[.int .i64 X2.cap, .int .i64 X2.op, .int .i64 X2.ac, .slice X2.A X2.n X2.c] 28)) #[.int .i64 0, .int .i64 (D.length : Int), .slice B2 0 b2] 39
                  rw [World.size_alloc] at this
                  exact this
                have L22 : Hid (g8 < w5.heap.size) := Cells.lt D5.out
                have L6 := Lib.hid (L5.out.trans (bb.mono L5.out.size))
                have X6 := Lib.hid (Cells.below X5.out bb)
                have D6 := Lib.hid (Cells.below D5.out bb)
                have W6 := Lib.hid (OwnS.Owns.below W5.out bb)
                have P6 := Lib.hid (Mem.Owns.below P5.out bb)
                have N6 := Lib.hid (DevAt.below N5.out bb)
                clear L5 X5 D5 W5 P5 N5 bb
                generalize (w5.alloc (.cells #[.int .i64 X2.cap, .int .i64 X2.op, .int .i64 X2.ac, .slice X2.A X2.n X2.c] 28)).alloc (.cells #[.int .i64 0, .int .i64 (D.length : Int), .slice B2 0 b2] 39) = w6 at *
                generalize w5.heap.size = g22 at *
                have m0 := Cells.cell R6.out 0
                (try dsimp only at m0)
                go_upto_region 39 with fail
                clear m0 R6
                have z0 := Cells.cell F6.out 0
                have z1 := Cells.cell F6.out 1
                have z2 := Cells.cell F6.out 2
                have z3 := Cells.cell F6.out 3
                (try dsimp only at z0 z1 z2 z3)
                have y0 := Cells.cell D6.out 0
                have e0 := Cells.frozen D6.out 0
                have y1 := Cells.cell D6.out 1
                have e1 := Cells.frozen D6.out 1
                have y2 := Cells.cell D6.out 2
                have e2 := Cells.frozen D6.out 2
                have y3 := Cells.cell D6.out 3
                have e3 := Cells.frozen D6.out 3
                (try dsimp only at y0 y1 y2 y3)
                go_wp2_with fail
                go_meet
                have bt := mov4 w6 g8 (.int .i64 X2.cap) (.int .i64 X2.op) (.int .i64 X2.ac) (.slice X2.A X2.n X2.c)
                unfold set4W at bt
                have cg := Chg.mov D6.out bt
                have D7 := Lib.hid (set4 D6.out (.int .i64 X2.cap) (.int .i64 X2.op) (.int .i64 X2.ac) (.slice X2.A X2.n X2.c))
                unfold set4W at D7
                exact ⟨X2, D ++ Y.p.buf, behindP Y.p, Lib.hid ⟨HLS.out, rfl⟩, Lib.hid ⟨HX2.out, HN2.out⟩, Lib.hid (L6.out.trans (bt.up L6.out.size LW.out)), Lib.hid (Chg.cells cg X6.out (by decide)), D7, Lib.hid (DevAt.grown N6.out cg.by_ (HFRB.out.box HG8.out.1)), Lib.hid (Chg.owns cg W6.out (by decide)), Lib.hid (Chg.ownI cg P6.out (by decide)), HFRB⟩
            case rest =>
              clear HLd HLW HXp HFr X4 D4 U4 W4 P4 L4 HB4 X Y
              obtain ⟨X, D, p, HLD, HXp, L10, X10, D10, U10, W10, P10, -⟩ := hcut
              obtain ⟨w10, hw10⟩ : ∃ x, x = wc := ⟨_, rfl⟩
              subst hw10
              clear w4
              obtain ⟨q0, o0, v, hA, hv, hvd⟩ := dev_v U10.out HXp.out.1 HXp.out.2
              obtain ⟨N, hN⟩ : ∃ N, v.z.data.length = N := ⟨_, rfl⟩
              obtain ⟨ws, hws⟩ : ∃ l, us.map Rv.r = l := ⟨_, rfl⟩
              have HLD2 : Hid (Ld h M ws D p ∧ p.buf = []) := by rw [← hws]; exact HLD
              have HG2 : Hid (goods ws) := by rw [← hws]; exact HGo
              have hall := HLD2.out.1.all
              rw [HLD2.out.2, List.append_nil] at hall
              have hlen := HLD2.out.1.len
              have hvl : D.length = N := by rw [← hvd]; exact hN
              have HNM : Hid ((N : Int) ≤ M) := by show _ ≤ _; omega
              have HRD : Hid (Row cb w10 v.D N v.c (frame (headX h) ++ frames ws)) := by
                have := U10.out.data v (List.mem_of_getElem? hv)
                rw [hN, hvd, hall] at this
                exact this
              have HUN : Hid ((((frame (headX h)).length + (frames ws).length : Nat) : Int) = (N : Int)) := by show _ = _; rw [← hvl, hall, List.length_append]
              have HWL : Hid (ws.length = wn) := by show _ = _; rw [← hws, List.length_map]; exact W10.out.2
              have HWN : Hid (wn ≤ 65536) := by
                have h1 := frames_ge ws
                have h2 := HUN.out
                have h3 := HNM.out
                have h4 := HM1.out.2
                have h5 := HWL.out
                show _ ≤ _
                omega
              have R10 : Hid (RowR w10 Wt wn wc us) := row_ownR W10.out (by have := HWN.out; omega) (fun u hu => (HDa.out u hu).below L10.out)
              have HCD : Hid (w10.cell? ⟨q0, o0 + 3 + 2, none⟩ = some (.slice v.D N v.c)) := by show _ = _; rw [← hN]; exact dev_cell U10.out hA hv
              have HPL : Hid (Mem.Owns ci 3 w.heap.size w10 (.slice Pt wn pc) wn (places ((frame (headX h)).length : Int) ws)) := by rw [← hws]; exact P10
              have HSCN := Lib.hid (scan_own (U := (N : Int)) HUN.out HRD.out (by have := HNM.out; have := HM1.out.2; omega) HF.out HNN.out (scans_all HLD2.out.1.ok HG2.out))
              have HA0 := Lib.hid hA
              have HV0 := Lib.hid hv
              have HN0 := Lib.hid hN
              have HWS := Lib.hid hws
              have HNX := Lib.hid HXp.out.2
              have P10 := HPL
              clear hA hv hvd hN hws hall hlen hvl W10 HPL HLD HGo
              have k3 := Cells.cell D10.out 3
              (try dsimp only at k3)
              rw [HA0.out, HNX.out] at k3
              have kd := HCD.out
              go_upto_region 41 with (go_at_call 11; refine HSCN.out.mono ?_; rintro e w11 ⟨zs, LA, LC, AA, AC, rfl, hz, hzd, hzr, hb⟩; have Z11 := Lib.hid (row_ownR hz (by have := HWL.out; have := HWN.out; omega) (fun z hm => (Wire.gave_row (hzd z hm) (by have h1 : z.r ∈ ws := by { rw [← hzr]; exact List.mem_map_of_mem hm }; have := (Seg.check_ok (HLD2.out.1.ok _ h1)).2; omega)).1)); have HZR := Lib.hid hzr; have L11 := Lib.hid (L10.out.trans (hb.mono L10.out.size)); have X11 := Lib.hid (Cells.below X10.out hb); have D11 := Lib.hid (Cells.below D10.out hb); have U11 := Lib.hid (DevAt.below U10.out hb); have R11 := Lib.hid (RowR.below R10.out hb); have P11 := Lib.hid (Mem.Owns.below P10.out hb); clear L10 X10 D10 U10 R10 P10 hz hzd hzr hb k3 kd HSCN HCD)
              have BB : Below w11.heap.size w11 (w11.alloc (.cells #[.bool true, .int .i64 h.host, .int .i64 h.epoch, .int .i64 h.seq, .slice LA ws.length LC, .slice AA ws.length AC, .int .i64 (N : Int)] 51)) := (Below.refl _ w11).alloc (Nat.le_refl _) _
              have F12 : Hid (Cells (w11.alloc (.cells #[.bool true, .int .i64 h.host, .int .i64 h.epoch, .int .i64 h.seq, .slice LA ws.length LC, .slice AA ws.length AC, .int .i64 (N : Int)] 51)) w11.heap.size 51 #[.bool true, .int .i64 h.host, .int .i64 h.epoch, .int .i64 h.seq, .slice LA ws.length LC, .slice AA ws.length AC, .int .i64 (N : Int)]) := Cells.new _ _ _
              have L12 := Lib.hid (L11.out.trans (BB.mono L11.out.size))
              have X12 := Lib.hid (Cells.below X11.out BB)
              have D12 := Lib.hid (Cells.below D11.out BB)
              have U12 := Lib.hid (DevAt.below U11.out BB)
              have R12 := Lib.hid (RowR.below R11.out BB)
              have P12 := Lib.hid (Mem.Owns.below P11.out BB)
              have Z12 := Lib.hid (RowR.below Z11.out BB)
              clear L11 X11 D11 U11 R11 P11 Z11 BB
              generalize w11.alloc (.cells #[.bool true, .int .i64 h.host, .int .i64 h.epoch, .int .i64 h.seq, .slice LA ws.length LC, .slice AA ws.length AC, .int .i64 (N : Int)] 51) = w12 at *
              generalize w11.heap.size = fb at *
              have HEQ := fun w => Seg.eql_same_hdr h w
              unfold hdV at HEQ
              have L13 := Lib.hid L12.out.drew
              have X13 := Lib.hid (Cells.below X12.out ((Below.refl _ w12).drew))
              have D13 := Lib.hid (Cells.below D12.out ((Below.refl _ w12).drew))
              have U13 := Lib.hid (DevAt.below U12.out ((Below.refl _ w12).drew))
              have R13 := Lib.hid (RowR.below R12.out ((Below.refl _ w12).drew))
              have P13 := Lib.hid (Mem.Owns.below P12.out ((Below.refl _ w12).drew))
              have Z13 := Lib.hid (RowR.below Z12.out ((Below.refl _ w12).drew))
              have F13 := Lib.hid (Cells.below F12.out ((Below.refl _ w12).drew))
              refine wp_region_held_drew (S := fun W => (W.cell? ⟨w.heap.size, 0, none⟩ = some (.int .i64 h.host)) ∧ (W.cell? ⟨w.heap.size, 1, none⟩ = some (.int .i64 h.epoch)) ∧ (W.cell? ⟨w.heap.size, 2, none⟩ = some (.int .i64 h.seq)) ∧ (W.cell? ⟨fb, 0, none⟩ = some (.bool true)) ∧ (W.cell? ⟨fb, 1, none⟩ = some (.int .i64 h.host)) ∧ (W.cell? ⟨fb, 2, none⟩ = some (.int .i64 h.epoch)) ∧ (W.cell? ⟨fb, 3, none⟩ = some (.int .i64 h.seq)) ∧ (W.cell? ⟨fb, 4, none⟩ = some (.slice LA ws.length LC)) ∧ (W.cell? ⟨fb, 6, none⟩ = some (.int .i64 (N : Int))) ∧ (W.cell? ⟨g8, 3, none⟩ = some (.slice (some ⟨q0, o0, none⟩) 2 X.c)) ∧ (W.cell? ⟨q0, o0 + 3 + 2, none⟩ = some (.slice v.D N v.c))) (by kernel_rfl) (⟨Cells.cell X13.out 0, Cells.cell X13.out 1, Cells.cell X13.out 2, Cells.cell F13.out 0, Cells.cell F13.out 1, Cells.cell F13.out 2, Cells.cell F13.out 3, Cells.cell F13.out 4, Cells.cell F13.out 6, by have h3 := Cells.cell D13.out 3; (try dsimp only at h3); rw [HA0.out, HNX.out] at h3; exact h3, by rw [← HN0.out]; exact dev_cell U13.out HA0.out HV0.out⟩) (fun hHeld => ?_)
              generalize w12.drew = w13 at *
              clear L12 X12 D12 U12 R12 P12 Z12 F12 
              refine Reg.tk 0 rfl ?_
              refine Reg.tk 1 rfl ?_
              refine Reg.tk 2 rfl ?_
              refine Reg.tk 3 rfl ?_
              refine Reg.tk 4 rfl ?_
              refine Reg.tk 5 rfl ?_
              refine Reg.tk 6 rfl ?_
              refine Reg.tk 7 rfl ?_
              refine Reg.tk 8 rfl ?_
              refine Reg.tk 9 rfl ?_
              refine Reg.tk 10 rfl ?_
              refine Reg.tk 11 rfl ?_
              refine Reg.tk 12 rfl ?_
              have HSR : Hid (Calls Tryz.prog 12 #[.slice LA ws.length LC, .slice Wt wn wc] w13 fun e w' => e = .returned (.bool true) ∧ Below w13.heap.size w13 w') := by
                have hz := Z13.out
                rw [HWL.out] at hz ⊢
                exact Seg.sameRecs_any hz R13.out (by rw [HZR.out, HWS.out])
              refine Reg.step 13 rfl (by kernel_rfl) (by rfl) (fun K hK => ?_)
              go_simp
              refine (HSR.out).mono ?_
              rintro e w14 ⟨rfl, hb⟩
              have L14 := Lib.hid (L13.out.trans (hb.mono L13.out.size))
              have X14 := Lib.hid (Cells.below X13.out hb)
              have D14 := Lib.hid (Cells.below D13.out hb)
              have U14 := Lib.hid (DevAt.below U13.out hb)
              have R14 := Lib.hid (RowR.below R13.out hb)
              have P14 := Lib.hid (Mem.Owns.below P13.out hb)
              have Z14 := Lib.hid (RowR.below Z13.out hb)
              have F14 := Lib.hid (Cells.below F13.out hb)
              clear hb hHeld HSR
              clear L13 X13 D13 U13 R13 P13 Z13 F13 
              clear Z14
              refine hK.out _ _ (⟨Cells.cell X14.out 0, Cells.cell X14.out 1, Cells.cell X14.out 2, Cells.cell F14.out 0, Cells.cell F14.out 1, Cells.cell F14.out 2, Cells.cell F14.out 3, Cells.cell F14.out 4, Cells.cell F14.out 6, by have h3 := Cells.cell D14.out 3; (try dsimp only at h3); rw [HA0.out, HNX.out] at h3; exact h3, by rw [← HN0.out]; exact dev_cell U14.out HA0.out HV0.out⟩) (fun hHeld => ?_)
              clear hK K
              (try simp only [Act.put, List.setIfInBounds_toArray, List.set_cons_zero, List.set_cons_succ])
              refine Reg.tk 14 rfl ?_
              refine Reg.tk 15 rfl ?_
              refine Reg.tk 16 rfl ?_
              refine Reg.tk 17 rfl ?_
              refine Reg.tk 18 rfl ?_
              refine Reg.tk 19 rfl ?_
              refine Reg.tk 20 rfl ?_
              refine Reg.tk 21 rfl ?_
              refine Reg.tk 22 rfl ?_
              refine Reg.tk 23 rfl ?_
              refine Reg.tk 24 rfl ?_
              refine Reg.tk 25 rfl ?_
              refine Reg.tk 26 rfl ?_
              refine wpAnyH_done (by kernel_rfl) ?_ _
              clear hHeld
              go_wp2_with fail
              clear HEQ F14
              obtain ⟨wK, hwK⟩ : ∃ x, x = w14 := ⟨_, rfl⟩
              subst hwK
              go_loopw [187] (fun i wr => ∃ k : Nat, i = .int .i64 k ∧ k ≤ wn ∧ Hid (Below wK.heap.size wK wr)) (fun i _ => wn - (intOf i).toNat)
              case atStart => exact ⟨0, rfl, by omega, Lib.hid (Below.refl _ _)⟩
              case round =>
                obtain ⟨k, rfl, hk, K1⟩ := hrel
                by_cases hlt : k < wn
                · obtain ⟨u, hu⟩ := R14.out.get hlt
                  obtain ⟨b1, o1, rfl, hb1, hcell⟩ := R14.out.seven hu
                  obtain ⟨c0, c1, c2, c3, c4, c5, c6⟩ := hcell wr (K1.out.block b1 hb1)
                  have hrp := (Wire.gave_row P14.out (by rw [Mem.Owns.len P14.out]; have := HWN.out; omega)).1
                  obtain ⟨pl, hpl⟩ := hrp.get hlt
                  obtain ⟨b2, o2, rfl, hb2, hpc⟩ := hrp.at_ (Nat.lt_of_le_of_lt (Nat.zero_le k) hlt)
                  have HPC : Hid (wK.cell? ⟨b2, o2 + k, none⟩ = some (.int .i64 pl)) := hpc k pl hpl
                  have HB2 := Lib.hid hb2
                  have HPO := Lib.hid hpl
                  have HUR : Hid (ws[k]? = some u.r) := by show _ = _; rw [← HWS.out, List.getElem?_map, hu]; rfl
                  have HUD := Lib.hid (HDa.out u (List.mem_of_getElem? hu))
                  have L30 := Lib.hid (L14.out.trans (K1.out.mono L14.out.size))
                  have J30 := K1
                  have X30 := Lib.hid (Cells.below X14.out K1.out)
                  have D30 := Lib.hid (Cells.below D14.out K1.out)
                  have U30 := Lib.hid (DevAt.below U14.out K1.out)
                  have hk0 : (0 : Int) ≤ (k : Int) := by omega
                  have hkn : (k : Int) < (wn : Int) := by omega
                  clear hcell hu hrp hpl hpc hb1 hb2 K1
                  obtain ⟨w30, hw30⟩ : ∃ x, x = wr := ⟨_, rfl⟩
                  subst hw30
                  go_upto_region 46 with fail
                  have bb : Below w30.heap.size w30 (w30.alloc (.cells #[.int .i64 u.r.kind, .int .i64 u.r.lba, .int .i64 u.r.n, .int .i64 u.r.ver, .int .i64 u.r.zone, .int .i64 u.r.off, .slice u.D u.r.data.length u.c] 57)) := (Below.refl _ w30).alloc (Nat.le_refl _) _
                  have Q31 : Hid (RBox (w30.alloc (.cells #[.int .i64 u.r.kind, .int .i64 u.r.lba, .int .i64 u.r.n, .int .i64 u.r.ver, .int .i64 u.r.zone, .int .i64 u.r.off, .slice u.D u.r.data.length u.c] 57)) w30.heap.size u) := Cells.new _ _ _
                  have L31 := Lib.hid (L30.out.trans (bb.mono L30.out.size))
                  have X31 := Lib.hid (Cells.below X30.out bb)
                  have D31 := Lib.hid (Cells.below D30.out bb)
                  have U31 := Lib.hid (DevAt.below U30.out bb)
                  have J31 := Lib.hid (J30.out.trans (bb.mono J30.out.size))
                  clear L30 X30 D30 U30 bb J30 c0 c1 c2 c3 c4 c5 c6
                  generalize w30.alloc (.cells #[.int .i64 u.r.kind, .int .i64 u.r.lba, .int .i64 u.r.n, .int .i64 u.r.ver, .int .i64 u.r.zone, .int .i64 u.r.off, .slice u.D u.r.data.length u.c] 57) = w31 at *
                  generalize w30.heap.size = rb at *
                  go_cut [32, 33] from 192 to 206 (fun _ s wx => ∃ (eb : Nat) (B : Option Addr) (bc : Nat), s = .pointer (some ⟨eb, 0, none⟩) ∧ Hid (Below w.heap.size w wx) ∧ Hid (Below wK.heap.size wK wx) ∧ Hid (RBox wx rb u) ∧ Hid (Cells wx eb 39 #[.int .i64 0, .int .i64 0, .slice B u.r.data.length bc]) ∧ Hid (Row cb wx B u.r.data.length bc u.r.data))
                  case first =>
                    have L32 := Lib.hid L31.out.drew
                    have X32 := Lib.hid (Cells.below X31.out ((Below.refl _ w31).drew))
                    have D32 := Lib.hid (Cells.below D31.out ((Below.refl _ w31).drew))
                    have U32 := Lib.hid (DevAt.below U31.out ((Below.refl _ w31).drew))
                    have Q32 := Lib.hid (Cells.below Q31.out ((Below.refl _ w31).drew))
                    have J32 := Lib.hid (J31.out.drew)
                    refine wp_region_held_drew (S := fun W => (W.cell? ⟨g8, 0, none⟩ = some (.int .i64 X.cap)) ∧ (W.cell? ⟨g8, 1, none⟩ = some (.int .i64 X.op)) ∧ (W.cell? ⟨g8, 2, none⟩ = some (.int .i64 X.ac)) ∧ (W.cell? ⟨g8, 3, none⟩ = some (.slice X.A X.n X.c)) ∧ (W.cell? ⟨w.heap.size, 1, none⟩ = some (.int .i64 h.epoch)) ∧ (W.cell? ⟨b2, o2 + k, none⟩ = some (.int .i64 pl)) ∧ (W.cell? ⟨rb, 6, none⟩ = some (.slice u.D u.r.data.length u.c))) (by kernel_rfl) (⟨Cells.cell D32.out 0, Cells.cell D32.out 1, Cells.cell D32.out 2, Cells.cell D32.out 3, Cells.cell X32.out 1, by rw [World.cell?_of_block (w := wK) (J32.out.block b2 HB2.out)]; exact HPC.out, Cells.cell Q32.out 6⟩) (fun hHeld => ?_)
                    generalize w31.drew = w32 at *
                    clear L31 X31 D31 U31 Q31 J31 
                    refine Reg.tk 0 rfl ?_
                    refine Reg.tk 1 rfl ?_
                    refine Reg.tk 2 rfl ?_
                    refine Reg.tk 3 rfl ?_
                    refine Reg.tk 4 rfl ?_
                    refine Reg.tk 5 rfl ?_
                    refine Reg.tk 6 rfl ?_
                    refine Reg.tk 7 rfl ?_
                    refine Reg.tk 8 rfl ?_
                    refine Reg.tk 9 rfl ?_
                    refine Reg.tk 10 rfl ?_
                    refine Reg.step3 11 15 16 rfl rfl rfl (by kernel_rfl) (by rfl) (by rfl) (by rfl) (fun K hK => ?_) (fun K hK => ?_) (fun K hK => ?_)
                    · skip
                      go_simp
                      refine (do_land U32.out HXp.out HM1.out (Int.le_of_lt HE.out) HLD2.out HUR.out HPO.out).mono ?_
                      rintro e w33 ⟨Z, B, bc, rfl, hrow, hb⟩
                      have L33 := Lib.hid (L32.out.trans (hb.mono L32.out.size))
                      have X33 := Lib.hid (Cells.below X32.out hb)
                      have D33 := Lib.hid (Cells.below D32.out hb)
                      have U33 := Lib.hid (DevAt.below U32.out hb)
                      have Q33 := Lib.hid (Cells.below Q32.out hb)
                      have J33 := Lib.hid (J32.out.trans (hb.mono J32.out.size))
                      have B33 := Lib.hid hrow
                      clear hb hHeld hrow
                      clear L32 X32 D32 U32 Q32 J32 
                      refine hK.out _ _ (⟨Cells.cell D33.out 0, Cells.cell D33.out 1, Cells.cell D33.out 2, Cells.cell D33.out 3, Cells.cell X33.out 1, by rw [World.cell?_of_block (w := wK) (J33.out.block b2 HB2.out)]; exact HPC.out, Cells.cell Q33.out 6⟩) (fun hHeld => ?_)
                      clear hK K
                      (try simp only [Act.put, List.setIfInBounds_toArray, List.set_cons_zero, List.set_cons_succ])
                      refine Reg.tk 12 rfl ?_
                      refine Reg.tk 13 rfl ?_
                      refine Reg.tk 14 rfl ?_
                      refine Reg.step2 15 16 rfl rfl (by kernel_rfl) (by rfl) (by rfl) (fun K hK => ?_) (fun K hK => ?_)
                      · skip
                        go_simp
                        have bb : Below w33.heap.size w33 (w33.alloc (.cells #[.int .i64 0, .int .i64 0, .int .i64 0, .slice none 0 0] 28)) := (Below.refl _ w33).alloc (Nat.le_refl _) _
                        have A34 := Lib.hid (Cells.new w33 #[.int .i64 0, .int .i64 0, .int .i64 0, .slice none 0 0] 28)
                        have L34 := Lib.hid (L33.out.trans (bb.mono L33.out.size))
                        have X34 := Lib.hid (Cells.below X33.out bb)
                        have D34 := Lib.hid (Cells.below D33.out bb)
                        have U34 := Lib.hid (DevAt.below U33.out bb)
                        have Q34 := Lib.hid (Cells.below Q33.out bb)
                        have J34 := Lib.hid (J33.out.trans (bb.mono J33.out.size))
                        have B34 := Lib.hid (Row.below B33.out bb)
                        obtain ⟨xa, hxa⟩ : ∃ p, p = w33.heap.size := ⟨_, rfl⟩
                        rw [← hxa] at A34
                        rw [← hxa]
                        have Gxa : Hid (xa = w33.heap.size) := hxa
                        have HLxa : Hid (w.heap.size ≤ xa ∧ wK.heap.size ≤ xa ∧ g8 < xa) := ⟨by have := L33.out.size; omega, by have := J33.out.size; omega, by have := Cells.lt D33.out; omega⟩
                        clear Gxa
                        clear bb hHeld hxa
                        clear L33 X33 D33 U33 Q33 J33 B33 
                        generalize w33.alloc (.cells #[.int .i64 0, .int .i64 0, .int .i64 0, .slice none 0 0] 28) = w34 at *
                        refine hK.out _ _ (⟨Cells.cell D34.out 0, Cells.cell D34.out 1, Cells.cell D34.out 2, Cells.cell D34.out 3, Cells.cell X34.out 1, by rw [World.cell?_of_block (w := wK) (J34.out.block b2 HB2.out)]; exact HPC.out, Cells.cell Q34.out 6⟩) (fun hHeld => ?_)
                        clear hK K
                        (try simp only [Act.put, List.setIfInBounds_toArray, List.set_cons_zero, List.set_cons_succ])
                        refine Reg.step 16 rfl (by kernel_rfl) (by rfl) (fun K hK => ?_)
                        go_simp
                        have bb : Below w34.heap.size w34 (w34.alloc (.cells #[.int .i64 0, .int .i64 0, .slice none 0 0] 39)) := (Below.refl _ w34).alloc (Nat.le_refl _) _
                        have E35 := Lib.hid (Cells.new w34 #[.int .i64 0, .int .i64 0, .slice none 0 0] 39)
                        have L35 := Lib.hid (L34.out.trans (bb.mono L34.out.size))
                        have X35 := Lib.hid (Cells.below X34.out bb)
                        have D35 := Lib.hid (Cells.below D34.out bb)
                        have U35 := Lib.hid (DevAt.below U34.out bb)
                        have Q35 := Lib.hid (Cells.below Q34.out bb)
                        have J35 := Lib.hid (J34.out.trans (bb.mono J34.out.size))
                        have B35 := Lib.hid (Row.below B34.out bb)
                        have A35 := Lib.hid (Cells.below A34.out bb)
                        obtain ⟨eb, heb⟩ : ∃ p, p = w34.heap.size := ⟨_, rfl⟩
                        rw [← heb] at E35
                        rw [← heb]
                        have Geb : Hid (eb = w34.heap.size) := heb
                        have HLeb : Hid (w.heap.size ≤ eb ∧ wK.heap.size ≤ eb ∧ g8 < eb) := ⟨by have := L34.out.size; omega, by have := J34.out.size; omega, by have := Cells.lt D34.out; omega⟩
                        clear Geb
                        clear bb hHeld heb
                        clear L34 X34 D34 U34 Q34 J34 B34 A34 
                        generalize w34.alloc (.cells #[.int .i64 0, .int .i64 0, .slice none 0 0] 39) = w35 at *
                        refine hK.out _ _ (⟨Cells.cell D35.out 0, Cells.cell D35.out 1, Cells.cell D35.out 2, Cells.cell D35.out 3, Cells.cell X35.out 1, by rw [World.cell?_of_block (w := wK) (J35.out.block b2 HB2.out)]; exact HPC.out, Cells.cell Q35.out 6⟩) (fun hHeld => ?_)
                        clear hK K
                        (try simp only [Act.put, List.setIfInBounds_toArray, List.set_cons_zero, List.set_cons_succ])
                        clear U35
                        have y0 := Cells.cell A35.out 0
                        have f0 := Cells.frozen A35.out 0
                        have y1 := Cells.cell A35.out 1
                        have f1 := Cells.frozen A35.out 1
                        have y2 := Cells.cell A35.out 2
                        have f2 := Cells.frozen A35.out 2
                        have y3 := Cells.cell A35.out 3
                        have f3 := Cells.frozen A35.out 3
                        refine Reg.step 17 rfl (by kernel_rfl) (by rfl) (fun K hK => ?_)
                        go_simp
                        have bt := mov4 w35 xa (.int .i64 Z.cap) (.int .i64 Z.op) (.int .i64 Z.ac) (.slice Z.A Z.n Z.c)
                        unfold set4W at bt
                        have cg := Chg.mov A35.out bt
                        have L36 := Lib.hid (L35.out.trans (bt.up L35.out.size HLxa.out.1))
                        have J36 := Lib.hid (J35.out.trans (bt.up J35.out.size HLxa.out.2.1))
                        have B36 : Hid (Row cb _ B u.r.data.length bc u.r.data) := Lib.hid (row_box4 B35.out A35.out (int_not _) (int_not _) (int_not _) (slice_not _ _ _) (.int .i64 Z.cap) (.int .i64 Z.op) (.int .i64 Z.ac) (.slice Z.A Z.n Z.c))
                        unfold set4W at B36
                        have Q36 := Lib.hid (cg.cells Q35.out (by decide))
                        have X36 := Lib.hid (cg.cells X35.out (by decide))
                        have D36 := Lib.hid (cg.cells_ne D35.out (by have := HLxa.out.2.2; intro e; injection e with e; omega))
                        have E36 := Lib.hid (cg.cells E35.out (by decide))
                        clear bt cg hHeld y0 f0 y1 f1 y2 f2 y3 f3
                        clear L35 X35 D35 Q35 J35 B35 A35 E35 
                        generalize (((w35.setCell ⟨xa, 0, none⟩ (.int .i64 Z.cap)).setCell ⟨xa, 1, none⟩ (.int .i64 Z.op)).setCell ⟨xa, 2, none⟩ (.int .i64 Z.ac)).setCell ⟨xa, 3, none⟩ (.slice Z.A Z.n Z.c) = w36 at *
                        refine hK.out _ _ (⟨Cells.cell D36.out 0, Cells.cell D36.out 1, Cells.cell D36.out 2, Cells.cell D36.out 3, Cells.cell X36.out 1, by rw [World.cell?_of_block (w := wK) (J36.out.block b2 HB2.out)]; exact HPC.out, Cells.cell Q36.out 6⟩) (fun hHeld => ?_)
                        clear hK K
                        (try simp only [Act.put, List.setIfInBounds_toArray, List.set_cons_zero, List.set_cons_succ])
                        have y0 := Cells.cell E36.out 0
                        have f0 := Cells.frozen E36.out 0
                        have y1 := Cells.cell E36.out 1
                        have f1 := Cells.frozen E36.out 1
                        have y2 := Cells.cell E36.out 2
                        have f2 := Cells.frozen E36.out 2
                        refine Reg.step 18 rfl (by kernel_rfl) (by rfl) (fun K hK => ?_)
                        go_simp
                        have bt := mov3 w36 eb (.int .i64 0) (.int .i64 0) (.slice B u.r.data.length bc)
                        unfold set3W at bt
                        have cg := Chg.mov E36.out bt
                        have L37 := Lib.hid (L36.out.trans (bt.up L36.out.size HLeb.out.1))
                        have J37 := Lib.hid (J36.out.trans (bt.up J36.out.size HLeb.out.2.1))
                        have B37 : Hid (Row cb _ B u.r.data.length bc u.r.data) := Lib.hid (row_box3 B36.out E36.out (int_not _) (int_not _) (slice_not _ _ _) (.int .i64 0) (.int .i64 0) (.slice B u.r.data.length bc))
                        unfold set3W at B37
                        have Q37 := Lib.hid (cg.cells Q36.out (by decide))
                        have X37 := Lib.hid (cg.cells X36.out (by decide))
                        have D37 := Lib.hid (cg.cells D36.out (by decide))
                        have E37 : Hid (Cells _ eb 39 #[.int .i64 0, .int .i64 0, .slice B u.r.data.length bc]) := Lib.hid (set3 E36.out (.int .i64 0) (.int .i64 0) (.slice B u.r.data.length bc))
                        unfold set3W at E37
                        clear bt cg hHeld y0 f0 y1 f1 y2 f2
                        clear L36 X36 D36 Q36 J36 B36 E36 
                        generalize ((w36.setCell ⟨eb, 0, none⟩ (.int .i64 0)).setCell ⟨eb, 1, none⟩ (.int .i64 0)).setCell ⟨eb, 2, none⟩ (.slice B u.r.data.length bc) = w37 at *
                        refine hK.out _ _ (⟨Cells.cell D37.out 0, Cells.cell D37.out 1, Cells.cell D37.out 2, Cells.cell D37.out 3, Cells.cell X37.out 1, by rw [World.cell?_of_block (w := wK) (J37.out.block b2 HB2.out)]; exact HPC.out, Cells.cell Q37.out 6⟩) (fun hHeld => ?_)
                        clear hK K
                        (try simp only [Act.put, List.setIfInBounds_toArray, List.set_cons_zero, List.set_cons_succ])
                        refine wpAnyH_done (by kernel_rfl) ?_ _
                        clear hHeld
                        go_wp2_with fail
                        go_meet
                        exact ⟨eb, B, bc, rfl, L37, J37, Q37, E37, B37⟩
                      · skip
                        go_simp
                        have bb : Below w33.heap.size w33 (w33.alloc (.cells #[.int .i64 0, .int .i64 0, .slice none 0 0] 39)) := (Below.refl _ w33).alloc (Nat.le_refl _) _
                        have E34 := Lib.hid (Cells.new w33 #[.int .i64 0, .int .i64 0, .slice none 0 0] 39)
                        have L34 := Lib.hid (L33.out.trans (bb.mono L33.out.size))
                        have X34 := Lib.hid (Cells.below X33.out bb)
                        have D34 := Lib.hid (Cells.below D33.out bb)
                        have U34 := Lib.hid (DevAt.below U33.out bb)
                        have Q34 := Lib.hid (Cells.below Q33.out bb)
                        have J34 := Lib.hid (J33.out.trans (bb.mono J33.out.size))
                        have B34 := Lib.hid (Row.below B33.out bb)
                        obtain ⟨eb, heb⟩ : ∃ p, p = w33.heap.size := ⟨_, rfl⟩
                        rw [← heb] at E34
                        rw [← heb]
                        have Geb : Hid (eb = w33.heap.size) := heb
                        have HLeb : Hid (w.heap.size ≤ eb ∧ wK.heap.size ≤ eb ∧ g8 < eb) := ⟨by have := L33.out.size; omega, by have := J33.out.size; omega, by have := Cells.lt D33.out; omega⟩
                        clear Geb
                        clear bb hHeld heb
                        clear L33 X33 D33 U33 Q33 J33 B33 
                        generalize w33.alloc (.cells #[.int .i64 0, .int .i64 0, .slice none 0 0] 39) = w34 at *
                        refine hK.out _ _ (⟨Cells.cell D34.out 0, Cells.cell D34.out 1, Cells.cell D34.out 2, Cells.cell D34.out 3, Cells.cell X34.out 1, by rw [World.cell?_of_block (w := wK) (J34.out.block b2 HB2.out)]; exact HPC.out, Cells.cell Q34.out 6⟩) (fun hHeld => ?_)
                        clear hK K
                        (try simp only [Act.put, List.setIfInBounds_toArray, List.set_cons_zero, List.set_cons_succ])
                        refine Reg.step 15 rfl (by kernel_rfl) (by rfl) (fun K hK => ?_)
                        go_simp
                        have bb : Below w34.heap.size w34 (w34.alloc (.cells #[.int .i64 0, .int .i64 0, .int .i64 0, .slice none 0 0] 28)) := (Below.refl _ w34).alloc (Nat.le_refl _) _
                        have A35 := Lib.hid (Cells.new w34 #[.int .i64 0, .int .i64 0, .int .i64 0, .slice none 0 0] 28)
                        have L35 := Lib.hid (L34.out.trans (bb.mono L34.out.size))
                        have X35 := Lib.hid (Cells.below X34.out bb)
                        have D35 := Lib.hid (Cells.below D34.out bb)
                        have U35 := Lib.hid (DevAt.below U34.out bb)
                        have Q35 := Lib.hid (Cells.below Q34.out bb)
                        have J35 := Lib.hid (J34.out.trans (bb.mono J34.out.size))
                        have B35 := Lib.hid (Row.below B34.out bb)
                        have E35 := Lib.hid (Cells.below E34.out bb)
                        obtain ⟨xa, hxa⟩ : ∃ p, p = w34.heap.size := ⟨_, rfl⟩
                        rw [← hxa] at A35
                        rw [← hxa]
                        have Gxa : Hid (xa = w34.heap.size) := hxa
                        have HLxa : Hid (w.heap.size ≤ xa ∧ wK.heap.size ≤ xa ∧ g8 < xa) := ⟨by have := L34.out.size; omega, by have := J34.out.size; omega, by have := Cells.lt D34.out; omega⟩
                        clear Gxa
                        clear bb hHeld hxa
                        clear L34 X34 D34 U34 Q34 J34 B34 E34 
                        generalize w34.alloc (.cells #[.int .i64 0, .int .i64 0, .int .i64 0, .slice none 0 0] 28) = w35 at *
                        refine hK.out _ _ (⟨Cells.cell D35.out 0, Cells.cell D35.out 1, Cells.cell D35.out 2, Cells.cell D35.out 3, Cells.cell X35.out 1, by rw [World.cell?_of_block (w := wK) (J35.out.block b2 HB2.out)]; exact HPC.out, Cells.cell Q35.out 6⟩) (fun hHeld => ?_)
                        clear hK K
                        (try simp only [Act.put, List.setIfInBounds_toArray, List.set_cons_zero, List.set_cons_succ])
                        clear U35
                        have y0 := Cells.cell A35.out 0
                        have f0 := Cells.frozen A35.out 0
                        have y1 := Cells.cell A35.out 1
                        have f1 := Cells.frozen A35.out 1
                        have y2 := Cells.cell A35.out 2
                        have f2 := Cells.frozen A35.out 2
                        have y3 := Cells.cell A35.out 3
                        have f3 := Cells.frozen A35.out 3
                        refine Reg.step 17 rfl (by kernel_rfl) (by rfl) (fun K hK => ?_)
                        go_simp
                        have bt := mov4 w35 xa (.int .i64 Z.cap) (.int .i64 Z.op) (.int .i64 Z.ac) (.slice Z.A Z.n Z.c)
                        unfold set4W at bt
                        have cg := Chg.mov A35.out bt
                        have L36 := Lib.hid (L35.out.trans (bt.up L35.out.size HLxa.out.1))
                        have J36 := Lib.hid (J35.out.trans (bt.up J35.out.size HLxa.out.2.1))
                        have B36 : Hid (Row cb _ B u.r.data.length bc u.r.data) := Lib.hid (row_box4 B35.out A35.out (int_not _) (int_not _) (int_not _) (slice_not _ _ _) (.int .i64 Z.cap) (.int .i64 Z.op) (.int .i64 Z.ac) (.slice Z.A Z.n Z.c))
                        unfold set4W at B36
                        have Q36 := Lib.hid (cg.cells Q35.out (by decide))
                        have X36 := Lib.hid (cg.cells X35.out (by decide))
                        have D36 := Lib.hid (cg.cells_ne D35.out (by have := HLxa.out.2.2; intro e; injection e with e; omega))
                        have E36 := Lib.hid (cg.cells E35.out (by decide))
                        clear bt cg hHeld y0 f0 y1 f1 y2 f2 y3 f3
                        clear L35 X35 D35 Q35 J35 B35 E35 A35 
                        generalize (((w35.setCell ⟨xa, 0, none⟩ (.int .i64 Z.cap)).setCell ⟨xa, 1, none⟩ (.int .i64 Z.op)).setCell ⟨xa, 2, none⟩ (.int .i64 Z.ac)).setCell ⟨xa, 3, none⟩ (.slice Z.A Z.n Z.c) = w36 at *
                        refine hK.out _ _ (⟨Cells.cell D36.out 0, Cells.cell D36.out 1, Cells.cell D36.out 2, Cells.cell D36.out 3, Cells.cell X36.out 1, by rw [World.cell?_of_block (w := wK) (J36.out.block b2 HB2.out)]; exact HPC.out, Cells.cell Q36.out 6⟩) (fun hHeld => ?_)
                        clear hK K
                        (try simp only [Act.put, List.setIfInBounds_toArray, List.set_cons_zero, List.set_cons_succ])
                        have y0 := Cells.cell E36.out 0
                        have f0 := Cells.frozen E36.out 0
                        have y1 := Cells.cell E36.out 1
                        have f1 := Cells.frozen E36.out 1
                        have y2 := Cells.cell E36.out 2
                        have f2 := Cells.frozen E36.out 2
                        refine Reg.step 18 rfl (by kernel_rfl) (by rfl) (fun K hK => ?_)
                        go_simp
                        have bt := mov3 w36 eb (.int .i64 0) (.int .i64 0) (.slice B u.r.data.length bc)
                        unfold set3W at bt
                        have cg := Chg.mov E36.out bt
                        have L37 := Lib.hid (L36.out.trans (bt.up L36.out.size HLeb.out.1))
                        have J37 := Lib.hid (J36.out.trans (bt.up J36.out.size HLeb.out.2.1))
                        have B37 : Hid (Row cb _ B u.r.data.length bc u.r.data) := Lib.hid (row_box3 B36.out E36.out (int_not _) (int_not _) (slice_not _ _ _) (.int .i64 0) (.int .i64 0) (.slice B u.r.data.length bc))
                        unfold set3W at B37
                        have Q37 := Lib.hid (cg.cells Q36.out (by decide))
                        have X37 := Lib.hid (cg.cells X36.out (by decide))
                        have D37 := Lib.hid (cg.cells D36.out (by decide))
                        have E37 : Hid (Cells _ eb 39 #[.int .i64 0, .int .i64 0, .slice B u.r.data.length bc]) := Lib.hid (set3 E36.out (.int .i64 0) (.int .i64 0) (.slice B u.r.data.length bc))
                        unfold set3W at E37
                        clear bt cg hHeld y0 f0 y1 f1 y2 f2
                        clear L36 X36 D36 Q36 J36 B36 E36 
                        generalize ((w36.setCell ⟨eb, 0, none⟩ (.int .i64 0)).setCell ⟨eb, 1, none⟩ (.int .i64 0)).setCell ⟨eb, 2, none⟩ (.slice B u.r.data.length bc) = w37 at *
                        refine hK.out _ _ (⟨Cells.cell D37.out 0, Cells.cell D37.out 1, Cells.cell D37.out 2, Cells.cell D37.out 3, Cells.cell X37.out 1, by rw [World.cell?_of_block (w := wK) (J37.out.block b2 HB2.out)]; exact HPC.out, Cells.cell Q37.out 6⟩) (fun hHeld => ?_)
                        clear hK K
                        (try simp only [Act.put, List.setIfInBounds_toArray, List.set_cons_zero, List.set_cons_succ])
                        refine wpAnyH_done (by kernel_rfl) ?_ _
                        clear hHeld
                        go_wp2_with fail
                        go_meet
                        exact ⟨eb, B, bc, rfl, L37, J37, Q37, E37, B37⟩
                    · skip
                      go_simp
                      have bb : Below w32.heap.size w32 (w32.alloc (.cells #[.int .i64 0, .int .i64 0, .int .i64 0, .slice none 0 0] 28)) := (Below.refl _ w32).alloc (Nat.le_refl _) _
                      have A33 := Lib.hid (Cells.new w32 #[.int .i64 0, .int .i64 0, .int .i64 0, .slice none 0 0] 28)
                      have L33 := Lib.hid (L32.out.trans (bb.mono L32.out.size))
                      have X33 := Lib.hid (Cells.below X32.out bb)
                      have D33 := Lib.hid (Cells.below D32.out bb)
                      have U33 := Lib.hid (DevAt.below U32.out bb)
                      have Q33 := Lib.hid (Cells.below Q32.out bb)
                      have J33 := Lib.hid (J32.out.trans (bb.mono J32.out.size))
                      obtain ⟨xa, hxa⟩ : ∃ p, p = w32.heap.size := ⟨_, rfl⟩
                      rw [← hxa] at A33
                      rw [← hxa]
                      have Gxa : Hid (xa = w32.heap.size) := hxa
                      have HLxa : Hid (w.heap.size ≤ xa ∧ wK.heap.size ≤ xa ∧ g8 < xa) := ⟨by have := L32.out.size; omega, by have := J32.out.size; omega, by have := Cells.lt D32.out; omega⟩
                      clear Gxa
                      clear bb hHeld hxa
                      clear L32 X32 D32 U32 Q32 J32 
                      generalize w32.alloc (.cells #[.int .i64 0, .int .i64 0, .int .i64 0, .slice none 0 0] 28) = w33 at *
                      refine hK.out _ _ (⟨Cells.cell D33.out 0, Cells.cell D33.out 1, Cells.cell D33.out 2, Cells.cell D33.out 3, Cells.cell X33.out 1, by rw [World.cell?_of_block (w := wK) (J33.out.block b2 HB2.out)]; exact HPC.out, Cells.cell Q33.out 6⟩) (fun hHeld => ?_)
                      clear hK K
                      (try simp only [Act.put, List.setIfInBounds_toArray, List.set_cons_zero, List.set_cons_succ])
                      refine Reg.step2 11 16 rfl rfl (by kernel_rfl) (by rfl) (by rfl) (fun K hK => ?_) (fun K hK => ?_)
                      · skip
                        go_simp
                        refine (do_land U33.out HXp.out HM1.out (Int.le_of_lt HE.out) HLD2.out HUR.out HPO.out).mono ?_
                        rintro e w34 ⟨Z, B, bc, rfl, hrow, hb⟩
                        have L34 := Lib.hid (L33.out.trans (hb.mono L33.out.size))
                        have X34 := Lib.hid (Cells.below X33.out hb)
                        have D34 := Lib.hid (Cells.below D33.out hb)
                        have U34 := Lib.hid (DevAt.below U33.out hb)
                        have Q34 := Lib.hid (Cells.below Q33.out hb)
                        have J34 := Lib.hid (J33.out.trans (hb.mono J33.out.size))
                        have A34 := Lib.hid (Cells.below A33.out hb)
                        have B34 := Lib.hid hrow
                        clear hb hHeld hrow
                        clear L33 X33 D33 U33 Q33 J33 A33 
                        refine hK.out _ _ (⟨Cells.cell D34.out 0, Cells.cell D34.out 1, Cells.cell D34.out 2, Cells.cell D34.out 3, Cells.cell X34.out 1, by rw [World.cell?_of_block (w := wK) (J34.out.block b2 HB2.out)]; exact HPC.out, Cells.cell Q34.out 6⟩) (fun hHeld => ?_)
                        clear hK K
                        (try simp only [Act.put, List.setIfInBounds_toArray, List.set_cons_zero, List.set_cons_succ])
                        refine Reg.tk 12 rfl ?_
                        refine Reg.tk 13 rfl ?_
                        refine Reg.tk 14 rfl ?_
                        refine Reg.step 16 rfl (by kernel_rfl) (by rfl) (fun K hK => ?_)
                        go_simp
                        have bb : Below w34.heap.size w34 (w34.alloc (.cells #[.int .i64 0, .int .i64 0, .slice none 0 0] 39)) := (Below.refl _ w34).alloc (Nat.le_refl _) _
                        have E35 := Lib.hid (Cells.new w34 #[.int .i64 0, .int .i64 0, .slice none 0 0] 39)
                        have L35 := Lib.hid (L34.out.trans (bb.mono L34.out.size))
                        have X35 := Lib.hid (Cells.below X34.out bb)
                        have D35 := Lib.hid (Cells.below D34.out bb)
                        have U35 := Lib.hid (DevAt.below U34.out bb)
                        have Q35 := Lib.hid (Cells.below Q34.out bb)
                        have J35 := Lib.hid (J34.out.trans (bb.mono J34.out.size))
                        have A35 := Lib.hid (Cells.below A34.out bb)
                        have B35 := Lib.hid (Row.below B34.out bb)
                        obtain ⟨eb, heb⟩ : ∃ p, p = w34.heap.size := ⟨_, rfl⟩
                        rw [← heb] at E35
                        rw [← heb]
                        have Geb : Hid (eb = w34.heap.size) := heb
                        have HLeb : Hid (w.heap.size ≤ eb ∧ wK.heap.size ≤ eb ∧ g8 < eb) := ⟨by have := L34.out.size; omega, by have := J34.out.size; omega, by have := Cells.lt D34.out; omega⟩
                        clear Geb
                        clear bb hHeld heb
                        clear L34 X34 D34 U34 Q34 J34 A34 B34 
                        generalize w34.alloc (.cells #[.int .i64 0, .int .i64 0, .slice none 0 0] 39) = w35 at *
                        refine hK.out _ _ (⟨Cells.cell D35.out 0, Cells.cell D35.out 1, Cells.cell D35.out 2, Cells.cell D35.out 3, Cells.cell X35.out 1, by rw [World.cell?_of_block (w := wK) (J35.out.block b2 HB2.out)]; exact HPC.out, Cells.cell Q35.out 6⟩) (fun hHeld => ?_)
                        clear hK K
                        (try simp only [Act.put, List.setIfInBounds_toArray, List.set_cons_zero, List.set_cons_succ])
                        clear U35
                        have y0 := Cells.cell A35.out 0
                        have f0 := Cells.frozen A35.out 0
                        have y1 := Cells.cell A35.out 1
                        have f1 := Cells.frozen A35.out 1
                        have y2 := Cells.cell A35.out 2
                        have f2 := Cells.frozen A35.out 2
                        have y3 := Cells.cell A35.out 3
                        have f3 := Cells.frozen A35.out 3
                        refine Reg.step 17 rfl (by kernel_rfl) (by rfl) (fun K hK => ?_)
                        go_simp
                        have bt := mov4 w35 xa (.int .i64 Z.cap) (.int .i64 Z.op) (.int .i64 Z.ac) (.slice Z.A Z.n Z.c)
                        unfold set4W at bt
                        have cg := Chg.mov A35.out bt
                        have L36 := Lib.hid (L35.out.trans (bt.up L35.out.size HLxa.out.1))
                        have J36 := Lib.hid (J35.out.trans (bt.up J35.out.size HLxa.out.2.1))
                        have B36 : Hid (Row cb _ B u.r.data.length bc u.r.data) := Lib.hid (row_box4 B35.out A35.out (int_not _) (int_not _) (int_not _) (slice_not _ _ _) (.int .i64 Z.cap) (.int .i64 Z.op) (.int .i64 Z.ac) (.slice Z.A Z.n Z.c))
                        unfold set4W at B36
                        have Q36 := Lib.hid (cg.cells Q35.out (by decide))
                        have X36 := Lib.hid (cg.cells X35.out (by decide))
                        have D36 := Lib.hid (cg.cells_ne D35.out (by have := HLxa.out.2.2; intro e; injection e with e; omega))
                        have E36 := Lib.hid (cg.cells E35.out (by decide))
                        clear bt cg hHeld y0 f0 y1 f1 y2 f2 y3 f3
                        clear L35 X35 D35 Q35 J35 A35 B35 E35 
                        generalize (((w35.setCell ⟨xa, 0, none⟩ (.int .i64 Z.cap)).setCell ⟨xa, 1, none⟩ (.int .i64 Z.op)).setCell ⟨xa, 2, none⟩ (.int .i64 Z.ac)).setCell ⟨xa, 3, none⟩ (.slice Z.A Z.n Z.c) = w36 at *
                        refine hK.out _ _ (⟨Cells.cell D36.out 0, Cells.cell D36.out 1, Cells.cell D36.out 2, Cells.cell D36.out 3, Cells.cell X36.out 1, by rw [World.cell?_of_block (w := wK) (J36.out.block b2 HB2.out)]; exact HPC.out, Cells.cell Q36.out 6⟩) (fun hHeld => ?_)
                        clear hK K
                        (try simp only [Act.put, List.setIfInBounds_toArray, List.set_cons_zero, List.set_cons_succ])
                        have y0 := Cells.cell E36.out 0
                        have f0 := Cells.frozen E36.out 0
                        have y1 := Cells.cell E36.out 1
                        have f1 := Cells.frozen E36.out 1
                        have y2 := Cells.cell E36.out 2
                        have f2 := Cells.frozen E36.out 2
                        refine Reg.step 18 rfl (by kernel_rfl) (by rfl) (fun K hK => ?_)
                        go_simp
                        have bt := mov3 w36 eb (.int .i64 0) (.int .i64 0) (.slice B u.r.data.length bc)
                        unfold set3W at bt
                        have cg := Chg.mov E36.out bt
                        have L37 := Lib.hid (L36.out.trans (bt.up L36.out.size HLeb.out.1))
                        have J37 := Lib.hid (J36.out.trans (bt.up J36.out.size HLeb.out.2.1))
                        have B37 : Hid (Row cb _ B u.r.data.length bc u.r.data) := Lib.hid (row_box3 B36.out E36.out (int_not _) (int_not _) (slice_not _ _ _) (.int .i64 0) (.int .i64 0) (.slice B u.r.data.length bc))
                        unfold set3W at B37
                        have Q37 := Lib.hid (cg.cells Q36.out (by decide))
                        have X37 := Lib.hid (cg.cells X36.out (by decide))
                        have D37 := Lib.hid (cg.cells D36.out (by decide))
                        have E37 : Hid (Cells _ eb 39 #[.int .i64 0, .int .i64 0, .slice B u.r.data.length bc]) := Lib.hid (set3 E36.out (.int .i64 0) (.int .i64 0) (.slice B u.r.data.length bc))
                        unfold set3W at E37
                        clear bt cg hHeld y0 f0 y1 f1 y2 f2
                        clear L36 X36 D36 Q36 J36 B36 E36 
                        generalize ((w36.setCell ⟨eb, 0, none⟩ (.int .i64 0)).setCell ⟨eb, 1, none⟩ (.int .i64 0)).setCell ⟨eb, 2, none⟩ (.slice B u.r.data.length bc) = w37 at *
                        refine hK.out _ _ (⟨Cells.cell D37.out 0, Cells.cell D37.out 1, Cells.cell D37.out 2, Cells.cell D37.out 3, Cells.cell X37.out 1, by rw [World.cell?_of_block (w := wK) (J37.out.block b2 HB2.out)]; exact HPC.out, Cells.cell Q37.out 6⟩) (fun hHeld => ?_)
                        clear hK K
                        (try simp only [Act.put, List.setIfInBounds_toArray, List.set_cons_zero, List.set_cons_succ])
                        refine wpAnyH_done (by kernel_rfl) ?_ _
                        clear hHeld
                        go_wp2_with fail
                        go_meet
                        exact ⟨eb, B, bc, rfl, L37, J37, Q37, E37, B37⟩
                      · skip
                        go_simp
                        have bb : Below w33.heap.size w33 (w33.alloc (.cells #[.int .i64 0, .int .i64 0, .slice none 0 0] 39)) := (Below.refl _ w33).alloc (Nat.le_refl _) _
                        have E34 := Lib.hid (Cells.new w33 #[.int .i64 0, .int .i64 0, .slice none 0 0] 39)
                        have L34 := Lib.hid (L33.out.trans (bb.mono L33.out.size))
                        have X34 := Lib.hid (Cells.below X33.out bb)
                        have D34 := Lib.hid (Cells.below D33.out bb)
                        have U34 := Lib.hid (DevAt.below U33.out bb)
                        have Q34 := Lib.hid (Cells.below Q33.out bb)
                        have J34 := Lib.hid (J33.out.trans (bb.mono J33.out.size))
                        have A34 := Lib.hid (Cells.below A33.out bb)
                        obtain ⟨eb, heb⟩ : ∃ p, p = w33.heap.size := ⟨_, rfl⟩
                        rw [← heb] at E34
                        rw [← heb]
                        have Geb : Hid (eb = w33.heap.size) := heb
                        have HLeb : Hid (w.heap.size ≤ eb ∧ wK.heap.size ≤ eb ∧ g8 < eb) := ⟨by have := L33.out.size; omega, by have := J33.out.size; omega, by have := Cells.lt D33.out; omega⟩
                        clear Geb
                        clear bb hHeld heb
                        clear L33 X33 D33 U33 Q33 J33 A33 
                        generalize w33.alloc (.cells #[.int .i64 0, .int .i64 0, .slice none 0 0] 39) = w34 at *
                        refine hK.out _ _ (⟨Cells.cell D34.out 0, Cells.cell D34.out 1, Cells.cell D34.out 2, Cells.cell D34.out 3, Cells.cell X34.out 1, by rw [World.cell?_of_block (w := wK) (J34.out.block b2 HB2.out)]; exact HPC.out, Cells.cell Q34.out 6⟩) (fun hHeld => ?_)
                        clear hK K
                        (try simp only [Act.put, List.setIfInBounds_toArray, List.set_cons_zero, List.set_cons_succ])
                        refine Reg.step 11 rfl (by kernel_rfl) (by rfl) (fun K hK => ?_)
                        go_simp
                        refine (do_land U34.out HXp.out HM1.out (Int.le_of_lt HE.out) HLD2.out HUR.out HPO.out).mono ?_
                        rintro e w35 ⟨Z, B, bc, rfl, hrow, hb⟩
                        have L35 := Lib.hid (L34.out.trans (hb.mono L34.out.size))
                        have X35 := Lib.hid (Cells.below X34.out hb)
                        have D35 := Lib.hid (Cells.below D34.out hb)
                        have U35 := Lib.hid (DevAt.below U34.out hb)
                        have Q35 := Lib.hid (Cells.below Q34.out hb)
                        have J35 := Lib.hid (J34.out.trans (hb.mono J34.out.size))
                        have A35 := Lib.hid (Cells.below A34.out hb)
                        have E35 := Lib.hid (Cells.below E34.out hb)
                        have B35 := Lib.hid hrow
                        clear hb hHeld hrow
                        clear L34 X34 D34 U34 Q34 J34 A34 E34 
                        refine hK.out _ _ (⟨Cells.cell D35.out 0, Cells.cell D35.out 1, Cells.cell D35.out 2, Cells.cell D35.out 3, Cells.cell X35.out 1, by rw [World.cell?_of_block (w := wK) (J35.out.block b2 HB2.out)]; exact HPC.out, Cells.cell Q35.out 6⟩) (fun hHeld => ?_)
                        clear hK K
                        (try simp only [Act.put, List.setIfInBounds_toArray, List.set_cons_zero, List.set_cons_succ])
                        refine Reg.tk 12 rfl ?_
                        refine Reg.tk 13 rfl ?_
                        refine Reg.tk 14 rfl ?_
                        clear U35
                        have y0 := Cells.cell A35.out 0
                        have f0 := Cells.frozen A35.out 0
                        have y1 := Cells.cell A35.out 1
                        have f1 := Cells.frozen A35.out 1
                        have y2 := Cells.cell A35.out 2
                        have f2 := Cells.frozen A35.out 2
                        have y3 := Cells.cell A35.out 3
                        have f3 := Cells.frozen A35.out 3
                        refine Reg.step 17 rfl (by kernel_rfl) (by rfl) (fun K hK => ?_)
                        go_simp
                        have bt := mov4 w35 xa (.int .i64 Z.cap) (.int .i64 Z.op) (.int .i64 Z.ac) (.slice Z.A Z.n Z.c)
                        unfold set4W at bt
                        have cg := Chg.mov A35.out bt
                        have L36 := Lib.hid (L35.out.trans (bt.up L35.out.size HLxa.out.1))
                        have J36 := Lib.hid (J35.out.trans (bt.up J35.out.size HLxa.out.2.1))
                        have B36 : Hid (Row cb _ B u.r.data.length bc u.r.data) := Lib.hid (row_box4 B35.out A35.out (int_not _) (int_not _) (int_not _) (slice_not _ _ _) (.int .i64 Z.cap) (.int .i64 Z.op) (.int .i64 Z.ac) (.slice Z.A Z.n Z.c))
                        unfold set4W at B36
                        have Q36 := Lib.hid (cg.cells Q35.out (by decide))
                        have X36 := Lib.hid (cg.cells X35.out (by decide))
                        have D36 := Lib.hid (cg.cells_ne D35.out (by have := HLxa.out.2.2; intro e; injection e with e; omega))
                        have E36 := Lib.hid (cg.cells E35.out (by decide))
                        clear bt cg hHeld y0 f0 y1 f1 y2 f2 y3 f3
                        clear L35 X35 D35 Q35 J35 A35 E35 B35 
                        generalize (((w35.setCell ⟨xa, 0, none⟩ (.int .i64 Z.cap)).setCell ⟨xa, 1, none⟩ (.int .i64 Z.op)).setCell ⟨xa, 2, none⟩ (.int .i64 Z.ac)).setCell ⟨xa, 3, none⟩ (.slice Z.A Z.n Z.c) = w36 at *
                        refine hK.out _ _ (⟨Cells.cell D36.out 0, Cells.cell D36.out 1, Cells.cell D36.out 2, Cells.cell D36.out 3, Cells.cell X36.out 1, by rw [World.cell?_of_block (w := wK) (J36.out.block b2 HB2.out)]; exact HPC.out, Cells.cell Q36.out 6⟩) (fun hHeld => ?_)
                        clear hK K
                        (try simp only [Act.put, List.setIfInBounds_toArray, List.set_cons_zero, List.set_cons_succ])
                        have y0 := Cells.cell E36.out 0
                        have f0 := Cells.frozen E36.out 0
                        have y1 := Cells.cell E36.out 1
                        have f1 := Cells.frozen E36.out 1
                        have y2 := Cells.cell E36.out 2
                        have f2 := Cells.frozen E36.out 2
                        refine Reg.step 18 rfl (by kernel_rfl) (by rfl) (fun K hK => ?_)
                        go_simp
                        have bt := mov3 w36 eb (.int .i64 0) (.int .i64 0) (.slice B u.r.data.length bc)
                        unfold set3W at bt
                        have cg := Chg.mov E36.out bt
                        have L37 := Lib.hid (L36.out.trans (bt.up L36.out.size HLeb.out.1))
                        have J37 := Lib.hid (J36.out.trans (bt.up J36.out.size HLeb.out.2.1))
                        have B37 : Hid (Row cb _ B u.r.data.length bc u.r.data) := Lib.hid (row_box3 B36.out E36.out (int_not _) (int_not _) (slice_not _ _ _) (.int .i64 0) (.int .i64 0) (.slice B u.r.data.length bc))
                        unfold set3W at B37
                        have Q37 := Lib.hid (cg.cells Q36.out (by decide))
                        have X37 := Lib.hid (cg.cells X36.out (by decide))
                        have D37 := Lib.hid (cg.cells D36.out (by decide))
                        have E37 : Hid (Cells _ eb 39 #[.int .i64 0, .int .i64 0, .slice B u.r.data.length bc]) := Lib.hid (set3 E36.out (.int .i64 0) (.int .i64 0) (.slice B u.r.data.length bc))
                        unfold set3W at E37
                        clear bt cg hHeld y0 f0 y1 f1 y2 f2
                        clear L36 X36 D36 Q36 J36 E36 B36 
                        generalize ((w36.setCell ⟨eb, 0, none⟩ (.int .i64 0)).setCell ⟨eb, 1, none⟩ (.int .i64 0)).setCell ⟨eb, 2, none⟩ (.slice B u.r.data.length bc) = w37 at *
                        refine hK.out _ _ (⟨Cells.cell D37.out 0, Cells.cell D37.out 1, Cells.cell D37.out 2, Cells.cell D37.out 3, Cells.cell X37.out 1, by rw [World.cell?_of_block (w := wK) (J37.out.block b2 HB2.out)]; exact HPC.out, Cells.cell Q37.out 6⟩) (fun hHeld => ?_)
                        clear hK K
                        (try simp only [Act.put, List.setIfInBounds_toArray, List.set_cons_zero, List.set_cons_succ])
                        refine wpAnyH_done (by kernel_rfl) ?_ _
                        clear hHeld
                        go_wp2_with fail
                        go_meet
                        exact ⟨eb, B, bc, rfl, L37, J37, Q37, E37, B37⟩
                    · skip
                      go_simp
                      have bb : Below w32.heap.size w32 (w32.alloc (.cells #[.int .i64 0, .int .i64 0, .slice none 0 0] 39)) := (Below.refl _ w32).alloc (Nat.le_refl _) _
                      have E33 := Lib.hid (Cells.new w32 #[.int .i64 0, .int .i64 0, .slice none 0 0] 39)
                      have L33 := Lib.hid (L32.out.trans (bb.mono L32.out.size))
                      have X33 := Lib.hid (Cells.below X32.out bb)
                      have D33 := Lib.hid (Cells.below D32.out bb)
                      have U33 := Lib.hid (DevAt.below U32.out bb)
                      have Q33 := Lib.hid (Cells.below Q32.out bb)
                      have J33 := Lib.hid (J32.out.trans (bb.mono J32.out.size))
                      obtain ⟨eb, heb⟩ : ∃ p, p = w32.heap.size := ⟨_, rfl⟩
                      rw [← heb] at E33
                      rw [← heb]
                      have Geb : Hid (eb = w32.heap.size) := heb
                      have HLeb : Hid (w.heap.size ≤ eb ∧ wK.heap.size ≤ eb ∧ g8 < eb) := ⟨by have := L32.out.size; omega, by have := J32.out.size; omega, by have := Cells.lt D32.out; omega⟩
                      clear Geb
                      clear bb hHeld heb
                      clear L32 X32 D32 U32 Q32 J32 
                      generalize w32.alloc (.cells #[.int .i64 0, .int .i64 0, .slice none 0 0] 39) = w33 at *
                      refine hK.out _ _ (⟨Cells.cell D33.out 0, Cells.cell D33.out 1, Cells.cell D33.out 2, Cells.cell D33.out 3, Cells.cell X33.out 1, by rw [World.cell?_of_block (w := wK) (J33.out.block b2 HB2.out)]; exact HPC.out, Cells.cell Q33.out 6⟩) (fun hHeld => ?_)
                      clear hK K
                      (try simp only [Act.put, List.setIfInBounds_toArray, List.set_cons_zero, List.set_cons_succ])
                      refine Reg.step2 11 15 rfl rfl (by kernel_rfl) (by rfl) (by rfl) (fun K hK => ?_) (fun K hK => ?_)
                      · skip
                        go_simp
                        refine (do_land U33.out HXp.out HM1.out (Int.le_of_lt HE.out) HLD2.out HUR.out HPO.out).mono ?_
                        rintro e w34 ⟨Z, B, bc, rfl, hrow, hb⟩
                        have L34 := Lib.hid (L33.out.trans (hb.mono L33.out.size))
                        have X34 := Lib.hid (Cells.below X33.out hb)
                        have D34 := Lib.hid (Cells.below D33.out hb)
                        have U34 := Lib.hid (DevAt.below U33.out hb)
                        have Q34 := Lib.hid (Cells.below Q33.out hb)
                        have J34 := Lib.hid (J33.out.trans (hb.mono J33.out.size))
                        have E34 := Lib.hid (Cells.below E33.out hb)
                        have B34 := Lib.hid hrow
                        clear hb hHeld hrow
                        clear L33 X33 D33 U33 Q33 J33 E33 
                        refine hK.out _ _ (⟨Cells.cell D34.out 0, Cells.cell D34.out 1, Cells.cell D34.out 2, Cells.cell D34.out 3, Cells.cell X34.out 1, by rw [World.cell?_of_block (w := wK) (J34.out.block b2 HB2.out)]; exact HPC.out, Cells.cell Q34.out 6⟩) (fun hHeld => ?_)
                        clear hK K
                        (try simp only [Act.put, List.setIfInBounds_toArray, List.set_cons_zero, List.set_cons_succ])
                        refine Reg.tk 12 rfl ?_
                        refine Reg.tk 13 rfl ?_
                        refine Reg.tk 14 rfl ?_
                        refine Reg.step 15 rfl (by kernel_rfl) (by rfl) (fun K hK => ?_)
                        go_simp
                        have bb : Below w34.heap.size w34 (w34.alloc (.cells #[.int .i64 0, .int .i64 0, .int .i64 0, .slice none 0 0] 28)) := (Below.refl _ w34).alloc (Nat.le_refl _) _
                        have A35 := Lib.hid (Cells.new w34 #[.int .i64 0, .int .i64 0, .int .i64 0, .slice none 0 0] 28)
                        have L35 := Lib.hid (L34.out.trans (bb.mono L34.out.size))
                        have X35 := Lib.hid (Cells.below X34.out bb)
                        have D35 := Lib.hid (Cells.below D34.out bb)
                        have U35 := Lib.hid (DevAt.below U34.out bb)
                        have Q35 := Lib.hid (Cells.below Q34.out bb)
                        have J35 := Lib.hid (J34.out.trans (bb.mono J34.out.size))
                        have E35 := Lib.hid (Cells.below E34.out bb)
                        have B35 := Lib.hid (Row.below B34.out bb)
                        obtain ⟨xa, hxa⟩ : ∃ p, p = w34.heap.size := ⟨_, rfl⟩
                        rw [← hxa] at A35
                        rw [← hxa]
                        have Gxa : Hid (xa = w34.heap.size) := hxa
                        have HLxa : Hid (w.heap.size ≤ xa ∧ wK.heap.size ≤ xa ∧ g8 < xa) := ⟨by have := L34.out.size; omega, by have := J34.out.size; omega, by have := Cells.lt D34.out; omega⟩
                        clear Gxa
                        clear bb hHeld hxa
                        clear L34 X34 D34 U34 Q34 J34 E34 B34 
                        generalize w34.alloc (.cells #[.int .i64 0, .int .i64 0, .int .i64 0, .slice none 0 0] 28) = w35 at *
                        refine hK.out _ _ (⟨Cells.cell D35.out 0, Cells.cell D35.out 1, Cells.cell D35.out 2, Cells.cell D35.out 3, Cells.cell X35.out 1, by rw [World.cell?_of_block (w := wK) (J35.out.block b2 HB2.out)]; exact HPC.out, Cells.cell Q35.out 6⟩) (fun hHeld => ?_)
                        clear hK K
                        (try simp only [Act.put, List.setIfInBounds_toArray, List.set_cons_zero, List.set_cons_succ])
                        clear U35
                        have y0 := Cells.cell A35.out 0
                        have f0 := Cells.frozen A35.out 0
                        have y1 := Cells.cell A35.out 1
                        have f1 := Cells.frozen A35.out 1
                        have y2 := Cells.cell A35.out 2
                        have f2 := Cells.frozen A35.out 2
                        have y3 := Cells.cell A35.out 3
                        have f3 := Cells.frozen A35.out 3
                        refine Reg.step 17 rfl (by kernel_rfl) (by rfl) (fun K hK => ?_)
                        go_simp
                        have bt := mov4 w35 xa (.int .i64 Z.cap) (.int .i64 Z.op) (.int .i64 Z.ac) (.slice Z.A Z.n Z.c)
                        unfold set4W at bt
                        have cg := Chg.mov A35.out bt
                        have L36 := Lib.hid (L35.out.trans (bt.up L35.out.size HLxa.out.1))
                        have J36 := Lib.hid (J35.out.trans (bt.up J35.out.size HLxa.out.2.1))
                        have B36 : Hid (Row cb _ B u.r.data.length bc u.r.data) := Lib.hid (row_box4 B35.out A35.out (int_not _) (int_not _) (int_not _) (slice_not _ _ _) (.int .i64 Z.cap) (.int .i64 Z.op) (.int .i64 Z.ac) (.slice Z.A Z.n Z.c))
                        unfold set4W at B36
                        have Q36 := Lib.hid (cg.cells Q35.out (by decide))
                        have X36 := Lib.hid (cg.cells X35.out (by decide))
                        have D36 := Lib.hid (cg.cells_ne D35.out (by have := HLxa.out.2.2; intro e; injection e with e; omega))
                        have E36 := Lib.hid (cg.cells E35.out (by decide))
                        clear bt cg hHeld y0 f0 y1 f1 y2 f2 y3 f3
                        clear L35 X35 D35 Q35 J35 E35 B35 A35 
                        generalize (((w35.setCell ⟨xa, 0, none⟩ (.int .i64 Z.cap)).setCell ⟨xa, 1, none⟩ (.int .i64 Z.op)).setCell ⟨xa, 2, none⟩ (.int .i64 Z.ac)).setCell ⟨xa, 3, none⟩ (.slice Z.A Z.n Z.c) = w36 at *
                        refine hK.out _ _ (⟨Cells.cell D36.out 0, Cells.cell D36.out 1, Cells.cell D36.out 2, Cells.cell D36.out 3, Cells.cell X36.out 1, by rw [World.cell?_of_block (w := wK) (J36.out.block b2 HB2.out)]; exact HPC.out, Cells.cell Q36.out 6⟩) (fun hHeld => ?_)
                        clear hK K
                        (try simp only [Act.put, List.setIfInBounds_toArray, List.set_cons_zero, List.set_cons_succ])
                        have y0 := Cells.cell E36.out 0
                        have f0 := Cells.frozen E36.out 0
                        have y1 := Cells.cell E36.out 1
                        have f1 := Cells.frozen E36.out 1
                        have y2 := Cells.cell E36.out 2
                        have f2 := Cells.frozen E36.out 2
                        refine Reg.step 18 rfl (by kernel_rfl) (by rfl) (fun K hK => ?_)
                        go_simp
                        have bt := mov3 w36 eb (.int .i64 0) (.int .i64 0) (.slice B u.r.data.length bc)
                        unfold set3W at bt
                        have cg := Chg.mov E36.out bt
                        have L37 := Lib.hid (L36.out.trans (bt.up L36.out.size HLeb.out.1))
                        have J37 := Lib.hid (J36.out.trans (bt.up J36.out.size HLeb.out.2.1))
                        have B37 : Hid (Row cb _ B u.r.data.length bc u.r.data) := Lib.hid (row_box3 B36.out E36.out (int_not _) (int_not _) (slice_not _ _ _) (.int .i64 0) (.int .i64 0) (.slice B u.r.data.length bc))
                        unfold set3W at B37
                        have Q37 := Lib.hid (cg.cells Q36.out (by decide))
                        have X37 := Lib.hid (cg.cells X36.out (by decide))
                        have D37 := Lib.hid (cg.cells D36.out (by decide))
                        have E37 : Hid (Cells _ eb 39 #[.int .i64 0, .int .i64 0, .slice B u.r.data.length bc]) := Lib.hid (set3 E36.out (.int .i64 0) (.int .i64 0) (.slice B u.r.data.length bc))
                        unfold set3W at E37
                        clear bt cg hHeld y0 f0 y1 f1 y2 f2
                        clear L36 X36 D36 Q36 J36 E36 B36 
                        generalize ((w36.setCell ⟨eb, 0, none⟩ (.int .i64 0)).setCell ⟨eb, 1, none⟩ (.int .i64 0)).setCell ⟨eb, 2, none⟩ (.slice B u.r.data.length bc) = w37 at *
                        refine hK.out _ _ (⟨Cells.cell D37.out 0, Cells.cell D37.out 1, Cells.cell D37.out 2, Cells.cell D37.out 3, Cells.cell X37.out 1, by rw [World.cell?_of_block (w := wK) (J37.out.block b2 HB2.out)]; exact HPC.out, Cells.cell Q37.out 6⟩) (fun hHeld => ?_)
                        clear hK K
                        (try simp only [Act.put, List.setIfInBounds_toArray, List.set_cons_zero, List.set_cons_succ])
                        refine wpAnyH_done (by kernel_rfl) ?_ _
                        clear hHeld
                        go_wp2_with fail
                        go_meet
                        exact ⟨eb, B, bc, rfl, L37, J37, Q37, E37, B37⟩
                      · skip
                        go_simp
                        have bb : Below w33.heap.size w33 (w33.alloc (.cells #[.int .i64 0, .int .i64 0, .int .i64 0, .slice none 0 0] 28)) := (Below.refl _ w33).alloc (Nat.le_refl _) _
                        have A34 := Lib.hid (Cells.new w33 #[.int .i64 0, .int .i64 0, .int .i64 0, .slice none 0 0] 28)
                        have L34 := Lib.hid (L33.out.trans (bb.mono L33.out.size))
                        have X34 := Lib.hid (Cells.below X33.out bb)
                        have D34 := Lib.hid (Cells.below D33.out bb)
                        have U34 := Lib.hid (DevAt.below U33.out bb)
                        have Q34 := Lib.hid (Cells.below Q33.out bb)
                        have J34 := Lib.hid (J33.out.trans (bb.mono J33.out.size))
                        have E34 := Lib.hid (Cells.below E33.out bb)
                        obtain ⟨xa, hxa⟩ : ∃ p, p = w33.heap.size := ⟨_, rfl⟩
                        rw [← hxa] at A34
                        rw [← hxa]
                        have Gxa : Hid (xa = w33.heap.size) := hxa
                        have HLxa : Hid (w.heap.size ≤ xa ∧ wK.heap.size ≤ xa ∧ g8 < xa) := ⟨by have := L33.out.size; omega, by have := J33.out.size; omega, by have := Cells.lt D33.out; omega⟩
                        clear Gxa
                        clear bb hHeld hxa
                        clear L33 X33 D33 U33 Q33 J33 E33 
                        generalize w33.alloc (.cells #[.int .i64 0, .int .i64 0, .int .i64 0, .slice none 0 0] 28) = w34 at *
                        refine hK.out _ _ (⟨Cells.cell D34.out 0, Cells.cell D34.out 1, Cells.cell D34.out 2, Cells.cell D34.out 3, Cells.cell X34.out 1, by rw [World.cell?_of_block (w := wK) (J34.out.block b2 HB2.out)]; exact HPC.out, Cells.cell Q34.out 6⟩) (fun hHeld => ?_)
                        clear hK K
                        (try simp only [Act.put, List.setIfInBounds_toArray, List.set_cons_zero, List.set_cons_succ])
                        refine Reg.step 11 rfl (by kernel_rfl) (by rfl) (fun K hK => ?_)
                        go_simp
                        refine (do_land U34.out HXp.out HM1.out (Int.le_of_lt HE.out) HLD2.out HUR.out HPO.out).mono ?_
                        rintro e w35 ⟨Z, B, bc, rfl, hrow, hb⟩
                        have L35 := Lib.hid (L34.out.trans (hb.mono L34.out.size))
                        have X35 := Lib.hid (Cells.below X34.out hb)
                        have D35 := Lib.hid (Cells.below D34.out hb)
                        have U35 := Lib.hid (DevAt.below U34.out hb)
                        have Q35 := Lib.hid (Cells.below Q34.out hb)
                        have J35 := Lib.hid (J34.out.trans (hb.mono J34.out.size))
                        have E35 := Lib.hid (Cells.below E34.out hb)
                        have A35 := Lib.hid (Cells.below A34.out hb)
                        have B35 := Lib.hid hrow
                        clear hb hHeld hrow
                        clear L34 X34 D34 U34 Q34 J34 E34 A34 
                        refine hK.out _ _ (⟨Cells.cell D35.out 0, Cells.cell D35.out 1, Cells.cell D35.out 2, Cells.cell D35.out 3, Cells.cell X35.out 1, by rw [World.cell?_of_block (w := wK) (J35.out.block b2 HB2.out)]; exact HPC.out, Cells.cell Q35.out 6⟩) (fun hHeld => ?_)
                        clear hK K
                        (try simp only [Act.put, List.setIfInBounds_toArray, List.set_cons_zero, List.set_cons_succ])
                        refine Reg.tk 12 rfl ?_
                        refine Reg.tk 13 rfl ?_
                        refine Reg.tk 14 rfl ?_
                        clear U35
                        have y0 := Cells.cell A35.out 0
                        have f0 := Cells.frozen A35.out 0
                        have y1 := Cells.cell A35.out 1
                        have f1 := Cells.frozen A35.out 1
                        have y2 := Cells.cell A35.out 2
                        have f2 := Cells.frozen A35.out 2
                        have y3 := Cells.cell A35.out 3
                        have f3 := Cells.frozen A35.out 3
                        refine Reg.step 17 rfl (by kernel_rfl) (by rfl) (fun K hK => ?_)
                        go_simp
                        have bt := mov4 w35 xa (.int .i64 Z.cap) (.int .i64 Z.op) (.int .i64 Z.ac) (.slice Z.A Z.n Z.c)
                        unfold set4W at bt
                        have cg := Chg.mov A35.out bt
                        have L36 := Lib.hid (L35.out.trans (bt.up L35.out.size HLxa.out.1))
                        have J36 := Lib.hid (J35.out.trans (bt.up J35.out.size HLxa.out.2.1))
                        have B36 : Hid (Row cb _ B u.r.data.length bc u.r.data) := Lib.hid (row_box4 B35.out A35.out (int_not _) (int_not _) (int_not _) (slice_not _ _ _) (.int .i64 Z.cap) (.int .i64 Z.op) (.int .i64 Z.ac) (.slice Z.A Z.n Z.c))
                        unfold set4W at B36
                        have Q36 := Lib.hid (cg.cells Q35.out (by decide))
                        have X36 := Lib.hid (cg.cells X35.out (by decide))
                        have D36 := Lib.hid (cg.cells_ne D35.out (by have := HLxa.out.2.2; intro e; injection e with e; omega))
                        have E36 := Lib.hid (cg.cells E35.out (by decide))
                        clear bt cg hHeld y0 f0 y1 f1 y2 f2 y3 f3
                        clear L35 X35 D35 Q35 J35 E35 A35 B35 
                        generalize (((w35.setCell ⟨xa, 0, none⟩ (.int .i64 Z.cap)).setCell ⟨xa, 1, none⟩ (.int .i64 Z.op)).setCell ⟨xa, 2, none⟩ (.int .i64 Z.ac)).setCell ⟨xa, 3, none⟩ (.slice Z.A Z.n Z.c) = w36 at *
                        refine hK.out _ _ (⟨Cells.cell D36.out 0, Cells.cell D36.out 1, Cells.cell D36.out 2, Cells.cell D36.out 3, Cells.cell X36.out 1, by rw [World.cell?_of_block (w := wK) (J36.out.block b2 HB2.out)]; exact HPC.out, Cells.cell Q36.out 6⟩) (fun hHeld => ?_)
                        clear hK K
                        (try simp only [Act.put, List.setIfInBounds_toArray, List.set_cons_zero, List.set_cons_succ])
                        have y0 := Cells.cell E36.out 0
                        have f0 := Cells.frozen E36.out 0
                        have y1 := Cells.cell E36.out 1
                        have f1 := Cells.frozen E36.out 1
                        have y2 := Cells.cell E36.out 2
                        have f2 := Cells.frozen E36.out 2
                        refine Reg.step 18 rfl (by kernel_rfl) (by rfl) (fun K hK => ?_)
                        go_simp
                        have bt := mov3 w36 eb (.int .i64 0) (.int .i64 0) (.slice B u.r.data.length bc)
                        unfold set3W at bt
                        have cg := Chg.mov E36.out bt
                        have L37 := Lib.hid (L36.out.trans (bt.up L36.out.size HLeb.out.1))
                        have J37 := Lib.hid (J36.out.trans (bt.up J36.out.size HLeb.out.2.1))
                        have B37 : Hid (Row cb _ B u.r.data.length bc u.r.data) := Lib.hid (row_box3 B36.out E36.out (int_not _) (int_not _) (slice_not _ _ _) (.int .i64 0) (.int .i64 0) (.slice B u.r.data.length bc))
                        unfold set3W at B37
                        have Q37 := Lib.hid (cg.cells Q36.out (by decide))
                        have X37 := Lib.hid (cg.cells X36.out (by decide))
                        have D37 := Lib.hid (cg.cells D36.out (by decide))
                        have E37 : Hid (Cells _ eb 39 #[.int .i64 0, .int .i64 0, .slice B u.r.data.length bc]) := Lib.hid (set3 E36.out (.int .i64 0) (.int .i64 0) (.slice B u.r.data.length bc))
                        unfold set3W at E37
                        clear bt cg hHeld y0 f0 y1 f1 y2 f2
                        clear L36 X36 D36 Q36 J36 E36 B36 
                        generalize ((w36.setCell ⟨eb, 0, none⟩ (.int .i64 0)).setCell ⟨eb, 1, none⟩ (.int .i64 0)).setCell ⟨eb, 2, none⟩ (.slice B u.r.data.length bc) = w37 at *
                        refine hK.out _ _ (⟨Cells.cell D37.out 0, Cells.cell D37.out 1, Cells.cell D37.out 2, Cells.cell D37.out 3, Cells.cell X37.out 1, by rw [World.cell?_of_block (w := wK) (J37.out.block b2 HB2.out)]; exact HPC.out, Cells.cell Q37.out 6⟩) (fun hHeld => ?_)
                        clear hK K
                        (try simp only [Act.put, List.setIfInBounds_toArray, List.set_cons_zero, List.set_cons_succ])
                        refine wpAnyH_done (by kernel_rfl) ?_ _
                        clear hHeld
                        go_wp2_with fail
                        go_meet
                        exact ⟨eb, B, bc, rfl, L37, J37, Q37, E37, B37⟩
                  case rest =>
                    obtain ⟨eb, B, bc, rfl, L40, J40, Q40, E40, B40⟩ := hcut
                    obtain ⟨w40, hw40⟩ : ∃ x, x = wc := ⟨_, rfl⟩
                    subst hw40
                    have hwb : wn ≤ 65536 := HWN.out
                    have s1 := run_str B40.out
                    have s2 := run_str (HUD.out.below L40.out)
                    have hbq : ((str u.r.data).toList == (str u.r.data).toList) = true := by rw [str_beq]; simp
                    obtain ⟨m0, m1, m2⟩ : w40.cell? ⟨eb, 0, none⟩ = some (.int .i64 0) ∧ w40.cell? ⟨eb, 2, none⟩ = some (.slice B u.r.data.length bc) ∧ w40.cell? ⟨rb, 6, none⟩ = some (.slice u.D u.r.data.length u.c) := ⟨Cells.cell E40.out 0, Cells.cell E40.out 2, Cells.cell Q40.out 6⟩
                    go_wp2_with fail
                    go_roundw
                    case rel => exact ⟨k + 1, by go_num, by omega, J40⟩
                    case measure => simp [intOf]; omega
                · obtain rfl : k = wn := by omega
                  go_wp2_with fail
                  go_ret
                  exact ⟨rfl, L14.out.trans (K1.out.mono L14.out.size)⟩
    · have hz : h.epoch = 0 := hE.symm
      have HDO : Hid (Calls Tryz.prog 7 #[.agg #[.int .i64 X0.cap, .int .i64 X0.op, .int .i64 X0.ac, .slice X0.A X0.n X0.c], .agg #[.int .i64 7, .int .i64 1, .int .i64 h.epoch, .int .i64 0, .int .i64 0, .slice none 0 0]] w6 (Did2 w6 (devP M 0 []) 42 0 [])) := by
        rw [hz]
        exact do_fence0 V6.out HX0.out HN0.out HM1.out.1 HM1.out.2
      have hd0 : (h.epoch == 0) = true := by rw [hz]; rfl
      clear hE hE0 hz
      have q0 := Cells.cell X6.out 0
      have q1 := Cells.cell X6.out 1
      have q2 := Cells.cell X6.out 2
      have k0 := Cells.cell D6.out 0
      have k1 := Cells.cell D6.out 1
      have k2 := Cells.cell D6.out 2
      have k3 := Cells.cell D6.out 3
      (try dsimp only at q0 q1 q2 k0 k1 k2 k3)
      go_upto_region 10 with (go_at_call 7; refine HDO.out.mono ?_; rintro e w7 ⟨X1, B1, b1, rfl, hd, hp, hn, hrow, hfr, hb⟩; have L7 := Lib.hid (L6.out.trans (hb.mono L6.out.size)); have X7 := Lib.hid (Cells.below X6.out hb); have V7 := Lib.hid (DevAt.below V6.out hb); have D7 := Lib.hid (Cells.below D6.out hb); have Y7 := Lib.hid (OwnP.below Y6.out hb); have Q7 := Lib.hid (Cells.below Q6.out hb); have HX1 := Lib.hid hp; have HN1 := Lib.hid hn; have U7 := Lib.hid hd; have FR1 := Lib.hid hfr; clear hp hn hd hrow hfr; have bb : Below w7.heap.size w7 (w7.alloc (.cells #[.int .i64 0, .int .i64 0, .slice none 0 0] 39)) := (Below.refl _ w7).alloc (Nat.le_refl _) _; have D8 := Lib.hid (Cells.below D7.out bb); have bt := mov4 (w7.alloc (.cells #[.int .i64 0, .int .i64 0, .slice none 0 0] 39)) g8 (.int .i64 X1.cap) (.int .i64 X1.op) (.int .i64 X1.ac) (.slice X1.A X1.n X1.c); unfold set4W at bt; have cg := Chg.mov D8.out bt; have E8 := Lib.hid (cg.cells (Cells.new w7 #[.int .i64 0, .int .i64 0, .slice none 0 0] 39) (by decide)); have z0 := Cells.cell D8.out 0; have f0 := Cells.frozen D8.out 0; have z1 := Cells.cell D8.out 1; have f1 := Cells.frozen D8.out 1; have z2 := Cells.cell D8.out 2; have f2 := Cells.frozen D8.out 2; have z3 := Cells.cell D8.out 3; have f3 := Cells.frozen D8.out 3; have y0 := Cells.cell E8.out 0; have e0 := Cells.frozen E8.out 0; have y1 := Cells.cell E8.out 1; have e1 := Cells.frozen E8.out 1; have y2 := Cells.cell E8.out 2; have e2 := Cells.frozen E8.out 2; (try dsimp only at z0 z1 z2 z3 y0 y1 y2); clear L6 X6 V6 D6 Y6 Q6 hb q0 q1 q2 k0 k1 k2 k3 HDO)
      clear z0 f0 z1 f1 z2 f2 z3 f3 bt cg D8 E8 V7
      clear y0 e0 y1 e1 y2 e2
      have E8 : Hid (Cells (w7.alloc (.cells #[.int .i64 0, .int .i64 0, .slice none 0 0] 39)) w7.heap.size 39 #[.int .i64 0, .int .i64 0, .slice none 0 0]) := Cells.new _ _ _
      have HA12 : Hid (Apd X1 (some w7.heap.size)) := Lib.hid ((Apd.none_ X1).new U7.out (.inr rfl))
      have LE : Hid (g10 < w7.heap.size) := Cells.lt Q7.out
      have L8 := Lib.hid (L7.out.trans (bb.mono L7.out.size))
      have X8 := Lib.hid (Cells.below X7.out bb)
      have D8 := Lib.hid (Cells.below D7.out bb)
      have Q8 := Lib.hid (Cells.below Q7.out bb)
      have Y8 := Lib.hid (OwnP.below Y7.out bb)
      have U8 := Lib.hid (DevAt.below U7.out bb)
      clear L7 X7 D7 Q7 Y7 U7 bb
      generalize w7.alloc (.cells #[.int .i64 0, .int .i64 0, .slice none 0 0] 39) = w8 at *
      generalize w7.heap.size = g12 at *
      have LG := Lib.hid LQ.out
      clear LQ
      have bt := mov4 w8 g8 (.int .i64 X1.cap) (.int .i64 X1.op) (.int .i64 X1.ac) (.slice X1.A X1.n X1.c)
      unfold set4W at bt
      have cg := Chg.mov D8.out bt
      have L9 := Lib.hid (L8.out.trans (bt.up L8.out.size LW.out))
      have D9 : Hid (Cells _ g8 28 #[.int .i64 X1.cap, .int .i64 X1.op, .int .i64 X1.ac, .slice X1.A X1.n X1.c]) := Lib.hid (set4 D8.out (.int .i64 X1.cap) (.int .i64 X1.op) (.int .i64 X1.ac) (.slice X1.A X1.n X1.c))
      unfold set4W at D9
      have X9 := Lib.hid (Chg.cells cg X8.out (by decide))
      have Q9 := Lib.hid (Chg.cells cg Q8.out (by decide))
      have Y9 := Lib.hid (OwnP.chg Y8.out cg (by decide) (by decide))
      have U9 := Lib.hid (DevAt.grown U8.out cg.by_ (FR1.out.box (by have := LD.out; have := LB.out; omega)))
      have E9 := Lib.hid (Chg.cells cg E8.out (by decide))
      clear bt cg L8 X8 D8 Q8 Y8 U8 E8
      generalize (((w8.setCell ⟨g8, 0, none⟩ (.int .i64 X1.cap)).setCell ⟨g8, 1, none⟩ (.int .i64 X1.op)).setCell ⟨g8, 2, none⟩ (.int .i64 X1.ac)).setCell ⟨g8, 3, none⟩ (.slice X1.A X1.n X1.c) = w9 at *
      have bt := mov3 w9 g12 (.int .i64 42) (.int .i64 0) (.slice B1 0 b1)
      unfold set3W at bt
      have cg := Chg.mov E9.out bt
      have L10 := Lib.hid (L9.out.trans (bt.up L9.out.size (by have := LG.out; have := LE.out; omega)))
      have E10 : Hid (Cells _ g12 39 #[.int .i64 42, .int .i64 0, .slice B1 0 b1]) := Lib.hid (set3 E9.out (.int .i64 42) (.int .i64 0) (.slice B1 0 b1))
      unfold set3W at E10
      have X10 := Lib.hid (Chg.cells cg X9.out (by decide))
      have D10 := Lib.hid (Chg.cells cg D9.out (by decide))
      have Q10 := Lib.hid (Chg.cells cg Q9.out (by decide))
      have Y10 := Lib.hid (OwnP.chg Y9.out cg (by decide) (by decide))
      have U10 := Lib.hid (DevAt.grown U9.out cg.by_ (HA12.out))
      clear bt cg L9 X9 D9 Q9 Y9 U9 E9
      generalize ((w9.setCell ⟨g12, 0, none⟩ (.int .i64 42)).setCell ⟨g12, 1, none⟩ (.int .i64 0)).setCell ⟨g12, 2, none⟩ (.slice B1 0 b1) = w10 at *
      have m0 := Cells.cell E10.out 0
      have m1 := Cells.cell X10.out 1
      (try dsimp only at m0 m1)
      go_wp2_with fail
      go_ret
      exact ⟨rfl, L10.out⟩
  · go_wp2_with (go_at_call 6; refine (HBG w4).out.mono ?_; rintro e w5 ⟨Y0, rfl, hp, hO, hb⟩; have L5 := Lib.hid (L4.out.trans (hb.mono L4.out.size)); clear hb hO; unfold pxv)
    go_ret
    exact ⟨rfl, L5.out.alloc L5.out.size _⟩
  · go_wp2_with (go_at_call 6; refine (HBG w4).out.mono ?_; rintro e w5 ⟨Y0, rfl, hp, hO, hb⟩; have L5 := Lib.hid (L4.out.trans (hb.mono L4.out.size)); clear hb hO; unfold pxv)
    go_ret
    exact ⟨rfl, L5.out.alloc L5.out.size _⟩
end Pk
end Go.Proofs.YtedandbkdjmfhaaGreat
