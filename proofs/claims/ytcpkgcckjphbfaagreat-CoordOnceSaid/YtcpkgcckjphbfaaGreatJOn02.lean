/-
  SEVERAL TEXTS IN ONE FILE: CooOnce, CooArgs, CooOnceRow.
-/
import Derived.Test.YtcpkgcckjphbfaaGreatJ33
import Derived.Test.YtcpkgcckjphbfaaGreatJOn01
import Derived.Test.YtcpkgcckjphbfaaGreatJ07
import Derived.Test.YtcpkgcckjphbfaaGreatJ31
import Derived.Test.YtcpkgcckjphbfaaGreatJ04
import Derived.BigQuiet
/-
  THE STATEMENT CoordOnce. For every input. (Written by gen_coolaws.py.)
-/
namespace Go.Proofs.YtcpkgcckjphbfaaGreat
open Go.RowKit Mem
namespace Coo
open Lea (Cells But OneBox Lv Tv)
open Spa (Sp)

set_option maxRecDepth 100000 in
set_option maxHeartbeats 51200000 in
theorem coordOnce_walk {L : Option Addr} {m lc : Nat} {l : List Ev} {w : World} (zones ttl : Int) (hl : RowS cellsE 8 w L m lc l) :
    Calls Tryz.prog 3 #[.int .i64 zones, .int .i64 ttl, .slice L m lc] w fun e w' => e = .returned (.bool true) ∧ Below w.heap.size w w' := by
  have HF := fun W (h : Below w.heap.size w W) => Lib.hid (few_any (hl.below h))
  have HL := Lib.hid hl
  have HLN := Lib.hid hl.len
  have HBG := fun W => Lib.hid (begin_any zones ttl W)
  clear hl
  go_enter Tryz.func3, Tryz.ntmps3
  go_wp2_with fail
  refine (live_any w).mono ?_
  rintro e w1 ⟨rfl, hb⟩
  have L1 := Lib.hid hb
  clear hb
  have hF := HF w1 L1.out
  clear HF
  rcases hf : fewE l
  · rw [hf] at hF
    go_wp2_with fail
    refine hF.out.mono ?_
    rintro e w2 ⟨rfl, hb⟩
    have L2 := Lib.hid (L1.out.trans (hb.mono L1.out.size))
    clear hb
    go_wp2_with fail
    go_ret
    exact ⟨rfl, L2.out⟩
  rw [hf] at hF
  have FEW := Lib.hid (fewE_iff.1 hf)
  clear hf
  go_wp2_with fail
  refine hF.out.mono ?_
  rintro e w2 ⟨rfl, hb⟩
  have L2 := Lib.hid (L1.out.trans (hb.mono L1.out.size))
  clear hb L1 hF
  go_wp2_with fail
  refine (HBG w2).out.mono ?_
  rintro e w3 ⟨x, z, t, rfl, hz, ht, hp, hat, hb, -⟩
  have bb : Below w3.heap.size w3 (w3.alloc (.cells #[.int .i64 x.p.t.last, .int .i64 x.p.t.now, .slice x.A x.n x.a, .slice x.S x.m x.s, .slice x.W x.q x.k, .int .i64 x.p.ttl, .int .i64 x.p.zones] 31)) := (Below.refl _ w3).alloc (Nat.le_refl _) _
  have L4 : Hid (Below w.heap.size w (w3.alloc (.cells #[.int .i64 x.p.t.last, .int .i64 x.p.t.now, .slice x.A x.n x.a, .slice x.S x.m x.s, .slice x.W x.q x.k, .int .i64 x.p.ttl, .int .i64 x.p.zones] 31))) := (L2.out.trans (hb.mono L2.out.size)).trans (bb.mono (L2.out.trans (hb.mono L2.out.size)).size)
  have G4 : Hid (w.heap.size ≤ w3.heap.size) := (L2.out.trans (hb.mono L2.out.size)).size
  have C4 : Hid (CBox (w3.alloc (.cells #[.int .i64 x.p.t.last, .int .i64 x.p.t.now, .slice x.A x.n x.a, .slice x.S x.m x.s, .slice x.W x.q x.k, .int .i64 x.p.ttl, .int .i64 x.p.zones] 31)) w3.heap.size x) := Cells.new w3 _ _
  have A4 := Lib.hid (hat.below bb)
  have I4 : Hid (Inv x.p) := by rw [hp]; exact new_inv (by omega) (by omega) (by omega)
  have B4 : Hid (Bd x.p 0) := by rw [hp]; exact new_bd (by omega)
  have T4 : Hid (x.p.t.last = 0 ∧ x.p.t.l = []) := by rw [hp]; exact ⟨rfl, rfl⟩
  clear bb hb hat hp hz ht HBG L2
  go_upto_region 7 with fail
  generalize w3.alloc (.cells #[.int .i64 x.p.t.last, .int .i64 x.p.t.now, .slice x.A x.n x.a, .slice x.S x.m x.s, .slice x.W x.q x.k, .int .i64 x.p.ttl, .int .i64 x.p.zones] 31) = w4 at *
  generalize w3.heap.size = gc at *
  have L5 : Hid (Below w.heap.size w (w4.alloc (.map #[] 0))) := L4.out.alloc L4.out.size _
  have C5 : Hid (CBox (w4.alloc (.map #[] 0)) gc x) := Cells.alloc C4.out _
  have A5 := Lib.hid (A4.out.below ((Below.refl w4.heap.size w4).alloc (Nat.le_refl _) (.map #[] 0)))
  have M5 : Hid (FMap (w4.alloc (.map #[] 0)) w4.heap.size []) := FMap.made w4
  have GM : Hid (w.heap.size ≤ w4.heap.size) := L4.out.size
  have F5 : Hid (FenOk x.p []) := by intro y hy; rw [T4.out.2] at hy; cases hy
  have hbig := HL.out.big
  clear L4 C4 A4
  have hmm := @run_makeMap Tryz.prog
  go_upto_region 9 with fail
  clear hmm
  generalize w4.alloc (.map #[] 0) = w5 at *
  generalize w4.heap.size = gm at *
  go_wp2
  go_loopw [10, 43] (fun la i wr => ∃ (j : Nat) (X : Cx) (ks : List (Int × Int)), la = .int .i64 X.p.t.last ∧ i = .int .i64 j ∧ j ≤ m ∧ Hid (Below w.heap.size w wr ∧ CBox wr gc X ∧ CoordAt wr X ∧ FMap wr gm ks ∧ Inv X.p ∧ Bd X.p j ∧ FenOk X.p ks)) (fun _ i _ => m - (intOf i).toNat)
  case atStart => exact ⟨0, x, [], by rw [T4.out.1], rfl, by omega, L5.out, C5.out, A5.out, M5.out, I4.out, B4.out, F5.out⟩
  case round =>
    obtain ⟨j, X, ks, rfl, rfl, hj, hH⟩ := hrel
    by_cases hlt : j < m
    · obtain ⟨ev, hev⟩ := HL.out.get hlt
      have hnow := FEW.out.1 ev (List.mem_of_getElem? hev)
      have hm100 := FEW.out.2
      have hml := HLN.out
      obtain ⟨t1, t2, t3, t4, t5, t6, t7⟩ := hH.out
      have LX := Lib.hid t1
      have CX := Lib.hid t2
      have AX := Lib.hid t3
      have MX := Lib.hid t4
      have IX := Lib.hid t5
      have BX := Lib.hid t6
      have FX := Lib.hid t7
      have HM100 : Hid (m ≤ 100) := by show _ ≤ _; omega
      have HNX : Hid (X.n ≤ 1000000 ∧ X.m ≤ 1000000 ∧ X.q ≤ 1000000) := ⟨by have h1 := t3.l.len; have h2 := t6.len; omega, by have h1 := t3.s.len; have h2 := t5.slen t6; omega, by have h1 := t3.f.len; have h2 := t6.wlen; omega⟩
      have GX : Hid (gc < wr.heap.size ∧ gm < wr.heap.size) := ⟨Lea.Cells.lt t2, t4.lt⟩
      clear t1 t2 t3 t4 t5 t6 t7 hH
      obtain ⟨eb, eo, hE, c0, c1, c2, c3, c4, c5, c6, c7⟩ := ev_cells HL.out hev LX.out
      have hk0 : (0 : Int) ≤ (j : Int) := by omega
      have hk1 : (j : Int) < (m : Int) := by omega
      have b6 : Below wr.heap.size wr (wr.alloc (.cells #[.int .i64 ev.d, .int .i64 ev.host, .int .i64 ev.zone, .int .i64 ev.epoch, .int .i64 ev.fr, .int .i64 ev.to, .int .i64 ev.now, .int .i64 ev.key] 36)) := (Below.refl _ wr).alloc (Nat.le_refl _) _
      have L6 := Lib.hid (LX.out.trans (b6.mono LX.out.size))
      have E6 : Hid (EBox (wr.alloc (.cells #[.int .i64 ev.d, .int .i64 ev.host, .int .i64 ev.zone, .int .i64 ev.epoch, .int .i64 ev.fr, .int .i64 ev.to, .int .i64 ev.now, .int .i64 ev.key] 36)) wr.heap.size ev) := Cells.new wr _ _
      have C6 := Lib.hid (Lea.Cells.below CX.out b6)
      have A6 := Lib.hid (AX.out.below b6)
      have M6 := Lib.hid (MX.out.below b6)
      have HN := Lib.hid hnow
      rw [hE]
      clear b6 hev hnow hm100 hml LX CX AX MX
      go_upto_region 12 with fail
      clear c0 c1 c2 c3 c4 c5 c6 c7
      generalize wr.alloc (.cells #[.int .i64 ev.d, .int .i64 ev.host, .int .i64 ev.zone, .int .i64 ev.epoch, .int .i64 ev.fr, .int .i64 ev.to, .int .i64 ev.now, .int .i64 ev.key] 36) = w6 at *
      have GE : Hid (wr.heap.size < w6.heap.size) := Lea.Cells.lt E6.out
      generalize wr.heap.size = ge at *
      have HDO := Lib.hid (do_call (e := ev) A6.out IX.out BX.out (by have := HM100.out; omega) HN.out)
      have IY0 := Lib.hid (do_inv IX.out ev)
      have BY0 := Lib.hid (do_bd IX.out BX.out HN.out)
      have SAME0 := Lib.hid (fun h => err_same (c := X.p) (e := ev) h)
      have LAST0 := Lib.hid (fun h => do_last (c := X.p) (e := ev) h)
      have FEN0 := Lib.hid (fen_do IX.out FX.out ev)
      clear FX HN
      unfold Did at HDO
      unfold newF at FEN0
      generalize doC X.p ev = r at *
      obtain ⟨rp, ⟨er, ep, et⟩⟩ := r
      obtain ⟨y0, y1, y2, y3, y4, y5, y6, y7⟩ := EBox.cells E6.out
      obtain ⟨m0, m1, m2, m3, m4, m5, m6⟩ := seven C6.out
      go_wp2_with fail
      refine HDO.out.mono ?_
      rintro e w9 ⟨Y, Bt, nt, dt, rfl, hp, hat, -, hb, hfr⟩
      obtain rfl : Y.p = rp := hp
      have b1 : Below w9.heap.size w9 (w9.alloc (.cells #[.int .i64 Y.p.t.last, .int .i64 Y.p.t.now, .slice Y.A Y.n Y.a, .slice Y.S Y.m Y.s, .slice Y.W Y.q Y.k, .int .i64 Y.p.ttl, .int .i64 Y.p.zones] 31)) := (Below.refl _ w9).alloc (Nat.le_refl _) _
      have b2 : Below w9.heap.size w9 ((w9.alloc (.cells #[.int .i64 Y.p.t.last, .int .i64 Y.p.t.now, .slice Y.A Y.n Y.a, .slice Y.S Y.m Y.s, .slice Y.W Y.q Y.k, .int .i64 Y.p.ttl, .int .i64 Y.p.zones] 31)).alloc (.cells #[.int .i64 er, .int .i64 ep, .slice Bt nt dt] 39)) := b1.trans (((Below.refl _ _).alloc (Nat.le_refl _) _).mono b1.size)
      have bA : Below w6.heap.size w6 ((w9.alloc (.cells #[.int .i64 Y.p.t.last, .int .i64 Y.p.t.now, .slice Y.A Y.n Y.a, .slice Y.S Y.m Y.s, .slice Y.W Y.q Y.k, .int .i64 Y.p.ttl, .int .i64 Y.p.zones] 31)).alloc (.cells #[.int .i64 er, .int .i64 ep, .slice Bt nt dt] 39)) := hb.trans (b2.mono hb.size)
      have L10 := Lib.hid (L6.out.trans (bA.mono L6.out.size))
      have C10 := Lib.hid (Lea.Cells.below C6.out bA)
      have E10 := Lib.hid (Lea.Cells.below E6.out bA)
      have A10 := Lib.hid (A6.out.below bA)
      have M10 := Lib.hid (M6.out.below bA)
      have D10 : Hid (CBox ((w9.alloc (.cells #[.int .i64 Y.p.t.last, .int .i64 Y.p.t.now, .slice Y.A Y.n Y.a, .slice Y.S Y.m Y.s, .slice Y.W Y.q Y.k, .int .i64 Y.p.ttl, .int .i64 Y.p.zones] 31)).alloc (.cells #[.int .i64 er, .int .i64 ep, .slice Bt nt dt] 39)) w9.heap.size Y) := heap_alloc2_old w9 _ _
      have N10 : Hid (ABox ((w9.alloc (.cells #[.int .i64 Y.p.t.last, .int .i64 Y.p.t.now, .slice Y.A Y.n Y.a, .slice Y.S Y.m Y.s, .slice Y.W Y.q Y.k, .int .i64 Y.p.ttl, .int .i64 Y.p.zones] 31)).alloc (.cells #[.int .i64 er, .int .i64 ep, .slice Bt nt dt] 39)) (w9.heap.size + 1) er ep Bt nt dt) := heap_alloc2_new w9 _ _
      have Y10 := Lib.hid (hat.below b2)
      have FR : Hid (∀ p, p = gc ∨ p = gm → (∀ k o, Y.A = some ⟨k, o, none⟩ → k ≠ p) ∧ (∀ k o, Y.S = some ⟨k, o, none⟩ → k ≠ p) ∧ (∀ k o, Y.W = some ⟨k, o, none⟩ → k ≠ p)) := by
        intro p hp'
        have h1 := GX.out
        have h2 := GE.out
        have hlt' : p < w6.heap.size := by rcases hp' with rfl | rfl <;> omega
        exact ⟨fun k o e => by have := hfr.l k o e; omega, fun k o e => by have := hfr.s k o e; omega, fun k o e => by have := hfr.f k o e; omega⟩
      have GD : Hid (gc < w9.heap.size ∧ gm < w9.heap.size) := by have h1 := GX.out; have h2 := GE.out; have h3 := hb.size; exact ⟨by omega, by omega⟩
      clear hb hfr hat b1 b2 bA m0 m1 m2 m3 m4 m5 m6 y0 y1 y2 y3 y4 y5 y6 y7 L6 C6 E6 A6 M6 HDO GX GE
      go_upto_region 13 with fail
      generalize (w9.alloc (.cells #[.int .i64 Y.p.t.last, .int .i64 Y.p.t.now, .slice Y.A Y.n Y.a, .slice Y.S Y.m Y.s, .slice Y.W Y.q Y.k, .int .i64 Y.p.ttl, .int .i64 Y.p.zones] 31)).alloc (.cells #[.int .i64 er, .int .i64 ep, .slice Bt nt dt] 39) = w10 at *
      generalize w9.heap.size = gd at *
      go_cut [61] from 53 to 62 (fun s wx => s = .bool false ∧ Hid (Below w10.heap.size w10 wx))
      case first =>
        obtain ⟨n0, n1, n2⟩ := ABox.cells N10.out
        rcases e0 : (er != 0)
        · go_wp2_with fail
          go_meet
          exact ⟨rfl, Below.refl _ _⟩
        · have HSM := Lib.hid (same_any A10.out Y10.out (SAME0.out (by simpa using e0)) HNX.out.1 HNX.out.2.1 HNX.out.2.2)
          obtain ⟨m0, m1, m2, m3, m4, m5, m6⟩ := seven C10.out
          obtain ⟨k0, k1, k2, k3, k4, k5, k6⟩ := seven D10.out
          go_wp2_with fail
          refine HSM.out.mono ?_
          rintro e w11 ⟨rfl, hb⟩
          have B11 := Lib.hid hb
          clear hb
          go_wp2_with fail
          go_meet
          exact ⟨rfl, B11.out⟩
      case rest =>
      obtain ⟨rfl, hcb⟩ := hcut
      have L11 := Lib.hid (L10.out.trans (hcb.out.mono L10.out.size))
      have C11 := Lib.hid (Lea.Cells.below C10.out hcb.out)
      have E11 := Lib.hid (Lea.Cells.below E10.out hcb.out)
      have M11 := Lib.hid (M10.out.below hcb.out)
      have D11 := Lib.hid (Lea.Cells.below D10.out hcb.out)
      have N11 := Lib.hid (Lea.Cells.below N10.out hcb.out)
      have Y11 := Lib.hid (Y10.out.below hcb.out)
      clear hcb L10 C10 E10 A10 M10 D10 N10 Y10
      generalize wc = w11 at *
      obtain ⟨n0, n1, n2⟩ := ABox.cells N11.out
      go_upto_if 64 with fail
      go_cut [10] from 53 to 93 (fun s wx => s = .int .i64 Y.p.t.last ∧ Hid (∃ ks', Below w.heap.size w wx ∧ CBox wx gc X ∧ CBox wx gd Y ∧ CoordAt wx Y ∧ FMap wx gm ks' ∧ FenOk Y.p ks'))
      case first =>
        obtain ⟨y0, y1, y2, y3, y4, y5, y6, y7⟩ := EBox.cells E11.out
        obtain ⟨k0, k1, k2, k3, k4, k5, k6⟩ := seven D11.out
        rcases e0 : (er == 0)
        · have HS : Hid (Y.p = X.p) := SAME0.out (by simpa using e0)
          have FK : Hid (FenOk Y.p ks) := by have h := FEN0.out; rw [e0] at h; exact h
          go_wp2_with fail
          go_meet
          exact ⟨by rw [HS.out], ks, L11.out, C11.out, D11.out, Y11.out, M11.out, FK.out⟩
        have LA := Lib.hid (LAST0.out (by simpa using e0))
        rcases d3 : (ev.d == 3)
        · have FK : Hid (FenOk Y.p ks) := by have h := FEN0.out; rw [d3, Bool.and_false] at h; exact h
          rcases d1 : (ev.d == 1)
          rcases d2 : (ev.d == 2)
          rcases d4 : (ev.d == 4)
          rcases d5 : (ev.d == 5)
          case false.false.false.false =>
            have HS : Hid (X.p.t.last = Y.p.t.last) := by
              rcases LA.out with ⟨h, -⟩ | ⟨-, h⟩
              · unfold newB at h; rw [d1, d2, d4, d5] at h; cases h
              · exact h.symm
            go_wp2_with fail
            go_meet
            exact ⟨by rw [HS.out], ks, L11.out, C11.out, D11.out, Y11.out, M11.out, FK.out⟩
          all_goals
            have HB : Hid (newB ev.d = true) := by show _ = _; unfold newB; simp only [*, Bool.true_or, Bool.or_true]
            have HS : Hid (ep = Y.p.t.last ∧ ep = X.p.t.last + 1) := by
              rcases LA.out with ⟨-, h1, h2⟩ | ⟨h, -⟩
              · exact ⟨h2.trans h1.symm, h2⟩
              · rw [HB.out] at h; cases h
            have h5 : decide (ep ≤ X.p.t.last) = false := decide_eq_false (by have := HS.out.2; omega)
            have h6 : (ep != Y.p.t.last) = false := by rw [← HS.out.1]; simp
            go_wp2_with fail
            go_meet
            exact ⟨by rw [HS.out.1], ks, L11.out, C11.out, D11.out, Y11.out, M11.out, FK.out⟩
        · have hd : ev.d = 3 := by simpa using d3
          have d1 : (ev.d == 1) = false := by rw [hd]; rfl
          have d2 : (ev.d == 2) = false := by rw [hd]; rfl
          have d4 : (ev.d == 4) = false := by rw [hd]; rfl
          have d5 : (ev.d == 5) = false := by rw [hd]; rfl
          have HS : Hid (X.p.t.last = Y.p.t.last) := by
            rcases LA.out with ⟨h, -⟩ | ⟨-, h⟩
            · unfold newB at h; rw [d1, d2, d4, d5] at h; cases h
            · exact h.symm
          have FK : Hid (FenOk Y.p (setF ks ev.zone ep)) := by have h := FEN0.out; rw [d3, e0] at h; exact h
          clear hd
          go_wp2_with (refine wpList_put rfl _ _ _ rfl M11.out rfl rfl rfl ?_
                       intro w' g1 g2
                       have U1 : Hid (Below w.heap.size w w') := L11.out.trans (But.below g2 L11.out.size GM.out)
                       have U2 : Hid (CBox w' gc X) := (g2.block (Lea.Cells.lt C11.out) (map_ne M11.out C11.out).symm).trans C11.out
                       have U3 : Hid (CBox w' gd Y) := (g2.block (Lea.Cells.lt D11.out) (map_ne M11.out D11.out).symm).trans D11.out
                       have U4 : Hid (CoordAt w' Y) := Y11.out.butBox g2 (FR.out gm (.inr rfl)).1 (FR.out gm (.inr rfl)).2.1 (FR.out gm (.inr rfl)).2.2
                       have U5 := Lib.hid g1
                       clear g1 g2)
          go_meet
          exact ⟨by rw [HS.out], _, U1.out, U2.out, U3.out, U4.out, U5.out, FK.out⟩
      case rest =>
      obtain ⟨rfl, hcb⟩ := hcut
      obtain ⟨ks', q1, q2, q3, q4, q5, q6⟩ := hcb.out
      have L12 := Lib.hid q1
      have C12 := Lib.hid q2
      have D12 := Lib.hid q3
      have Y12 := Lib.hid q4
      have M12 := Lib.hid q5
      have FF := Lib.hid q6
      clear hcb q1 q2 q3 q4 q5 q6 n0 n1 n2 L11 C11 E11 M11 D11 N11 Y11 SAME0 LAST0 FEN0 IX BX HNX
      generalize wc = w12 at *
      have HNY : Hid (Y.n ≤ 1000000 ∧ Y.m ≤ 1000000 ∧ Y.q ≤ 1000000) := ⟨by have h1 := Y12.out.l.len; have h2 := BY0.out.len; have := HM100.out; omega, by have h1 := Y12.out.s.len; have h2 := IY0.out.slen BY0.out; omega, by have h1 := Y12.out.f.len; have h2 := BY0.out.wlen; have := HM100.out; omega⟩
      have HC6 : Hid (Calls Tryz.prog 12 #[Lea.tv Y.p.t.last Y.p.t.now Y.A Y.n Y.a] w12 fun e w' => e = .returned (.int .i64 0) ∧ Below w12.heap.size w12 w') := by
        have h := Lea.refCheck_any (last := Y.p.t.last) (now := Y.p.t.now) Y12.out.l HNY.out.1
        rw [show (⟨Y.p.t.last, Y.p.t.now, Y.p.t.l⟩ : Tv) = Y.p.t from rfl, IY0.out.tok] at h
        exact h
      have HC7 : ∀ W, Below w12.heap.size w12 W → Hid (Calls Tryz.prog 13 #[.slice Y.S Y.m Y.s] W fun e w' => e = .returned (.int .i64 0) ∧ Below W.heap.size W w') := by
        intro W hW
        have h := Spa.refCheck_any (Y12.out.below hW).s
        rw [IY0.out.sok] at h
        exact h
      have hll : (Y.p.t.last != Y.p.t.last) = false := by simp
      obtain ⟨k0, k1, k2, k3, k4, k5, k6⟩ := seven D12.out
      go_wp2_with fail
      refine HC6.out.mono ?_
      rintro e w13 ⟨rfl, hb⟩
      have H13 := HC7 w13 hb
      clear k0 k1 k2 k3 k4 k5 k6 HC6 HC7
      have L13 := Lib.hid (L12.out.trans (hb.mono L12.out.size))
      have C13 := Lib.hid (Lea.Cells.below C12.out hb)
      have D13 := Lib.hid (Lea.Cells.below D12.out hb)
      have Y13 := Lib.hid (Y12.out.below hb)
      have M13 := Lib.hid (M12.out.below hb)
      clear L12 C12 D12 Y12 M12
      clear hb
      obtain ⟨k0, k1, k2, k3, k4, k5, k6⟩ := seven D13.out
      go_wp2_with fail
      refine H13.out.mono ?_
      rintro e w14 ⟨rfl, hb⟩
      clear k0 k1 k2 k3 k4 k5 k6 H13
      have L14 := Lib.hid (L13.out.trans (hb.mono L13.out.size))
      have C14 := Lib.hid (Lea.Cells.below C13.out hb)
      have D14 := Lib.hid (Lea.Cells.below D13.out hb)
      have Y14 := Lib.hid (Y13.out.below hb)
      have M14 := Lib.hid (M13.out.below hb)
      clear L13 C13 D13 Y13 M13
      clear hb
      have HZ : Hid (1 ≤ Y.p.zones ∧ Y.p.zones ≤ 64) := ⟨IY0.out.z1, IY0.out.z2⟩
      have HBS := Y14.out.s.big
      have HBF := Y14.out.f.big
      obtain ⟨k0, k1, k2, k3, k4, k5, k6⟩ := seven D14.out
      go_wp2
      clear k0 k1 k2 k3 k4 k5 k6 hll
      go_loopw [112] (fun i wr => ∃ k : Nat, i = .int .i64 k ∧ (k : Int) ≤ Y.p.zones ∧ Hid (Below w14.heap.size w14 wr)) (fun i _ => Y.p.zones.toNat - (intOf i).toNat)
      case atStart => exact ⟨0, rfl, by have := HZ.out; show ((0 : Nat) : Int) ≤ _; omega, Below.refl _ _⟩
      case round =>
        obtain ⟨k, rfl, hk, hH⟩ := hrel
        by_cases hlt2 : (k : Int) < Y.p.zones
        · have hkb : k < 1000 := by have := HZ.out; omega
          have hd : decide ((k : Int) < Y.p.zones) = true := decide_eq_true hlt2
          have HOW := Lib.hid (owner_any (k : Int) (Y14.out.below hH.out).l HNY.out.1 IY0.out.tok)
          have hown := Lib.hid (owner_fen IY0.out FF.out (z := (k : Int)) ⟨by omega, hlt2⟩)
          generalize ownerC Y.p (k : Int) = oo at *
          obtain ⟨oh, oe⟩ := oo
          obtain ⟨k0, k1, k2, k3, k4, k5, k6⟩ := seven (Lea.Cells.below D14.out hH.out)
          go_wp2_with fail
          refine HOW.out.mono ?_
          rintro e w16 ⟨rfl, hb⟩
          have B16 := Lib.hid (hH.out.trans (hb.mono hH.out.size))
          clear hb HOW k0 k1 k2 k3 k4 k5 k6
          rcases hown.out with h | ⟨h1, h2, h3⟩
          · have g1 : oh = -1 := congrArg Prod.fst h
            have g2 : oe = 0 := congrArg Prod.snd h
            subst g1 g2
            clear h hown
            go_wp2_with fail
            go_roundw
            case rel => exact ⟨k + 1, by go_num, by omega, B16.out⟩
            case measure => simp [intOf]; omega
          · have hget := run_get (M14.out.below B16.out) h3
            have g2 : oe = getF ks' (k : Int) := h2
            subst g2
            have hd2 : decide (0 ≤ oh) = true := decide_eq_true h1
            have hne : (getF ks' (k : Int) != getF ks' (k : Int)) = false := by simp
            clear h1 h2 h3 hown
            go_wp2_with fail
            go_roundw
            case rel => exact ⟨k + 1, by go_num, by omega, B16.out⟩
            case measure => simp [intOf]; omega
        · have hd : decide ((k : Int) < Y.p.zones) = false := decide_eq_false hlt2
          obtain ⟨w16, hw16⟩ : ∃ W, W = wr := ⟨_, rfl⟩
          subst hw16
          have L16 := Lib.hid (L14.out.trans (hH.out.mono L14.out.size))
          have C16 := Lib.hid (Lea.Cells.below C14.out hH.out)
          have D16 := Lib.hid (Lea.Cells.below D14.out hH.out)
          have Y16 := Lib.hid (Y14.out.below hH.out)
          have M16 := Lib.hid (M14.out.below hH.out)
          clear L14 C14 D14 Y14 M14
          have FF0 := Lib.hid FF.out
          clear hH hlt2 hk FF
          obtain ⟨k0, k1, k2, k3, k4, k5, k6⟩ := seven D16.out
          go_wp2
          clear k0 k1 k2 k3 k4 k5 k6 hd
          go_loopw [134] (fun i wr => ∃ k : Nat, i = .int .i64 k ∧ k ≤ Y.m ∧ Hid (Below w16.heap.size w16 wr)) (fun i _ => Y.m - (intOf i).toNat)
          case atStart => exact ⟨0, rfl, by omega, Below.refl _ _⟩
          case round =>
            obtain ⟨k, rfl, hk, hH⟩ := hrel
            by_cases hlt2 : k < Y.m
            · obtain ⟨s, hs⟩ := Y16.out.s.get hlt2
              have hmem := Lib.hid (span_mem IY0.out (List.mem_of_getElem? hs))
              obtain ⟨sb, so, hS, c0, c1, c2, c3⟩ := Spa.RowS.span_at (RowS.below Y16.out.s hH.out) hs
              have hk0 : (0 : Int) ≤ (k : Int) := by omega
              have hk1 : (k : Int) < (Y.m : Int) := by omega
              have b6 : Below wr.heap.size wr (wr.alloc (.cells #[.int .i64 s.fr, .int .i64 s.to, .int .i64 s.own, .int .i64 s.ep] 48)) := (Below.refl _ wr).alloc (Nat.le_refl _) _
              have B17 := Lib.hid (hH.out.trans (b6.mono hH.out.size))
              have X6 : Hid (Spa.LBox (wr.alloc (.cells #[.int .i64 s.fr, .int .i64 s.to, .int .i64 s.own, .int .i64 s.ep] 48)) wr.heap.size s) := Cells.new wr _ _
              rw [hS]
              clear hs b6 hH hS
              go_upto_region 38 with fail
              clear c0 c1 c2 c3
              generalize wr.alloc (.cells #[.int .i64 s.fr, .int .i64 s.to, .int .i64 s.own, .int .i64 s.ep] 48) = w17 at *
              generalize wr.heap.size = gx at *
              obtain ⟨y0, y1, y2, y3⟩ := Spa.LBox.cells X6.out
              rcases hmem.out with h | ⟨h1, h2, h3⟩
              · have hd : decide (0 ≤ s.own) = false := decide_eq_false (by omega)
                clear h hmem
                go_wp2_with fail
                go_roundw
                case rel => exact ⟨k + 1, by go_num, by omega, B17.out⟩
                case measure => simp [intOf]; omega
              · have hd : decide (0 ≤ s.own) = true := decide_eq_true h1
                have hd2 : decide (Y.p.t.last < s.ep) = false := decide_eq_false (by omega)
                have HMB := Lib.hid (member_any s.own (Y16.out.below B17.out).l HNY.out.1 IY0.out.tok)
                rw [h2] at HMB
                clear h1 h2 h3 hmem
                obtain ⟨k0, k1, k2, k3, k4, k5, k6⟩ := seven (Lea.Cells.below D16.out B17.out)
                go_wp2_with fail
                refine HMB.out.mono ?_
                rintro e w18 ⟨rfl, hb⟩
                have B18 := Lib.hid (B17.out.trans (hb.mono B17.out.size))
                obtain ⟨z0, z1, z2, z3⟩ := Spa.LBox.cells (Lea.Cells.below X6.out hb)
                clear hb HMB k0 k1 k2 k3 k4 k5 k6 y0 y1 y2 y3
                go_wp2_with fail
                go_roundw
                case rel => exact ⟨k + 1, by go_num, by omega, B18.out⟩
                case measure => simp [intOf]; omega
            · obtain rfl : Y.m = k := by omega
              obtain ⟨w18, hw18⟩ : ∃ W, W = wr := ⟨_, rfl⟩
              subst hw18
              have L18 := Lib.hid (L16.out.trans (hH.out.mono L16.out.size))
              have C18 := Lib.hid (Lea.Cells.below C16.out hH.out)
              have D18 := Lib.hid (Lea.Cells.below D16.out hH.out)
              have Y18 := Lib.hid (Y16.out.below hH.out)
              have M18 := Lib.hid (M16.out.below hH.out)
              clear L16 C16 D16 Y16 M16
              clear hH hlt2 hk
              obtain ⟨k0, k1, k2, k3, k4, k5, k6⟩ := seven D18.out
              go_wp2
              clear k0 k1 k2 k3 k4 k5 k6
              go_loopw [158] (fun i wr => ∃ k : Nat, i = .int .i64 k ∧ k ≤ Y.q ∧ Hid (Below w18.heap.size w18 wr)) (fun i _ => Y.q - (intOf i).toNat)
              case atStart => exact ⟨0, rfl, by omega, Below.refl _ _⟩
              case round =>
                obtain ⟨k, rfl, hk, hH⟩ := hrel
                by_cases hlt2 : k < Y.q
                · obtain ⟨f, hs⟩ := Y18.out.f.get hlt2
                  have HW := Lib.hid (IY0.out.wait f (List.mem_of_getElem? hs))
                  have HOF := Lib.hid (wait_owner IY0.out (List.mem_of_getElem? hs))
                  have HFS := Lib.hid hs
                  obtain ⟨sb, so, hS, c0, c1, c2⟩ := RowS.fence_at (RowS.below Y18.out.f hH.out) hs
                  have hk0 : (0 : Int) ≤ (k : Int) := by omega
                  have hk1 : (k : Int) < (Y.q : Int) := by omega
                  have hcap := Y18.out.f.cap
                  have hk2 : (k : Int) ≤ (Y.k : Int) := by omega
                  have b6 : Below wr.heap.size wr (wr.alloc (.cells #[.int .i64 f.zone, .int .i64 f.host, .int .i64 f.epoch] 51)) := (Below.refl _ wr).alloc (Nat.le_refl _) _
                  have B19 := Lib.hid (hH.out.trans (b6.mono hH.out.size))
                  have X6 : Hid (FBox (wr.alloc (.cells #[.int .i64 f.zone, .int .i64 f.host, .int .i64 f.epoch] 51)) wr.heap.size f) := Cells.new wr _ _
                  rw [hS]
                  have HSS := Lib.hid hS
                  clear hs b6 hH hS
                  go_upto_region 44 with fail
                  clear c0 c1 c2
                  generalize wr.alloc (.cells #[.int .i64 f.zone, .int .i64 f.host, .int .i64 f.epoch] 51) = w19 at *
                  generalize wr.heap.size = gx at *
                  obtain ⟨y0, y1, y2⟩ := FBox.cells X6.out
                  have hd2 : decide (Y.p.t.last < f.epoch) = false := decide_eq_false (by have := HW.out.2.2.1; omega)
                  have hd3 : decide (f.zone < 0) = false := decide_eq_false (by have := (zoneB_iff.1 HW.out.2.2.2.1).1; omega)
                  have hd4 : decide (Y.p.zones ≤ f.zone) = false := decide_eq_false (by have := (zoneB_iff.1 HW.out.2.2.2.1).2; omega)
                  have HMB := Lib.hid (member_any f.host (Y18.out.below B19.out).l HNY.out.1 IY0.out.tok)
                  rw [HW.out.1] at HMB
                  have D19 := Lib.hid (Lea.Cells.below D18.out B19.out)
                  obtain ⟨k0, k1, k2, k3, k4, k5, k6⟩ := seven D19.out
                  go_wp2_with fail
                  refine HMB.out.mono ?_
                  rintro e w20 ⟨rfl, hb⟩
                  have B20 := Lib.hid (B19.out.trans (hb.mono B19.out.size))
                  have X20 := Lib.hid (Lea.Cells.below X6.out hb)
                  have D20 := Lib.hid (Lea.Cells.below D19.out hb)
                  clear hb HMB k0 k1 k2 k3 k4 k5 k6 y0 y1 y2 X6 D19 B19
                  obtain ⟨y0, y1, y2⟩ := FBox.cells X20.out
                  obtain ⟨k0, k1, k2, k3, k4, k5, k6⟩ := seven D20.out
                  have HOW := Lib.hid (owner_any f.zone (Y18.out.below B20.out).l HNY.out.1 IY0.out.tok)
                  rw [HOF.out] at HOW
                  go_upto_region 46 with fail
                  go_wp2_with fail
                  refine HOW.out.mono ?_
                  rintro e w21 ⟨rfl, hb⟩
                  have B21 := Lib.hid (B20.out.trans (hb.mono B20.out.size))
                  have X21 := Lib.hid (Lea.Cells.below X20.out hb)
                  have D21 := Lib.hid (Lea.Cells.below D20.out hb)
                  clear hb HOW k0 k1 k2 k3 k4 k5 k6 y0 y1 y2 X20 D20 B20 hd2 hd3 hd4
                  obtain ⟨k0, k1, k2, k3, k4, k5, k6⟩ := seven D21.out
                  rw [HSS.out] at k4
                  go_wp2
                  clear k0 k1 k2 k3 k4 k5 k6
                  go_loopw [198] (fun i wr => ∃ i2 : Nat, i = .int .i64 i2 ∧ i2 ≤ k ∧ Hid (Below w21.heap.size w21 wr)) (fun i _ => k - (intOf i).toNat)
                  case atStart => exact ⟨0, rfl, by omega, Below.refl _ _⟩
                  case round =>
                    obtain ⟨i2, rfl, hi2, hH⟩ := hrel
                    by_cases hlt3 : i2 < k
                    · obtain ⟨g, hg⟩ := Y18.out.f.get (show i2 < Y.q by omega)
                      have HNE : Hid ((g.zone == f.zone) = false) := by show _ = _; simp only [beq_eq_false_iff_ne]; exact wait_apart IY0.out hg HFS.out hlt3
                      obtain ⟨sb2, so2, hS2, c0, c1, c2⟩ := RowS.fence_at (RowS.below Y18.out.f (B21.out.trans (hH.out.mono B21.out.size))) hg
                      rw [HSS.out] at hS2
                      cases hS2
                      have hi0 : (0 : Int) ≤ (i2 : Int) := by omega
                      have hi1 : (i2 : Int) < (k : Int) := by omega
                      have b6 : Below wr.heap.size wr (wr.alloc (.cells #[.int .i64 g.zone, .int .i64 g.host, .int .i64 g.epoch] 51)) := (Below.refl _ wr).alloc (Nat.le_refl _) _
                      have B22 := Lib.hid (hH.out.trans (b6.mono hH.out.size))
                      have Z22 : Hid (FBox (wr.alloc (.cells #[.int .i64 g.zone, .int .i64 g.host, .int .i64 g.epoch] 51)) wr.heap.size g) := Cells.new wr _ _
                      have X22 := Lib.hid (Lea.Cells.below X21.out B22.out)
                      clear hg b6 hH
                      go_upto_region 50 with fail
                      clear c0 c1 c2
                      generalize wr.alloc (.cells #[.int .i64 g.zone, .int .i64 g.host, .int .i64 g.epoch] 51) = w22 at *
                      generalize wr.heap.size = gy at *
                      obtain ⟨y0, y1, y2⟩ := FBox.cells X22.out
                      obtain ⟨z0, z1, z2⟩ := FBox.cells Z22.out
                      have hne := HNE.out
                      go_wp2_with fail
                      go_roundw
                      case rel => exact ⟨i2 + 1, by go_num, by omega, B22.out⟩
                      case measure => simp [intOf]; omega
                    · obtain rfl : i2 = k := by omega
                      have B23 := Lib.hid (B21.out.trans (hH.out.mono B21.out.size))
                      go_wp2_with fail
                      go_roundw
                      case rel => exact ⟨i2 + 1, by go_num, by omega, B23.out⟩
                      case measure => simp [intOf]; omega
                · obtain rfl : Y.q = k := by omega
                  obtain ⟨w20, hw20⟩ : ∃ W, W = wr := ⟨_, rfl⟩
                  subst hw20
                  have L20 := Lib.hid (L18.out.trans (hH.out.mono L18.out.size))
                  have C20 := Lib.hid (Lea.Cells.below C18.out hH.out)
                  have D20 := Lib.hid (Lea.Cells.below D18.out hH.out)
                  have Y20 := Lib.hid (Y18.out.below hH.out)
                  have M20 := Lib.hid (M18.out.below hH.out)
                  clear L18 C18 D18 Y18 M18
                  clear hH hlt2 hk
                  have bt := but_set7 w20 gc (.int .i64 Y.p.t.last) (.int .i64 Y.p.t.now) (.slice Y.A Y.n Y.a) (.slice Y.S Y.m Y.s) (.slice Y.W Y.q Y.k) (.int .i64 Y.p.ttl) (.int .i64 Y.p.zones)
                  have C21 := Lib.hid (cells_set7 C20.out (.int .i64 Y.p.t.last) (.int .i64 Y.p.t.now) (.slice Y.A Y.n Y.a) (.slice Y.S Y.m Y.s) (.slice Y.W Y.q Y.k) (.int .i64 Y.p.ttl) (.int .i64 Y.p.zones))
                  have Y21 := Lib.hid (Y20.out.butBox bt (FR.out gc (.inl rfl)).1 (FR.out gc (.inl rfl)).2.1 (FR.out gc (.inl rfl)).2.2)
                  have M21 := Lib.hid (M20.out.but bt (map_ne M20.out C20.out))
                  have L21 := Lib.hid (L20.out.trans (bt.below L20.out.size G4.out))
                  obtain ⟨k0, k1, k2, k3, k4, k5, k6⟩ := seven D20.out
                  obtain ⟨m0, m1, m2, m3, m4, m5, m6⟩ := seven C20.out
                  obtain ⟨f0, f1, f2, f3, f4, f5, f6⟩ := seven_frozen C20.out
                  have IYY := Lib.hid IY0.out
                  clear bt
                  go_wp2_with fail
                  go_roundw
                  case rel => exact ⟨j + 1, Y, ks', rfl, by go_num, by omega, L21.out, C21.out, Y21.out, M21.out, IYY.out, BY0.out, FF0.out⟩
                  case measure => simp [intOf]; omega
    · obtain rfl : m = j := by omega
      go_wp2
      go_ret
      exact ⟨rfl, hH.out.1⟩
end Coo
end Go.Proofs.YtcpkgcckjphbfaaGreat
/-
  A LAW'S ARGUMENTS: events. (Written by gen_cooargs.py.)
-/
namespace Go.Proofs.YtcpkgcckjphbfaaGreat
open Go.ChangeShapes Go.WideShapes Go.ChangeAt Go.RowKit Mem
open Coo
namespace Args
variable {H : Type} {enc : TypeId × Value → H} {W : World}

set_option maxRecDepth 100000 in
/-- An event's eight cells. -/
theorem raw_event {fuel : Nat} {cs : List Value} {x : DataW H × List MemPlace} (hf : DataW.trod enc Tryz.prog W 0 (fun _ => true) true fuel 36 cs = some x) (hl : cs.length = 8) :
    ∃ v : Ev, cs = cellsE v ∧ True := by
  have hu := Tryz.underlying36
  match cs, hl with
  | [c0, c1, c2, c3, c4, c5, c6, c7], _ =>
    obtain ⟨xs, n, _, hx, _, hlen, hg⟩ := DataW.trod_struct hu hf
    have hxl : xs.length = 8 := hlen
    match xs, hxl with
    | [y0, y1, y2, y3, y4, y5, y6, y7], _ =>
      have o3 : Tryz.prog.cellsOf 3 = 1 := by kernel_rfl
      have g0 := hg 0 _ rfl
      have g1 := hg 1 _ rfl
      have g2 := hg 2 _ rfl
      have g3 := hg 3 _ rfl
      have g4 := hg 4 _ rfl
      have g5 := hg 5 _ rfl
      have g6 := hg 6 _ rfl
      have g7 := hg 7 _ rfl
      simp [o3] at g0 g1 g2 g3 g4 g5 g6 g7
      obtain ⟨z0, h0, -, w0⟩ := DataW.trod_int Tryz.underlying3 g0
      obtain ⟨z1, h1, -, w1⟩ := DataW.trod_int Tryz.underlying3 g1
      obtain ⟨z2, h2, -, w2⟩ := DataW.trod_int Tryz.underlying3 g2
      obtain ⟨z3, h3, -, w3⟩ := DataW.trod_int Tryz.underlying3 g3
      obtain ⟨z4, h4, -, w4⟩ := DataW.trod_int Tryz.underlying3 g4
      obtain ⟨z5, h5, -, w5⟩ := DataW.trod_int Tryz.underlying3 g5
      obtain ⟨z6, h6, -, w6⟩ := DataW.trod_int Tryz.underlying3 g6
      obtain ⟨z7, h7, -, w7⟩ := DataW.trod_int Tryz.underlying3 g7
      simp only [List.cons.injEq, and_true] at h0 h1 h2 h3 h4 h5 h6 h7
      subst h0 h1 h2 h3 h4 h5 h6 h7
      exact ⟨⟨z0, z1, z2, z3, z4, z5, z6, z7⟩, rfl, trivial⟩
set_option maxRecDepth 100000 in
theorem open_events {v : Value} {d : DataW H} {p : List MemPlace} {base : Nat} (hok : Value.okWide Tryz.prog W .any base 22 v) (h : DataW.Trod enc Tryz.prog W 0 (fun _ => true) true 22 v d p)
    (hs : ∀ q ∈ d.weights Tryz.prog 22, q ≤ reachBytes) : ∃ A n c xs, v = .slice A n c ∧ RowS cellsE 8 W A n c xs := by
  obtain ⟨A, n, c, xs, h1, h2, -⟩ := open_rowS (cells := cellsE) (k := 8) (bytes := 64) (p := fun _ => True) Tryz.underlying22 (by kernel_rfl) (by kernel_rfl) (by omega) (by omega) (fun fuel cs x hf hl _ => raw_event hf hl) hok h hs
  exact ⟨A, n, c, xs, h1, h2⟩
end Args
end Go.Proofs.YtcpkgcckjphbfaaGreat
/-
  THE STATEMENT CoordOnce: its row. For every input. (Written by gen_coolaws.py.)
-/
namespace Go.Proofs.YtcpkgcckjphbfaaGreat
open Go.ChangeShapes Go.WideShapes Go.ChangeAt Go.RowKit Mem
namespace Coo

theorem coordOnce_says : Frame.Says Rows.coordOnceSpec 3 := by
  refine ⟨rfl, fun H ds h => ?_, fun H ds h => ?_, fun H ds h => ?_⟩ <;>
  · match ds, h with
    | [d0, d1, d2], _ => rfl

set_option maxRecDepth 100000 in
theorem coordOnce_walks : Frame.Walks 3 [3, 3, 22] := by
  intro H enc W args ds ps base hok hA hsz
  obtain ⟨v0, vs0, d0, ds0, p0, q0, hargs, rfl, rfl, h0, r0⟩ := trodAll_cons hA
  obtain ⟨v1, vs1, d1, ds1, p1, q1, rfl, rfl, rfl, h1, r1⟩ := trodAll_cons r0
  obtain ⟨v2, vs2, d2, ds2, p2, q2, rfl, rfl, rfl, h2, r2⟩ := trodAll_cons r1
  obtain ⟨rfl, rfl, rfl⟩ := trodAll_nil r2
  obtain rfl : args = #[v0, v1, v2] := by cases args; simp_all
  obtain ⟨z, rfl, rfl, rfl, -⟩ := open_int Tryz.underlying3 (hok 0 _ v0 rfl rfl) h0
  obtain ⟨t, rfl, rfl, rfl, -⟩ := open_int Tryz.underlying3 (hok 1 _ v1 rfl rfl) h1
  obtain ⟨A, n, c, l, rfl, hL⟩ := Args.open_events (hok 2 _ v2 rfl rfl) h2 (Args.sized_arg hsz (j := 2) rfl rfl)
  exact coordOnce_walk z t hL

set_option maxRecDepth 100000 in
theorem coordOnce_over : Rows.coordOnceRow.holds Tryz.pinned (OpenSpec.ofChange Rows.coordOnceSpec) :=
  OpenClaim.holds_of_wide 3 Tryz.f3 rfl rfl rfl rfl rfl rfl rfl ⟨rfl, rfl, rfl, rfl, rfl⟩ rfl rfl rfl rfl rfl (by kernel_rfl) Tryz.func3 (by kernel_rfl)
    (of_decide_eq_true (by kernel_rfl)) (by unfold Func.isWrapper; first | (rw [if_pos (by decide +kernel)]; kernel_rfl) | (rw [if_neg (by decide +kernel)]; exact ⟨rfl, rfl⟩))
    (fun os started H enc _ => Frame.lifted (started := started) Tryz.underlying4 (by kernel_rfl) Tryz.func3 (n := 3) (by rw [Tryz.params3]; rfl) coordOnce_says (by rw [Tryz.params3]; kernel_rfl) (by kernel_rfl)
      (ChangeSpec.witness6 (enc := enc) (C := Tryz.checked) false ⟨#[], #[.int .i64 0, .int .i64 0, .slice none 0 0], []⟩ 8 (by kernel_rfl) (by kernel_rfl) (by kernel_rfl) (by kernel_rfl))
      (by rw [Tryz.params3]; exact coordOnce_walks))
end Coo
/-- The given statement. -/
theorem coordOnce_holds : Rows.CoordOnceSaid := Coo.coordOnce_over
end Go.Proofs.YtcpkgcckjphbfaaGreat
