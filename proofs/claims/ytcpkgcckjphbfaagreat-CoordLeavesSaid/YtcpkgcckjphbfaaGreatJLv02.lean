/-
  SEVERAL TEXTS IN ONE FILE: CooLeaves, CooArgs, CooLeavesRow.
-/
import Derived.Test.YtcpkgcckjphbfaaGreatJ33
import Derived.Test.YtcpkgcckjphbfaaGreatJLv01
import Derived.Test.YtcpkgcckjphbfaaGreatJ31
import Derived.Test.YtcpkgcckjphbfaaGreatJ04
import Derived.BigQuiet
/-
  THE STATEMENT CoordLeaves. For every input. (Written by gen_coolaws.py.)
-/
namespace Go.Proofs.YtcpkgcckjphbfaaGreat
open Go.RowKit Mem
namespace Coo
open Lea (Cells But OneBox Lv Tv)
open Spa (Sp)

set_option maxRecDepth 100000 in
set_option maxHeartbeats 25600000 in
theorem coordLeaves_walk {L : Option Addr} {m lc : Nat} {l : List Ev} {w : World} (zones ttl host : Int) (hl : RowS cellsE 8 w L m lc l) :
    Calls Tryz.prog 5 #[.int .i64 zones, .int .i64 ttl, .slice L m lc, .int .i64 host] w fun e w' => e = .returned (.bool true) ∧ Below w.heap.size w w' := by
  have HF := fun W (h : Below w.heap.size w W) => Lib.hid (few_any (hl.below h))
  have HL := Lib.hid hl
  have HLN := Lib.hid hl.len
  have HBG := fun W => Lib.hid (begin_any zones ttl W)
  obtain ⟨r1, j1, a1, a2, a3, a4, a5, a6⟩ : ∃ (r : Int) (j : Nat), Int.tmod host 8 = r ∧ -8 < r ∧ r < 8 ∧ Int.tmod (r + 8) 8 = j ∧ (r + 8) % 8 = j ∧ j < 8 := Cut.cut_at host 8 (by omega)
  obtain ⟨h, hh⟩ : ∃ h : Int, h = (j1 : Int) := ⟨_, rfl⟩
  rw [← hh] at a4
  have hw1 : IntKind.i64.wrap (r1 + 8) = r1 + 8 := by rw [IntKind.wrap_i64]; omega
  have hw2 : IntKind.i64.wrap (2000 + h) = 2000 + h := by rw [IntKind.wrap_i64]; omega
  have HH : Hid (0 ≤ h ∧ h < 8) := ⟨by omega, by omega⟩
  clear hl hh a2 a3 a5 a6
  go_enter Tryz.func5, Tryz.ntmps5
  go_wp2_with fail
  refine (live_any w).mono ?_
  rintro e w1 ⟨rfl, hb⟩
  have L1 := Lib.hid hb
  clear hb
  have hF := HF w1 L1.out
  clear HF
  rcases hf : fewE l
  · rw [hf] at hF
    go_wp2_with fail
    refine hF.out.mono ?_
    rintro e w2 ⟨rfl, hb⟩
    have L2 := Lib.hid (L1.out.trans (hb.mono L1.out.size))
    clear hb
    go_wp2_with fail
    go_ret
    exact ⟨rfl, L2.out⟩
  rw [hf] at hF
  have FEW := Lib.hid (fewE_iff.1 hf)
  clear hf
  go_wp2_with fail
  refine hF.out.mono ?_
  rintro e w2 ⟨rfl, hb⟩
  have L2 := Lib.hid (L1.out.trans (hb.mono L1.out.size))
  clear hb L1 hF
  go_wp2_with fail
  refine (HBG w2).out.mono ?_
  rintro e w3 ⟨x, z, t, rfl, hz, ht, hp, hat, hb, -⟩
  have bb : Below w3.heap.size w3 (w3.alloc (.cells #[.int .i64 x.p.t.last, .int .i64 x.p.t.now, .slice x.A x.n x.a, .slice x.S x.m x.s, .slice x.W x.q x.k, .int .i64 x.p.ttl, .int .i64 x.p.zones] 31)) := (Below.refl _ w3).alloc (Nat.le_refl _) _
  have L4 : Hid (Below w.heap.size w (w3.alloc (.cells #[.int .i64 x.p.t.last, .int .i64 x.p.t.now, .slice x.A x.n x.a, .slice x.S x.m x.s, .slice x.W x.q x.k, .int .i64 x.p.ttl, .int .i64 x.p.zones] 31))) := (L2.out.trans (hb.mono L2.out.size)).trans (bb.mono (L2.out.trans (hb.mono L2.out.size)).size)
  have G4 : Hid (w.heap.size ≤ w3.heap.size) := (L2.out.trans (hb.mono L2.out.size)).size
  have C4 : Hid (CBox (w3.alloc (.cells #[.int .i64 x.p.t.last, .int .i64 x.p.t.now, .slice x.A x.n x.a, .slice x.S x.m x.s, .slice x.W x.q x.k, .int .i64 x.p.ttl, .int .i64 x.p.zones] 31)) w3.heap.size x) := Cells.new w3 _ _
  have A4 := Lib.hid (hat.below bb)
  have I4 : Hid (Inv x.p) := by rw [hp]; exact new_inv (by omega) (by omega) (by omega)
  have B4 : Hid (Bd x.p 0) := by rw [hp]; exact new_bd (by omega)
  clear bb hb hat hp hz ht HBG L2
  go_upto_region 8 with fail
  generalize w3.alloc (.cells #[.int .i64 x.p.t.last, .int .i64 x.p.t.now, .slice x.A x.n x.a, .slice x.S x.m x.s, .slice x.W x.q x.k, .int .i64 x.p.ttl, .int .i64 x.p.zones] 31) = w4 at *
  generalize w3.heap.size = gc at *
  have HA4 := Lib.hid (all_any A4.out (RowS.below HL.out L4.out) I4.out B4.out (by have := FEW.out.2; have := HLN.out; omega) (by have := FEW.out.2; have := HLN.out; omega) FEW.out.1)
  unfold Gone at HA4
  have I5 := Lib.hid (all_inv l I4.out)
  have B5 := Lib.hid ((all_bd l I4.out B4.out FEW.out.1).mono (show 0 + l.length ≤ 100 by have := FEW.out.2; omega))
  clear A4 I4 B4 HL
  obtain ⟨m0, m1, m2, m3, m4, m5, m6⟩ := seven C4.out
  go_wp2_with fail
  clear m0 m1 m2 m3 m4 m5 m6
  refine HA4.out.mono ?_
  rintro e w5 ⟨X, B, es, rfl, hp, hat, -, -, -, hb, hfr, -⟩
  have L5 := Lib.hid (L4.out.trans (hb.mono L4.out.size))
  have C5 := Lib.hid (Lea.Cells.below C4.out hb)
  have IX : Hid (Inv X.p) := by rw [hp]; exact I5.out
  have BX : Hid (Bd X.p 100) := by rw [hp]; exact B5.out
  have bt := but_set7 w5 gc (.int .i64 X.p.t.last) (.int .i64 X.p.t.now) (.slice X.A X.n X.a) (.slice X.S X.m X.s) (.slice X.W X.q X.k) (.int .i64 X.p.ttl) (.int .i64 X.p.zones)
  have C6 := Lib.hid (cells_set7 C5.out (.int .i64 X.p.t.last) (.int .i64 X.p.t.now) (.slice X.A X.n X.a) (.slice X.S X.m X.s) (.slice X.W X.q X.k) (.int .i64 X.p.ttl) (.int .i64 X.p.zones))
  have hq : ∀ k, w4.heap.size ≤ k → k ≠ gc := fun k hk => by have := Lea.Cells.lt C4.out; omega
  have A6 := Lib.hid (hat.butBox bt (fun k o e => hq k (hfr.l k o e)) (fun k o e => hq k (hfr.s k o e)) (fun k o e => hq k (hfr.f k o e)))
  have L6 := Lib.hid (L5.out.trans (bt.below L5.out.size G4.out))
  obtain ⟨f0, f1, f2, f3, f4, f5, f6⟩ := seven_frozen C5.out
  obtain ⟨m0, m1, m2, m3, m4, m5, m6⟩ := seven C5.out
  clear hp hat hb hfr hq bt C4 C5 HA4 L4 L5 I5 B5 FEW HLN
  go_upto_region 9 with fail
  clear f0 f1 f2 f3 f4 f5 f6 m0 m1 m2 m3 m4 m5 m6
  generalize ((((((w5.setCell ⟨gc, 0, none⟩ (.int .i64 X.p.t.last)).setCell ⟨gc, 1, none⟩ (.int .i64 X.p.t.now)).setCell ⟨gc, 2, none⟩ (.slice X.A X.n X.a)).setCell ⟨gc, 3, none⟩ (.slice X.S X.m X.s)).setCell ⟨gc, 4, none⟩ (.slice X.W X.q X.k)).setCell ⟨gc, 5, none⟩ (.int .i64 X.p.ttl)).setCell ⟨gc, 6, none⟩ (.int .i64 X.p.zones) = w6 at *
  have HNX : Hid (X.n ≤ 1000000 ∧ X.m ≤ 1000000 ∧ X.q ≤ 1000000) := ⟨by have h1 := A6.out.l.len; have h2 := BX.out.len; omega, by have h1 := A6.out.s.len; have h2 := IX.out.slen BX.out; omega, by have h1 := A6.out.f.len; have h2 := BX.out.wlen; omega⟩
  obtain ⟨b, hb0⟩ : ∃ b, Lea.heldB X.p.t.l (2000 + h) = b := ⟨_, rfl⟩
  obtain ⟨⟨vk, vh, ve, vu⟩, hv0⟩ : ∃ v, (bif b then Lea.getL X.p.t.l (2000 + h) else Lea.zL) = v := ⟨_, rfl⟩
  have HHD : Hid (Calls Tryz.prog 19 #[Lea.tv X.p.t.last X.p.t.now X.A X.n X.a, .int .i64 (2000 + h)] w6 fun e w' => e = .returned (.tuple #[.agg #[.int .i64 vk, .int .i64 vh, .int .i64 ve, .int .i64 vu], .bool b]) ∧ Below w6.heap.size w6 w') := by
    have h1 := Lea.refHolder_any (last := X.p.t.last) (now := X.p.t.now) (2000 + h) A6.out.l HNX.out.1
    rw [show (⟨X.p.t.last, X.p.t.now, X.p.t.l⟩ : Tv) = X.p.t from rfl, hold_ok IX.out, hb0] at h1
    cases b
    · have h2 : Lea.zL = ⟨vk, vh, ve, vu⟩ := hv0
      simp only [cond_false, h2] at h1
      exact h1
    · have h2 : Lea.getL X.p.t.l (2000 + h) = ⟨vk, vh, ve, vu⟩ := hv0
      simp only [cond_true, h2] at h1
      exact h1
  obtain ⟨m0, m1, m2, m3, m4, m5, m6⟩ := seven C6.out
  go_wp2_with fail
  refine HHD.out.mono ?_
  rintro e w7 ⟨rfl, hb⟩
  have bb : Below w7.heap.size w7 (w7.alloc (.cells #[.int .i64 vk, .int .i64 vh, .int .i64 ve, .int .i64 vu] 65)) := (Below.refl _ w7).alloc (Nat.le_refl _) _
  have b8 : Below w6.heap.size w6 (w7.alloc (.cells #[.int .i64 vk, .int .i64 vh, .int .i64 ve, .int .i64 vu] 65)) := hb.trans (bb.mono hb.size)
  have L8 := Lib.hid (L6.out.trans (b8.mono L6.out.size))
  have C8 := Lib.hid (Lea.Cells.below C6.out b8)
  have A8 := Lib.hid (A6.out.below b8)
  have E8 : Hid (Lea.LBox (w7.alloc (.cells #[.int .i64 vk, .int .i64 vh, .int .i64 ve, .int .i64 vu] 65)) w7.heap.size ⟨vk, vh, ve, vu⟩) := Cells.new _ _ _
  clear bb b8 hb m0 m1 m2 m3 m4 m5 m6 L6 C6 A6 HHD
  go_upto_region 10 with fail
  generalize w7.alloc (.cells #[.int .i64 vk, .int .i64 vh, .int .i64 ve, .int .i64 vu] 65) = w8 at *
  generalize w7.heap.size = ge at *
  cases b
  · go_wp2_with fail
    go_ret
    exact ⟨rfl, L8.out⟩
  have hve : (Lea.getL X.p.t.l (2000 + h)).epoch = ve := by rw [show Lea.getL X.p.t.l (2000 + h) = _ from hv0]
  have HD8 := Lib.hid (do_call (e := leaveE h ve) A8.out IX.out BX.out (by omega) (by show (0 : Int) ≤ _; omega))
  have hdo := leave_do IX.out HH.out hb0
  rw [hve] at hdo
  have IY := Lib.hid (do_inv IX.out (leaveE h ve))
  have BY := Lib.hid (do_bd IX.out BX.out (e := leaveE h ve) (by show (0 : Int) ≤ _; omega))
  rw [hdo] at HD8 IY BY
  unfold Did at HD8
  clear hdo hve hv0 hb0
  obtain ⟨n0, n1, n2, n3⟩ := Lea.LBox.cells E8.out
  obtain ⟨m0, m1, m2, m3, m4, m5, m6⟩ := seven C8.out
  go_wp2_with fail
  refine HD8.out.mono ?_
  rintro e w9 ⟨Y, Bt, nt, dt, rfl, hp, hat, -, hb, -⟩
  have b1 : Below w9.heap.size w9 (w9.alloc (.cells #[.int .i64 Y.p.t.last, .int .i64 Y.p.t.now, .slice Y.A Y.n Y.a, .slice Y.S Y.m Y.s, .slice Y.W Y.q Y.k, .int .i64 Y.p.ttl, .int .i64 Y.p.zones] 31)) := (Below.refl _ w9).alloc (Nat.le_refl _) _
  have b2 : Below w9.heap.size w9 ((w9.alloc (.cells #[.int .i64 Y.p.t.last, .int .i64 Y.p.t.now, .slice Y.A Y.n Y.a, .slice Y.S Y.m Y.s, .slice Y.W Y.q Y.k, .int .i64 Y.p.ttl, .int .i64 Y.p.zones] 31)).alloc (.cells #[.int .i64 0, .int .i64 0, .slice Bt nt dt] 39)) := b1.trans (((Below.refl _ _).alloc (Nat.le_refl _) _).mono b1.size)
  have bA : Below w8.heap.size w8 ((w9.alloc (.cells #[.int .i64 Y.p.t.last, .int .i64 Y.p.t.now, .slice Y.A Y.n Y.a, .slice Y.S Y.m Y.s, .slice Y.W Y.q Y.k, .int .i64 Y.p.ttl, .int .i64 Y.p.zones] 31)).alloc (.cells #[.int .i64 0, .int .i64 0, .slice Bt nt dt] 39)) := hb.trans (b2.mono hb.size)
  have L10 := Lib.hid (L8.out.trans (bA.mono L8.out.size))
  have C10 := Lib.hid (Lea.Cells.below C8.out bA)
  have A10 := Lib.hid (A8.out.below bA)
  have D10 : Hid (CBox ((w9.alloc (.cells #[.int .i64 Y.p.t.last, .int .i64 Y.p.t.now, .slice Y.A Y.n Y.a, .slice Y.S Y.m Y.s, .slice Y.W Y.q Y.k, .int .i64 Y.p.ttl, .int .i64 Y.p.zones] 31)).alloc (.cells #[.int .i64 0, .int .i64 0, .slice Bt nt dt] 39)) w9.heap.size Y) := heap_alloc2_old w9 _ _
  have N10 : Hid (ABox ((w9.alloc (.cells #[.int .i64 Y.p.t.last, .int .i64 Y.p.t.now, .slice Y.A Y.n Y.a, .slice Y.S Y.m Y.s, .slice Y.W Y.q Y.k, .int .i64 Y.p.ttl, .int .i64 Y.p.zones] 31)).alloc (.cells #[.int .i64 0, .int .i64 0, .slice Bt nt dt] 39)) (w9.heap.size + 1) 0 0 Bt nt dt) := heap_alloc2_new w9 _ _
  have Y10 := Lib.hid (hat.below b2)
  have IY' : Hid (Inv Y.p) := by rw [hp]; exact IY.out
  have BY' : Hid (Bd Y.p 101) := by rw [hp]; exact BY.out
  have FM : Hid (memB Y.p h = false) := by rw [hp]; exact gone_mem _ _
  have FS : Hid (∀ s ∈ Y.p.s, s.own ≠ h) := by rw [hp]; exact gone_s IX.out HH.out
  have FW : Hid (∀ f ∈ Y.p.wt, f.host ≠ h) := by rw [hp]; exact gone_w HH.out
  have FO : Hid (∀ z, ownerC Y.p z = ownerC X.p z) := by rw [hp]; exact fun z => gone_owner IX.out h z HH.out
  have FA : Hid ((doC Y.p (zoneE h)).2.e = 4) := by rw [hp]; exact gone_ask IX.out HH.out
  clear hp hat hb b1 b2 bA m0 m1 m2 m3 m4 m5 m6 n0 n1 n2 n3 L8 C8 A8 E8 HD8 IY BY
  go_upto_region 13 with fail
  generalize (w9.alloc (.cells #[.int .i64 Y.p.t.last, .int .i64 Y.p.t.now, .slice Y.A Y.n Y.a, .slice Y.S Y.m Y.s, .slice Y.W Y.q Y.k, .int .i64 Y.p.ttl, .int .i64 Y.p.zones] 31)).alloc (.cells #[.int .i64 0, .int .i64 0, .slice Bt nt dt] 39) = w10 at *
  generalize w9.heap.size = gd at *
  have HNY : Hid (Y.n ≤ 1000000 ∧ Y.m ≤ 1000000 ∧ Y.q ≤ 1000000) := ⟨by have h1 := Y10.out.l.len; have h2 := BY'.out.len; omega, by have h1 := Y10.out.s.len; have h2 := IY'.out.slen BY'.out; omega, by have h1 := Y10.out.f.len; have h2 := BY'.out.wlen; omega⟩
  have HM := Lib.hid (member_any h Y10.out.l HNY.out.1 IY'.out.tok)
  rw [FM.out] at HM
  obtain ⟨m0, m1, m2, m3, m4, m5, m6⟩ := seven D10.out
  obtain ⟨n0, n1, n2⟩ := ABox.cells N10.out
  go_wp2_with fail
  refine HM.out.mono ?_
  rintro e w11 ⟨rfl, hb⟩
  have L11 := Lib.hid (L10.out.trans (hb.mono L10.out.size))
  have C11 := Lib.hid (Lea.Cells.below C10.out hb)
  have A11 := Lib.hid (A10.out.below hb)
  have D11 := Lib.hid (Lea.Cells.below D10.out hb)
  have Y11 := Lib.hid (Y10.out.below hb)
  clear hb HM FM N10 m0 m1 m2 m3 m4 m5 m6 n0 n1 n2 L10 C10 A10 D10 Y10
  obtain ⟨m0, m1, m2, m3, m4, m5, m6⟩ := seven D11.out
  have hbm := Y11.out.s.big
  have hbf := Y11.out.f.big
  have hSL := Lib.hid Y11.out.s.len
  have hFL := Lib.hid Y11.out.f.len
  go_wp2
  clear m0 m1 m2 m3 m4 m5 m6
  go_loopw [83] (fun i wr => ∃ j : Nat, i = .int .i64 j ∧ j ≤ Y.m ∧ Hid (Below w11.heap.size w11 wr)) (fun i _ => Y.m - (intOf i).toNat)
  case atStart => exact ⟨0, rfl, by omega, Below.refl _ _⟩
  case round =>
    obtain ⟨j, rfl, hj, hH⟩ := hrel
    by_cases hlt : j < Y.m
    · obtain ⟨s, hs⟩ := Y11.out.s.get hlt
      have hown := FS.out s (List.mem_of_getElem? hs)
      obtain ⟨b, o, hS, c0, c1, c2, c3⟩ := Spa.RowS.span_at (RowS.below Y11.out.s hH.out) hs
      have hk0 : (0 : Int) ≤ (j : Int) := by omega
      have hk1 : (j : Int) < (Y.m : Int) := by omega
      have b6 : Below wr.heap.size wr (wr.alloc (.cells #[.int .i64 s.fr, .int .i64 s.to, .int .i64 s.own, .int .i64 s.ep] 48)) := (Below.refl _ wr).alloc (Nat.le_refl _) _
      have L6 := Lib.hid (hH.out.trans (b6.mono hH.out.size))
      have X6 : Hid (Spa.LBox (wr.alloc (.cells #[.int .i64 s.fr, .int .i64 s.to, .int .i64 s.own, .int .i64 s.ep] 48)) wr.heap.size s) := Cells.new wr _ _
      have HOW : Hid ((s.own == h) = false) := by show _ = _; simp only [beq_eq_false_iff_ne]; exact hown
      rw [hS]
      clear hs b6 hown
      go_upto_region 18 with fail
      clear c0 c1 c2 c3
      generalize wr.alloc (.cells #[.int .i64 s.fr, .int .i64 s.to, .int .i64 s.own, .int .i64 s.ep] 48) = w13 at *
      generalize wr.heap.size = gx at *
      obtain ⟨y0, y1, y2, y3⟩ := Spa.LBox.cells X6.out
      have how := HOW.out
      go_wp2_with fail
      go_roundw
      case rel => exact ⟨j + 1, by go_num, by omega, L6.out⟩
      case measure => simp [intOf]; omega
    · obtain rfl : Y.m = j := by omega
      obtain ⟨w12, hw12⟩ : ∃ W, W = wr := ⟨_, rfl⟩
      subst hw12
      have L12 := Lib.hid (L11.out.trans (hH.out.mono L11.out.size))
      have C12 := Lib.hid (Lea.Cells.below C11.out hH.out)
      have A12 := Lib.hid (A11.out.below hH.out)
      have D12 := Lib.hid (Lea.Cells.below D11.out hH.out)
      have Y12 := Lib.hid (Y11.out.below hH.out)
      clear hH L11 C11 A11 D11 Y11 hlt FS
      obtain ⟨m0, m1, m2, m3, m4, m5, m6⟩ := seven D12.out
      go_wp2
      clear m0 m1 m2 m3 m4 m5 m6
      go_loopw [95] (fun i wr => ∃ j : Nat, i = .int .i64 j ∧ j ≤ Y.q ∧ Hid (Below w12.heap.size w12 wr)) (fun i _ => Y.q - (intOf i).toNat)
      case atStart => exact ⟨0, rfl, by omega, Below.refl _ _⟩
      case round =>
        obtain ⟨j, rfl, hj, hH⟩ := hrel
        by_cases hlt : j < Y.q
        · obtain ⟨f, hs⟩ := Y12.out.f.get hlt
          have hown := FW.out f (List.mem_of_getElem? hs)
          obtain ⟨b, o, hS, c0, c1, c2⟩ := RowS.fence_at (RowS.below Y12.out.f hH.out) hs
          have hk0 : (0 : Int) ≤ (j : Int) := by omega
          have hk1 : (j : Int) < (Y.q : Int) := by omega
          have b6 : Below wr.heap.size wr (wr.alloc (.cells #[.int .i64 f.zone, .int .i64 f.host, .int .i64 f.epoch] 51)) := (Below.refl _ wr).alloc (Nat.le_refl _) _
          have L6 := Lib.hid (hH.out.trans (b6.mono hH.out.size))
          have X6 : Hid (FBox (wr.alloc (.cells #[.int .i64 f.zone, .int .i64 f.host, .int .i64 f.epoch] 51)) wr.heap.size f) := Cells.new wr _ _
          have HOW : Hid ((f.host == h) = false) := by show _ = _; simp only [beq_eq_false_iff_ne]; exact hown
          rw [hS]
          clear hs b6 hown
          go_upto_region 24 with fail
          clear c0 c1 c2
          generalize wr.alloc (.cells #[.int .i64 f.zone, .int .i64 f.host, .int .i64 f.epoch] 51) = w13 at *
          generalize wr.heap.size = gx at *
          obtain ⟨y0, y1, y2⟩ := FBox.cells X6.out
          have how := HOW.out
          go_wp2_with fail
          go_roundw
          case rel => exact ⟨j + 1, by go_num, by omega, L6.out⟩
          case measure => simp [intOf]; omega
        · obtain rfl : Y.q = j := by omega
          obtain ⟨w14, hw14⟩ : ∃ W, W = wr := ⟨_, rfl⟩
          subst hw14
          have L14 := Lib.hid (L12.out.trans (hH.out.mono L12.out.size))
          have C14 := Lib.hid (Lea.Cells.below C12.out hH.out)
          have A14 := Lib.hid (A12.out.below hH.out)
          have D14 := Lib.hid (Lea.Cells.below D12.out hH.out)
          have Y14 := Lib.hid (Y12.out.below hH.out)
          have HZ : Hid (1 ≤ Y.p.zones ∧ Y.p.zones ≤ 64) := ⟨IY'.out.z1, IY'.out.z2⟩
          clear hH L12 C12 A12 D12 Y12 hlt FW hj
          obtain ⟨m0, m1, m2, m3, m4, m5, m6⟩ := seven D14.out
          go_wp2
          clear m0 m1 m2 m3 m4 m5 m6
          go_loopw [106] (fun i wr => ∃ j : Nat, i = .int .i64 j ∧ (j : Int) ≤ Y.p.zones ∧ Hid (Below w14.heap.size w14 wr)) (fun i _ => Y.p.zones.toNat - (intOf i).toNat)
          case atStart => exact ⟨0, rfl, by have := HZ.out; show ((0 : Nat) : Int) ≤ _; omega, Below.refl _ _⟩
          case round =>
            obtain ⟨j, rfl, hj, hH⟩ := hrel
            have L15 := Lib.hid (L14.out.trans (hH.out.mono L14.out.size))
            have C15 := Lib.hid (Lea.Cells.below C14.out hH.out)
            have A15 := Lib.hid (A14.out.below hH.out)
            have D15 := Lib.hid (Lea.Cells.below D14.out hH.out)
            have Y15 := Lib.hid (Y14.out.below hH.out)
            by_cases hlt : (j : Int) < Y.p.zones
            · have HX := Lib.hid (owner_any (j : Int) A15.out.l HNX.out.1 IX.out.tok)
              have HY := fun W (h : Below wr.heap.size wr W) => Lib.hid (owner_any (x := Y) (w := W) (j : Int) (Y15.out.below h).l HNY.out.1 IY'.out.tok)
              rw [FO.out] at HY
              generalize ownerC X.p (j : Int) = oo at *
              obtain ⟨oh, oe⟩ := oo
              simp only at HX HY
              have hjb : j < 1000 := by have := HZ.out; omega
              have hd : decide ((j : Int) < Y.p.zones) = true := decide_eq_true hlt
              obtain ⟨m0, m1, m2, m3, m4, m5, m6⟩ := seven C15.out
              go_wp2_with fail
              refine HX.out.mono ?_
              rintro e w16 ⟨rfl, hb⟩
              have D16 := Lib.hid (Lea.Cells.below D15.out hb)
              have b16 := Lib.hid hb
              have HY16 := HY w16 hb
              clear hb HX HY m0 m1 m2 m3 m4 m5 m6
              obtain ⟨m0, m1, m2, m3, m4, m5, m6⟩ := seven D16.out
              go_wp2_with fail
              refine HY16.out.mono ?_
              rintro e w17 ⟨rfl, hb⟩
              have L17 := Lib.hid (hH.out.trans ((b16.out.trans (hb.mono b16.out.size)).mono hH.out.size))
              clear hb HY16 b16 m0 m1 m2 m3 m4 m5 m6
              go_wp2_with fail
              go_roundw
              case rel => exact ⟨j + 1, by go_num, by omega, L17.out⟩
              case measure => simp [intOf]; omega
            · have hd : decide ((j : Int) < Y.p.zones) = false := decide_eq_false hlt
              have HDL := Lib.hid (do_call (e := zoneE h) Y15.out IY'.out BY'.out (by omega) (by show (0 : Int) ≤ _; omega))
              unfold Did at HDL
              rw [FA.out] at HDL
              obtain ⟨m0, m1, m2, m3, m4, m5, m6⟩ := seven D15.out
              go_wp2_with fail
              refine HDL.out.mono ?_
              rintro e w16 ⟨Z, Bz, nz, dz, rfl, -, -, -, hb, -⟩
              generalize (doC Y.p (zoneE h)).2.epoch = ez at *
              have b2 : Below w16.heap.size w16 ((w16.alloc (.cells #[.int .i64 Z.p.t.last, .int .i64 Z.p.t.now, .slice Z.A Z.n Z.a, .slice Z.S Z.m Z.s, .slice Z.W Z.q Z.k, .int .i64 Z.p.ttl, .int .i64 Z.p.zones] 31)).alloc (.cells #[.int .i64 4, .int .i64 ez, .slice Bz nz dz] 39)) := ((Below.refl _ w16).alloc (Nat.le_refl _) _).alloc (by simp) _
              have L17 := Lib.hid ((L15.out.trans (hb.mono L15.out.size)).trans (b2.mono (L15.out.trans (hb.mono L15.out.size)).size))
              have N17 : Hid (ABox ((w16.alloc (.cells #[.int .i64 Z.p.t.last, .int .i64 Z.p.t.now, .slice Z.A Z.n Z.a, .slice Z.S Z.m Z.s, .slice Z.W Z.q Z.k, .int .i64 Z.p.ttl, .int .i64 Z.p.zones] 31)).alloc (.cells #[.int .i64 4, .int .i64 ez, .slice Bz nz dz] 39)) (w16.heap.size + 1) 4 ez Bz nz dz) := heap_alloc2_new w16 _ _
              clear hb b2 HDL m0 m1 m2 m3 m4 m5 m6
              go_upto_region 36 with fail
              generalize (w16.alloc (.cells #[.int .i64 Z.p.t.last, .int .i64 Z.p.t.now, .slice Z.A Z.n Z.a, .slice Z.S Z.m Z.s, .slice Z.W Z.q Z.k, .int .i64 Z.p.ttl, .int .i64 Z.p.zones] 31)).alloc (.cells #[.int .i64 4, .int .i64 ez, .slice Bz nz dz] 39) = w17 at *
              generalize w16.heap.size = gz at *
              obtain ⟨n0, n1, n2⟩ := ABox.cells N17.out
              go_wp2_with fail
              go_ret
              exact ⟨rfl, L17.out⟩
end Coo
end Go.Proofs.YtcpkgcckjphbfaaGreat
/-
  A LAW'S ARGUMENTS: events. (Written by gen_cooargs.py.)
-/
namespace Go.Proofs.YtcpkgcckjphbfaaGreat
open Go.ChangeShapes Go.WideShapes Go.ChangeAt Go.RowKit Mem
open Coo
namespace Args
variable {H : Type} {enc : TypeId × Value → H} {W : World}

set_option maxRecDepth 100000 in
/-- An event's eight cells. -/
theorem raw_event {fuel : Nat} {cs : List Value} {x : DataW H × List MemPlace} (hf : DataW.trod enc Tryz.prog W 0 (fun _ => true) true fuel 36 cs = some x) (hl : cs.length = 8) :
    ∃ v : Ev, cs = cellsE v ∧ True := by
  have hu := Tryz.underlying36
  match cs, hl with
  | [c0, c1, c2, c3, c4, c5, c6, c7], _ =>
    obtain ⟨xs, n, _, hx, _, hlen, hg⟩ := DataW.trod_struct hu hf
    have hxl : xs.length = 8 := hlen
    match xs, hxl with
    | [y0, y1, y2, y3, y4, y5, y6, y7], _ =>
      have o3 : Tryz.prog.cellsOf 3 = 1 := by kernel_rfl
      have g0 := hg 0 _ rfl
      have g1 := hg 1 _ rfl
      have g2 := hg 2 _ rfl
      have g3 := hg 3 _ rfl
      have g4 := hg 4 _ rfl
      have g5 := hg 5 _ rfl
      have g6 := hg 6 _ rfl
      have g7 := hg 7 _ rfl
      simp [o3] at g0 g1 g2 g3 g4 g5 g6 g7
      obtain ⟨z0, h0, -, w0⟩ := DataW.trod_int Tryz.underlying3 g0
      obtain ⟨z1, h1, -, w1⟩ := DataW.trod_int Tryz.underlying3 g1
      obtain ⟨z2, h2, -, w2⟩ := DataW.trod_int Tryz.underlying3 g2
      obtain ⟨z3, h3, -, w3⟩ := DataW.trod_int Tryz.underlying3 g3
      obtain ⟨z4, h4, -, w4⟩ := DataW.trod_int Tryz.underlying3 g4
      obtain ⟨z5, h5, -, w5⟩ := DataW.trod_int Tryz.underlying3 g5
      obtain ⟨z6, h6, -, w6⟩ := DataW.trod_int Tryz.underlying3 g6
      obtain ⟨z7, h7, -, w7⟩ := DataW.trod_int Tryz.underlying3 g7
      simp only [List.cons.injEq, and_true] at h0 h1 h2 h3 h4 h5 h6 h7
      subst h0 h1 h2 h3 h4 h5 h6 h7
      exact ⟨⟨z0, z1, z2, z3, z4, z5, z6, z7⟩, rfl, trivial⟩
set_option maxRecDepth 100000 in
theorem open_events {v : Value} {d : DataW H} {p : List MemPlace} {base : Nat} (hok : Value.okWide Tryz.prog W .any base 22 v) (h : DataW.Trod enc Tryz.prog W 0 (fun _ => true) true 22 v d p)
    (hs : ∀ q ∈ d.weights Tryz.prog 22, q ≤ reachBytes) : ∃ A n c xs, v = .slice A n c ∧ RowS cellsE 8 W A n c xs := by
  obtain ⟨A, n, c, xs, h1, h2, -⟩ := open_rowS (cells := cellsE) (k := 8) (bytes := 64) (p := fun _ => True) Tryz.underlying22 (by kernel_rfl) (by kernel_rfl) (by omega) (by omega) (fun fuel cs x hf hl _ => raw_event hf hl) hok h hs
  exact ⟨A, n, c, xs, h1, h2⟩
end Args
end Go.Proofs.YtcpkgcckjphbfaaGreat
/-
  THE STATEMENT CoordLeaves: its row. For every input. (Written by gen_coolaws.py.)
-/
namespace Go.Proofs.YtcpkgcckjphbfaaGreat
open Go.ChangeShapes Go.WideShapes Go.ChangeAt Go.RowKit Mem
namespace Coo

theorem coordLeaves_says : Frame.Says Rows.coordLeavesSpec 4 := by
  refine ⟨rfl, fun H ds h => ?_, fun H ds h => ?_, fun H ds h => ?_⟩ <;>
  · match ds, h with
    | [d0, d1, d2, d3], _ => rfl

set_option maxRecDepth 100000 in
theorem coordLeaves_walks : Frame.Walks 5 [3, 3, 22, 3] := by
  intro H enc W args ds ps base hok hA hsz
  obtain ⟨v0, vs0, d0, ds0, p0, q0, hargs, rfl, rfl, h0, r0⟩ := trodAll_cons hA
  obtain ⟨v1, vs1, d1, ds1, p1, q1, rfl, rfl, rfl, h1, r1⟩ := trodAll_cons r0
  obtain ⟨v2, vs2, d2, ds2, p2, q2, rfl, rfl, rfl, h2, r2⟩ := trodAll_cons r1
  obtain ⟨v3, vs3, d3, ds3, p3, q3, rfl, rfl, rfl, h3, r3⟩ := trodAll_cons r2
  obtain ⟨rfl, rfl, rfl⟩ := trodAll_nil r3
  obtain rfl : args = #[v0, v1, v2, v3] := by cases args; simp_all
  obtain ⟨z, rfl, rfl, rfl, -⟩ := open_int Tryz.underlying3 (hok 0 _ v0 rfl rfl) h0
  obtain ⟨t, rfl, rfl, rfl, -⟩ := open_int Tryz.underlying3 (hok 1 _ v1 rfl rfl) h1
  obtain ⟨A, n, c, l, rfl, hL⟩ := Args.open_events (hok 2 _ v2 rfl rfl) h2 (Args.sized_arg hsz (j := 2) rfl rfl)
  obtain ⟨h, rfl, rfl, rfl, -⟩ := open_int Tryz.underlying3 (hok 3 _ v3 rfl rfl) h3
  exact coordLeaves_walk z t h hL

set_option maxRecDepth 100000 in
theorem coordLeaves_over : Rows.coordLeavesRow.holds Tryz.pinned (OpenSpec.ofChange Rows.coordLeavesSpec) :=
  OpenClaim.holds_of_wide 5 Tryz.f5 rfl rfl rfl rfl rfl rfl rfl ⟨rfl, rfl, rfl, rfl, rfl⟩ rfl rfl rfl rfl rfl (by kernel_rfl) Tryz.func5 (by kernel_rfl)
    (of_decide_eq_true (by kernel_rfl)) (by unfold Func.isWrapper; first | (rw [if_pos (by decide +kernel)]; kernel_rfl) | (rw [if_neg (by decide +kernel)]; exact ⟨rfl, rfl⟩))
    (fun os started H enc _ => Frame.lifted (started := started) Tryz.underlying4 (by kernel_rfl) Tryz.func5 (n := 4) (by rw [Tryz.params5]; rfl) coordLeaves_says (by rw [Tryz.params5]; kernel_rfl) (by kernel_rfl)
      (ChangeSpec.witness6 (enc := enc) (C := Tryz.checked) false ⟨#[], #[.int .i64 0, .int .i64 0, .slice none 0 0, .int .i64 0], []⟩ 8 (by kernel_rfl) (by kernel_rfl) (by kernel_rfl) (by kernel_rfl))
      (by rw [Tryz.params5]; exact coordLeaves_walks))
end Coo
/-- The given statement. -/
theorem coordLeaves_holds : Rows.CoordLeavesSaid := Coo.coordLeaves_over
end Go.Proofs.YtcpkgcckjphbfaaGreat
