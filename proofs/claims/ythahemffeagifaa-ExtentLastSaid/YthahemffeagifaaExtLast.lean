/-
  THE STATEMENT ExtentLast: of each block it is told what was put last; what was cut away is in none. For every input. (Written by gen_extlaws.py.)
-/
import Derived.Test.YthahemffeagifaaExtMap
import Derived.Test.YthahemffeagifaaExtLaw
import Derived.BigQuiet
namespace Go.Proofs.Ythahemffeagifaa
open Go.RowKit Mem
namespace Ext

/-- The map says of each block what the list tells. -/
def Says (ks : List (Int × T3)) (M : List Ex) : Prop := KN ks ∧ ∀ k, getB ks k = tell M k
theorem says_nil : Says [] [] := ⟨trivial, fun _ => rfl⟩
theorem says_put {ks ks' : List (Int × T3)} {M : List Ex} {e : Ex} (h : Says ks M) (hM : Ok 0 M) (he : MayX e) (hk : KN ks') (hg : ∀ k, getB ks' k = if e.lba ≤ k ∧ k < e.lba + e.n then some (blk e k) else getB ks k) : Says ks' (putE M [e]) := by
  refine ⟨hk, fun k => ?_⟩
  rw [hg, put1_tell hM he, h.2]
  rfl
theorem says_cut {ks ks' : List (Int × T3)} {M : List Ex} {c : Int} (h : Says ks M) (hM : Ok 0 M) (hc : 0 ≤ c) (hk : KN ks') (hg : ∀ k, getB ks' k = if c ≤ k ∧ k < c + 3 then none else getB ks k) : Says ks' (cutL M c 3) := by
  refine ⟨hk, fun k => ?_⟩
  rw [hg, cut_tell hM hc (by omega), h.2]
theorem says_many {ks : List (Int × T3)} {M : List Ex} (h : Says ks M) (hM : Ok 0 M) : manyE M = (ks.length : Int) := by
  have h1 := kn_cnt (N := 1099511627776) h.1 fun k v hk => by
    rw [h.2] at hk
    refine ⟨?_, ?_⟩
    · rcases Int.lt_or_le k 0 with h0 | h0
      · rw [tell_low hM h0] at hk; cases hk
      · exact h0
    · rcases Int.lt_or_le k 1099511627776 with h0 | h0
      · exact h0
      · rw [tell_high hM h0] at hk; cases hk
  rw [many_cnt (N := 1099511627776) hM hM.ends, h1, cnt_congr (q := fun k => (getB ks k).isSome) fun k _ => by rw [h.2]]
/-- What was put in so far. -/
def Putting (ks0 ks : List (Int × T3)) (e : Ex) (j : Nat) : Prop := KN ks ∧ ∀ k, getB ks k = if e.lba ≤ k ∧ k < e.lba + j then some (blk e k) else getB ks0 k
theorem putting_next {ks0 ks : List (Int × T3)} {e : Ex} {j : Nat} (h : Putting ks0 ks e j) {v : T3} (hv : v = blk e (e.lba + j)) : Putting ks0 (setB ks (e.lba + j) v) e (j + 1) := by
  refine ⟨kn_set h.1 _ _, fun k => ?_⟩
  rw [get_set, h.2]
  by_cases h1 : k = e.lba + j
  · rw [if_pos h1, if_pos (by omega), hv, h1]
  · rw [if_neg h1]
    by_cases h2 : e.lba ≤ k ∧ k < e.lba + j
    · rw [if_pos h2, if_pos (by omega)]
    · rw [if_neg h2, if_neg (by omega)]
def Cutting (ks0 ks : List (Int × T3)) (c : Int) (j : Nat) : Prop := KN ks ∧ ∀ k, getB ks k = if c ≤ k ∧ k < c + j then none else getB ks0 k
theorem cutting_next {ks0 ks : List (Int × T3)} {c : Int} {j : Nat} (h : Cutting ks0 ks c j) : Cutting ks0 (delB ks (c + j)) c (j + 1) := by
  refine ⟨kn_del h.1 _, fun k => ?_⟩
  rw [get_del h.1, h.2]
  by_cases h1 : k = c + j
  · rw [if_pos h1, if_pos (by omega)]
  · rw [if_neg h1]
    by_cases h2 : c ≤ k ∧ k < c + j
    · rw [if_pos h2, if_pos (by omega)]
    · rw [if_neg h2, if_neg (by omega)]
theorem blk_zone {e : Ex} {k : Int} (h : 0 ≤ e.zone) : blk e k = (e.ver, e.zone, e.off + 16 * (k - e.lba)) := by
  unfold blk
  rw [if_neg (by omega)]
theorem blk_trim {e : Ex} (he : MayX e) {k : Int} (h : e.zone < 0) : blk e k = (e.ver, e.zone, 0) := by
  unfold blk
  rw [if_pos (by rcases he.2.2.2.2 with h1 | h1 <;> omega)]

set_option maxRecDepth 100000 in
set_option maxHeartbeats 51200000 in
theorem last_walk {A C : Option Addr} {n c nc cc : Nat} {l : List Ex} {cuts : List Int} {w : World} (hA : RowL w A n c l) (hC : Row ci w C nc cc cuts) :
    Calls Try.prog 3 #[.slice A n c, .slice C nc cc] w fun en w' => en = .returned (.bool true) ∧ Below w.heap.size w w' := by
  have HA := Lib.hid hA
  have HCT := Lib.hid hC
  have hbig := hA.big
  have hbig2 := hC.big
  clear hA hC
  go_enter Try.func3, Try.ntmps3
  go_wp2_with fail
  refine (live_any w).mono ?_
  rintro en w2 ⟨rfl, hb⟩
  have L2 := Lib.hid hb
  clear hb
  have HF := fun w : World => Lib.hid (few1 (w := w) A n c l)
  go_wp2_with fail
  refine (HF w2).out.mono ?_
  rintro en w3 ⟨rfl, hw⟩
  have L3 : Hid (Below w.heap.size w w3) := by show Below _ _ _; rw [hw]; exact L2.out.alloc L2.out.size _
  clear hw HF
  rcases e1 : decide (n ≤ 300)
  · go_wp2_with fail
    go_ret
    exact ⟨rfl, L3.out⟩
  · have hn : n ≤ 300 := of_decide_eq_true e1
    clear e1
    rcases e2 : decide ((300 : Int) < (nc : Int))
    · have L4 : Hid (Below w.heap.size w (w3.alloc (.map #[] 0))) := L3.out.alloc L3.out.size _
      have M4 : Hid (FMap (w3.alloc (.map #[] 0)) w3.heap.size []) := FMap.made w3
      have GM : Hid (w.heap.size ≤ w3.heap.size) := L3.out.size
      have hmm := @run_makeMap Try.prog
      have he0 : errOf true = 0 := rfl
      have he1 : errOf false = 1 := rfl
      go_upto_region 6 with fail
      clear hmm
      generalize w3.alloc (.map #[] 0) = w4 at *
      generalize w3.heap.size = gm at *
      go_wp2_with fail
      go_loopw [6, 8, 9, 10, 11, 12, 13, 14, 15, 16, 32] (fun s _ _ _ _ _ _ _ _ _ i wr => ∃ (t : Nat) (X : Option Addr) (j d : Nat) (M : List Ex) (ks : List (Int × T3)), i = .int .i64 t ∧ s = .slice X j d ∧ t ≤ n ∧ j ≤ 3 * t ∧ Hid (Below w.heap.size w wr ∧ RowL wr X j d M ∧ Ok 0 M ∧ FMap wr gm ks ∧ Says ks M)) (fun _ _ _ _ _ _ _ _ _ _ i _ => n - (intOf i).toNat)
      case atStart => exact ⟨0, none, 0, 0, [], [], rfl, rfl, by omega, by omega, L4.out, RowS.nil _ _ _, trivial, M4.out, says_nil⟩
      case round =>
        obtain ⟨t, X, j, d, M, ks, rfl, rfl, ht, hj, hH⟩ := hrel
        obtain ⟨wo, hwo⟩ : ∃ W, W = wr := ⟨_, rfl⟩
        subst hwo
        have LR := Lib.hid hH.out.1
        have RM := Lib.hid hH.out.2.1
        have OM := Lib.hid hH.out.2.2.1
        have MR := Lib.hid hH.out.2.2.2.1
        have SY := Lib.hid hH.out.2.2.2.2
        clear hH
        by_cases hlt : t < n
        · obtain ⟨x, hx⟩ := HA.out.get hlt
          obtain ⟨b, o, hA, d0, d1, d2, d3, d4⟩ := RowS.ext_at (HA.out.below LR.out) hx
          subst hA
          have hk0 : (0 : Int) ≤ (t : Int) := by omega
          have hkn : (t : Int) < (n : Int) := by omega
          clear hx
          have A5 : Hid (Below wo.heap.size wo (wo.alloc (.cells #[.int .i64 x.lba, .int .i64 x.n, .int .i64 x.ver, .int .i64 x.zone, .int .i64 x.off] 28))) := (Below.refl _ wo).alloc (Nat.le_refl _) _
          have B5 : Hid (LBox (wo.alloc (.cells #[.int .i64 x.lba, .int .i64 x.n, .int .i64 x.ver, .int .i64 x.zone, .int .i64 x.off] 28)) wo.heap.size x) := Cells.new _ _ _
          obtain ⟨n0, n1, n2, n3, n4⟩ := LBox.cells B5.out
          go_upto_region 9 with fail
          generalize wo.alloc (.cells #[.int .i64 x.lba, .int .i64 x.n, .int .i64 x.ver, .int .i64 x.zone, .int .i64 x.off] 28) = w5 at *
          clear d0 d1 d2 d3 d4
          have L5 := Lib.hid (LR.out.trans (A5.out.mono LR.out.size))
          have RM5 := Lib.hid (RM.out.below A5.out)
          have MR5 := Lib.hid (MR.out.below A5.out)
          rcases f1 : decide ((200 : Int) < x.lba)
          · rcases f2 : decide ((50 : Int) < x.n)
            · have HM := fun w => Lib.hid (refMay_any x w)
              go_wp2_with fail
              refine (HM w5).out.mono ?_
              rintro en w6 ⟨rfl, hb⟩
              have L6 := Lib.hid (L5.out.trans (hb.mono L5.out.size))
              have RM6 := Lib.hid (RM5.out.below hb)
              have MR6 := Lib.hid (MR5.out.below hb)
              have B6 := Lib.hid (Cells.below B5.out hb)
              clear hb HM n0 n1 n2 n3 n4
              obtain ⟨n0, n1, n2, n3, n4⟩ := LBox.cells B6.out
              rcases f3 : mayE x
              · go_wp2_with fail
                go_roundw
                case rel => exact ⟨t + 1, X, j, d, M, ks, by go_num, rfl, by omega, by omega, L6.out, RM6.out, OM.out, MR6.out, SY.out⟩
                case measure => simp [intOf]; omega
              · have HME := Lib.hid (mayE_iff.1 f3)
                have HS1 : Hid (x.lba ≤ 200 ∧ x.n ≤ 50) := ⟨by have := of_decide_eq_false f1; omega, by have := of_decide_eq_false f2; omega⟩
                clear f1 f2 f3
                have A7 : Hid (Below w6.heap.size w6 (w6.alloc (.cells #[.int .i64 x.lba, .int .i64 x.n, .int .i64 x.ver, .int .i64 x.zone, .int .i64 x.off] 28))) := (Below.refl _ _).alloc (Nat.le_refl _) _
                have N7 : Hid (LBox (w6.alloc (.cells #[.int .i64 x.lba, .int .i64 x.n, .int .i64 x.ver, .int .i64 x.zone, .int .i64 x.off] 28)) w6.heap.size x) := Cells.new _ _ _
                have L7 := Lib.hid (L6.out.trans (A7.out.mono L6.out.size))
                have MR7 := Lib.hid (MR6.out.below A7.out)
                have B7 := Lib.hid (Cells.below B6.out A7.out)
                have HPL : Hid ((putE M [x]).length ≤ 3 * t + 2) := by have h1 := put1_len OM.out HME.out; have h2 := RM.out.len; show _ ≤ _; omega
                have HPUT := Lib.hid (put_any (RM6.out.below A7.out) (RowS.one N7.out) OM.out (mem_one HME.out) (by omega) (by omega) (by have := HPL.out; omega))
                have OP := Lib.hid (put1_ok OM.out HME.out)
                go_wp2_with fail
                refine HPUT.out.mono ?_
                rintro en w8 ⟨⟨Y, p, pd, rfl, hO⟩, hb⟩
                have L8 := Lib.hid (L7.out.trans (hb.mono L7.out.size))
                have MR8 := Lib.hid (MR7.out.below hb)
                have B8 := Lib.hid (Cells.below B7.out hb)
                have hp : p ≤ 3 * t + 2 := by have := hO.2; have := HPL.out; omega
                have RP8 := Lib.hid (OwnsL.row hO (by omega))
                clear hO hb HPUT A7 N7 B7 n0 n1 n2 n3 n4 RM RM5 RM6 hj
                obtain ⟨n0, n1, n2, n3, n4⟩ := LBox.cells B8.out
                obtain ⟨q, hq⟩ : ∃ q : Nat, (q : Int) = x.n := ⟨x.n.toNat, by have := HME.out.2.1; omega⟩
                have HQ := Lib.hid hq
                have hq50 : q ≤ 50 := by have := HS1.out.2; omega
                rw [← hq] at n1
                clear hq
                go_upto_region 15 with fail
                go_loopw [12, 13, 62] (fun _ _ i wr2 => ∃ (u : Nat) (ks2 : List (Int × T3)), i = .int .i64 u ∧ u ≤ q ∧ Hid (Below w.heap.size w wr2 ∧ RowL wr2 Y p pd (putE M [x]) ∧ FMap wr2 gm ks2 ∧ LBox wr2 wo.heap.size x ∧ Putting ks ks2 x u)) (fun _ _ i _ => q - (intOf i).toNat)
                case atStart => exact ⟨0, ks, rfl, by omega, L8.out, RP8.out, MR8.out, B8.out, SY.out.1, fun k => by rw [if_neg (by omega)]⟩
                case round =>
                  obtain ⟨u, ks2, rfl, hu, hI⟩ := hrel
                  obtain ⟨wi, hwi⟩ : ∃ W, W = wr := ⟨_, rfl⟩
                  subst hwi
                  have L9 := Lib.hid hI.out.1
                  have RP9 := Lib.hid hI.out.2.1
                  have MR9 := Lib.hid hI.out.2.2.1
                  have B9 := Lib.hid hI.out.2.2.2.1
                  have PT := Lib.hid hI.out.2.2.2.2
                  clear hI n0 n1 n2 n3 n4
                  obtain ⟨n0, n1, n2, n3, n4⟩ := LBox.cells B9.out
                  by_cases hlu : u < q
                  · have hu0 : (u : Int) < (q : Int) := by omega
                    have hwk : IntKind.i64.wrap (x.lba + (u : Int)) = x.lba + (u : Int) := wrap_small (by have := HME.out.1; omega) (by have := HS1.out.1; omega)
                    rcases f4 : decide (0 ≤ x.zone)
                    · have hz : x.zone < 0 := by have := of_decide_eq_false f4; omega
                      have HV : Hid ((x.ver, x.zone, (0 : Int)) = blk x (x.lba + (u : Int))) := (blk_trim HME.out hz).symm
                      clear hz
                      have A10 : Hid (Below wi.heap.size wi (wi.alloc (.cells #[.bool true, .int .i64 x.ver, .int .i64 x.zone, .int .i64 0] 34))) := (Below.refl _ _).alloc (Nat.le_refl _) _
                      have K10 : Hid (Cells (wi.alloc (.cells #[.bool true, .int .i64 x.ver, .int .i64 x.zone, .int .i64 0] 34)) wi.heap.size 34 #[.bool true, .int .i64 x.ver, .int .i64 x.zone, .int .i64 0]) := Cells.new _ _ _
                      go_upto_region 18 with fail
                      generalize wi.alloc (.cells #[.bool true, .int .i64 x.ver, .int .i64 x.zone, .int .i64 0] 34) = w10 at *
                      have L10 := Lib.hid (L9.out.trans (A10.out.mono L9.out.size))
                      have RP10 := Lib.hid (RP9.out.below A10.out)
                      have MR10 := Lib.hid (MR9.out.below A10.out)
                      have B10 := Lib.hid (Cells.below B9.out A10.out)
                      clear n0 n1 n2 n3 n4
                      obtain ⟨n0, n1, n2, n3, n4⟩ := LBox.cells B10.out
                      have k0 : w10.cell? ⟨wi.heap.size, 0, none⟩ = some (.bool true) := Cells.cell K10.out 0
                      have k1 : w10.cell? ⟨wi.heap.size, 1, none⟩ = some (.int .i64 x.ver) := Cells.cell K10.out 1
                      have k2 : w10.cell? ⟨wi.heap.size, 2, none⟩ = some (.int .i64 x.zone) := Cells.cell K10.out 2
                      have k3 : w10.cell? ⟨wi.heap.size, 3, none⟩ = some (.int .i64 (0)) := Cells.cell K10.out 3
                      go_wp2_with (refine wpList_put rfl (.tmp 79) (.tmp 83) (.tmp 84) rfl (v := (x.ver, x.zone, 0)) MR10.out rfl rfl rfl ?_
                                   intro w11 h1 h2
                                   have MR11 := Lib.hid h1
                                   have L11 := Lib.hid (L10.out.trans (h2.below L10.out.size (Nat.le_of_lt_succ (by have := GM.out; omega))))
                                   have RP11 := Lib.hid (row_but RP10.out MR10.out h2)
                                   have B11 := Lib.hid (Cells.but B10.out h2 (map_ne MR10.out B10.out))
                                   clear h1 h2)
                      go_roundw
                      case rel => exact ⟨u + 1, _, by go_num, by omega, L11.out, RP11.out, MR11.out, B11.out, putting_next PT.out HV.out⟩
                      case measure => simp [intOf]; omega
                    · have hz : 0 ≤ x.zone := of_decide_eq_true f4
                      have HV : Hid ((x.ver, x.zone, x.off + 16 * (u : Int)) = blk x (x.lba + (u : Int))) := by
                        show _ = _
                        rw [blk_zone hz, show x.lba + (u : Int) - x.lba = (u : Int) by omega]
                      have HOF : Hid (0 ≤ x.off ∧ x.off ≤ 1125899906842624) := by rcases HME.out.2.2.2.2 with h | h <;> exact ⟨by omega, by have := HME.out.2.1; omega⟩
                      have hw1 : IntKind.i64.wrap (16 * (u : Int)) = 16 * (u : Int) := wrap_small (by omega) (by omega)
                      have hw2 : IntKind.i64.wrap (x.off + 16 * (u : Int)) = x.off + 16 * (u : Int) := wrap_small (by have := HOF.out; omega) (by have := HOF.out; omega)
                      clear hz
                      have A10 : Hid (Below wi.heap.size wi (wi.alloc (.cells #[.bool true, .int .i64 x.ver, .int .i64 x.zone, .int .i64 0] 34))) := (Below.refl _ _).alloc (Nat.le_refl _) _
                      have J10 : Hid (Cells (wi.alloc (.cells #[.bool true, .int .i64 x.ver, .int .i64 x.zone, .int .i64 0] 34)) wi.heap.size 34 #[.bool true, .int .i64 x.ver, .int .i64 x.zone, .int .i64 0]) := Cells.new _ _ _
                      go_upto_region 18 with fail
                      generalize wi.alloc (.cells #[.bool true, .int .i64 x.ver, .int .i64 x.zone, .int .i64 0] 34) = wj at *
                      have LJ := Lib.hid (L9.out.trans (A10.out.mono L9.out.size))
                      have RPJ := Lib.hid (RP9.out.below A10.out)
                      have MRJ := Lib.hid (MR9.out.below A10.out)
                      have BJ := Lib.hid (Cells.below B9.out A10.out)
                      have HGE : Hid (w.heap.size ≤ wi.heap.size) := L9.out.size
                      have HXB : Hid (wo.heap.size < wi.heap.size) := Cells.lt B9.out
                      have z3 : wj.cell? ⟨wi.heap.size, 3, none⟩ = some (.int .i64 0) := Cells.cell J10.out 3
                      have p3 : wj.frozen? ⟨wi.heap.size, 3, none⟩ = false := Cells.frozen J10.out 3
                      clear n0 n1 n2 n3 n4
                      obtain ⟨n0, n1, n2, n3, n4⟩ := LBox.cells BJ.out
                      have K10 : Hid (Cells (wj.setCell ⟨wi.heap.size, 3, none⟩ (.int .i64 (x.off + 16 * (u : Int)))) wi.heap.size 34 #[.bool true, .int .i64 x.ver, .int .i64 x.zone, .int .i64 (x.off + 16 * (u : Int))]) := Cells.set_ J10.out 3 _
                      have bt1 : But wi.heap.size wj (wj.setCell ⟨wi.heap.size, 3, none⟩ (.int .i64 (x.off + 16 * (u : Int)))) := But.set1 _ _ _ _
                      have L10 := Lib.hid (LJ.out.trans (bt1.below LJ.out.size HGE.out))
                      have RP10 := Lib.hid (RowS.keepBut RPJ.out (fun q' o' e h0 he => by subst he; have h1 := (RP9.out.at_ h0); obtain ⟨b', o2, e2, h2, -⟩ := h1; rw [e] at e2; injection e2 with e2; injection e2 with e2; omega) bt1)
                      have MR10 := Lib.hid (MRJ.out.but bt1 (by have := MR9.out.lt; omega))
                      have B10 := Lib.hid (Cells.but BJ.out bt1 (by have := HXB.out; omega))
                      clear bt1
                      go_upto_region 20 with fail
                      generalize wj.setCell ⟨wi.heap.size, 3, none⟩ (.int .i64 (x.off + 16 * (u : Int))) = w10 at *
                      clear z3 p3
                      clear n0 n1 n2 n3 n4
                      obtain ⟨n0, n1, n2, n3, n4⟩ := LBox.cells B10.out
                      have k0 : w10.cell? ⟨wi.heap.size, 0, none⟩ = some (.bool true) := Cells.cell K10.out 0
                      have k1 : w10.cell? ⟨wi.heap.size, 1, none⟩ = some (.int .i64 x.ver) := Cells.cell K10.out 1
                      have k2 : w10.cell? ⟨wi.heap.size, 2, none⟩ = some (.int .i64 x.zone) := Cells.cell K10.out 2
                      have k3 : w10.cell? ⟨wi.heap.size, 3, none⟩ = some (.int .i64 (x.off + 16 * (u : Int))) := Cells.cell K10.out 3
                      go_wp2_with (refine wpList_put rfl (.tmp 79) (.tmp 83) (.tmp 84) rfl (v := (x.ver, x.zone, x.off + 16 * (u : Int))) MR10.out rfl rfl rfl ?_
                                   intro w11 h1 h2
                                   have MR11 := Lib.hid h1
                                   have L11 := Lib.hid (L10.out.trans (h2.below L10.out.size (Nat.le_of_lt_succ (by have := GM.out; omega))))
                                   have RP11 := Lib.hid (row_but RP10.out MR10.out h2)
                                   have B11 := Lib.hid (Cells.but B10.out h2 (map_ne MR10.out B10.out))
                                   clear h1 h2)
                      go_roundw
                      case rel => exact ⟨u + 1, _, by go_num, by omega, L11.out, RP11.out, MR11.out, B11.out, putting_next PT.out HV.out⟩
                      case measure => simp [intOf]; omega
                  · obtain rfl : u = q := by omega
                    have SY2 : Hid (Says ks2 (putE M [x])) := says_put SY.out OM.out HME.out PT.out.1 (fun k => by rw [PT.out.2 k]; simp only [HQ.out])
                    generalize putE M [x] = P at *
                    by_cases hct : t < nc
                    · obtain ⟨z, hz⟩ := HCT.out.get hct
                      obtain ⟨cb2, co, hCA, hcell⟩ := (HCT.out.below L9.out).cell hz
                      subst hCA
                      have hcell' : wi.cell? ⟨cb2, co + t, none⟩ = some (.int .i64 z) := hcell
                      have hct0 : (t : Int) < (nc : Int) := by omega
                      have HCZ := Lib.hid hz
                      clear hcell hz
                      rcases f5 : decide (0 ≤ z)
                      · have HC := Lib.hid (refCheck_any RP9.out)
                        rw [okE_iff.2 OP.out, he0] at HC
                        go_wp2_with fail
                        refine HC.out.mono ?_
                        rintro en w30 ⟨rfl, hb⟩
                        have L30 := Lib.hid (L9.out.trans (hb.mono L9.out.size))
                        have R30 := Lib.hid (RP9.out.below hb)
                        have M30 := Lib.hid (MR9.out.below hb)
                        clear hb
                        go_wp2_with fail
                        go_roundw
                        case rel => exact ⟨t + 1, _, _, _, _, _, by go_num, rfl, by omega, by omega, L30.out, R30.out, OP.out, M30.out, SY2.out⟩
                        case measure => simp [intOf]; omega
                      · rcases f6 : decide (z < 250)
                        · have HC := Lib.hid (refCheck_any RP9.out)
                          rw [okE_iff.2 OP.out, he0] at HC
                          go_wp2_with fail
                          refine HC.out.mono ?_
                          rintro en w30 ⟨rfl, hb⟩
                          have L30 := Lib.hid (L9.out.trans (hb.mono L9.out.size))
                          have R30 := Lib.hid (RP9.out.below hb)
                          have M30 := Lib.hid (MR9.out.below hb)
                          clear hb
                          go_wp2_with fail
                          go_roundw
                          case rel => exact ⟨t + 1, _, _, _, _, _, by go_num, rfl, by omega, by omega, L30.out, R30.out, OP.out, M30.out, SY2.out⟩
                          case measure => simp [intOf]; omega
                        · have HZ : Hid (0 ≤ z ∧ z < 250) := ⟨of_decide_eq_true f5, of_decide_eq_true f6⟩
                          have hr : rangeB z 3 = true := rangeB_iff.2 ⟨HZ.out.1, by omega, by have := HZ.out.2; omega⟩
                          have HCU := Lib.hid (cut_list RP9.out OP.out (by omega) z 3 (by omega))
                          rw [hr, he0] at HCU
                          simp only [cond_true] at HCU
                          have OC := Lib.hid (cut_ok OP.out HZ.out.1 (show (1 : Int) ≤ 3 by omega))
                          have HCL : Hid ((cutL P z 3).length ≤ 3 * t + 3) := by have h1 := cut_len OP.out HZ.out.1 (show (1 : Int) ≤ 3 by omega); have h2 := RP9.out.len; show _ ≤ _; omega
                          clear hr
                          go_wp2_with fail
                          refine HCU.out.mono ?_
                          rintro en w20 ⟨⟨U, u2, ud, rfl, hO⟩, hb⟩
                          have L20 := Lib.hid (L9.out.trans (hb.mono L9.out.size))
                          have MR20 := Lib.hid (MR9.out.below hb)
                          have hu2 : u2 ≤ 3 * t + 3 := by have := hO.2; have := HCL.out; omega
                          have RU20 := Lib.hid (OwnsL.row hO (by omega))
                          have CT20 := Lib.hid hcell'
                          clear hO hb hcell' HCU
                          go_wp2_with fail
                          go_loopw [16, 116] (fun _ i wr3 => ∃ (v : Nat) (ks3 : List (Int × T3)), i = .int .i64 v ∧ v ≤ 3 ∧ Hid (Below w.heap.size w wr3 ∧ RowL wr3 U u2 ud (cutL P z 3) ∧ FMap wr3 gm ks3 ∧ Cutting ks2 ks3 z v)) (fun _ i _ => 3 - (intOf i).toNat)
                          case atStart => exact ⟨0, ks2, rfl, by omega, L20.out, RU20.out, MR20.out, SY2.out.1, fun k => by rw [if_neg (by omega)]⟩
                          case round =>
                            obtain ⟨v, ks3, rfl, hv, hI⟩ := hrel
                            obtain ⟨wx, hwx⟩ : ∃ W, W = wr := ⟨_, rfl⟩
                            subst hwx
                            have L21 := Lib.hid hI.out.1
                            have RU21 := Lib.hid hI.out.2.1
                            have MR21 := Lib.hid hI.out.2.2.1
                            have PC := Lib.hid hI.out.2.2.2
                            clear hI
                            by_cases hlv : v < 3
                            · obtain ⟨z', hz'⟩ := HCT.out.get hct
                              obtain ⟨cb3, co3, hCA3, hcell3⟩ := (HCT.out.below L21.out).cell hz'
                              have hzz : Hid (z' = z) := by
                                obtain ⟨b9, o9, e9, hc9⟩ := HCT.out.cell hz'
                                obtain ⟨b8, o8, e8, hc8⟩ := HCT.out.cell HCZ.out
                                have h1 := hz'.symm.trans HCZ.out
                                injection h1
                              rw [hzz.out] at hcell3
                              injection hCA3 with hCA3
                              injection hCA3 with e1 e2
                              subst e1 e2
                              have hcell4 : wx.cell? ⟨cb2, co + t, none⟩ = some (.int .i64 z) := hcell3
                              have hv0 : (v : Int) < 3 := by omega
                              have hwz : IntKind.i64.wrap (z + (v : Int)) = z + (v : Int) := wrap_small (by have := HZ.out; omega) (by have := HZ.out; omega)
                              clear hcell3 hz'
                              go_wp2_with (refine wpList_del rfl (.tmp 119) (.tmp 125) rfl MR21.out rfl rfl ?_
                                           intro w22 h1 h2
                                           have MR22 := Lib.hid h1
                                           have L22 := Lib.hid (L21.out.trans (h2.below L21.out.size GM.out))
                                           have RU22 := Lib.hid (row_but RU21.out MR21.out h2)
                                           clear h1 h2)
                              go_roundw
                              case rel => exact ⟨v + 1, _, by go_num, by omega, L22.out, RU22.out, MR22.out, cutting_next PC.out⟩
                              case measure => simp [intOf]; omega
                            · obtain rfl : v = 3 := by omega
                              have SY3 : Hid (Says ks3 (cutL P z 3)) := says_cut SY2.out OP.out HZ.out.1 PC.out.1 (fun k => PC.out.2 k)
                              have HC := Lib.hid (refCheck_any RU21.out)
                              rw [okE_iff.2 OC.out, he0] at HC
                              go_wp2_with fail
                              refine HC.out.mono ?_
                              rintro en w30 ⟨rfl, hb⟩
                              have L30 := Lib.hid (L21.out.trans (hb.mono L21.out.size))
                              have R30 := Lib.hid (RU21.out.below hb)
                              have M30 := Lib.hid (MR21.out.below hb)
                              clear hb
                              go_wp2_with fail
                              go_roundw
                              case rel => exact ⟨t + 1, _, _, _, _, _, by go_num, rfl, by omega, by omega, L30.out, R30.out, OC.out, M30.out, SY3.out⟩
                              case measure => simp [intOf]; omega
                    · have hct0 : ¬ ((t : Int) < (nc : Int)) := by omega
                      have hct1 : decide ((t : Int) < (nc : Int)) = false := decide_eq_false hct0
                      have hct2 : decide (t < nc) = false := decide_eq_false hct
                      have HC := Lib.hid (refCheck_any RP9.out)
                      rw [okE_iff.2 OP.out, he0] at HC
                      go_wp2_with fail
                      refine HC.out.mono ?_
                      rintro en w30 ⟨rfl, hb⟩
                      have L30 := Lib.hid (L9.out.trans (hb.mono L9.out.size))
                      have R30 := Lib.hid (RP9.out.below hb)
                      have M30 := Lib.hid (MR9.out.below hb)
                      clear hb
                      go_wp2_with fail
                      go_roundw
                      case rel => exact ⟨t + 1, _, _, _, _, _, by go_num, rfl, by omega, by omega, L30.out, R30.out, OP.out, M30.out, SY2.out⟩
                      case measure => simp [intOf]; omega
            · go_wp2_with fail
              go_roundw
              case rel => exact ⟨t + 1, X, j, d, M, ks, by go_num, rfl, by omega, by omega, L5.out, RM5.out, OM.out, MR5.out, SY.out⟩
              case measure => simp [intOf]; omega
          · go_wp2_with fail
            go_roundw
            case rel => exact ⟨t + 1, X, j, d, M, ks, by go_num, rfl, by omega, by omega, L5.out, RM5.out, OM.out, MR5.out, SY.out⟩
            case measure => simp [intOf]; omega
        · obtain rfl : t = n := by omega
          clear HA HCT
          have HMY := Lib.hid (says_many SY.out OM.out)
          go_wp2_with fail
          go_loopw [17, 131] (fun _ i wr4 => ∃ (k : Nat), i = .int .i64 k ∧ k ≤ 260 ∧ Hid (Below w.heap.size w wr4 ∧ RowL wr4 X j d M ∧ FMap wr4 gm ks)) (fun _ i _ => 260 - (intOf i).toNat)
          case atStart => exact ⟨0, rfl, by omega, LR.out, RM.out, MR.out⟩
          case round =>
            obtain ⟨k, rfl, hk, hI⟩ := hrel
            obtain ⟨wx, hwx⟩ : ∃ W, W = wr := ⟨_, rfl⟩
            subst hwx
            have L40 := Lib.hid hI.out.1
            have RM40 := Lib.hid hI.out.2.1
            have MR40 := Lib.hid hI.out.2.2
            clear hI
            by_cases hlk : k < 260
            · have hk0 : (k : Int) < 260 := by omega
              have HAT := fun w (h : RowL w X j d M) => Lib.hid (law_at h OM.out (by omega) (k : Int))
              obtain ⟨vb, vv, vz, vo, hV⟩ := bv_form (tell M (k : Int))
              rw [hV] at HAT
              have HLK := fun W (h : FMap W gm ks) => (show (Instr.lookup 26 (.map (some gm)) (.int .i64 (k : Int)) false).run Try.prog W = .ok (.agg #[.bool vb, .int .i64 vv, .int .i64 vz, .int .i64 vo]) W by have := run_get h (k : Int); rwa [SY.out.2, hV] at this)
              have hne := fun w => blk_neq vb vv vz vo w
              have hgd := blk_guard
              clear hV
              go_upto_region 38 with fail
              refine wp_region_held_drew (S := fun W => (Instr.lookup 26 (.map (some gm)) (.int .i64 (k : Int)) false).run Try.prog W = .ok (.agg #[.bool vb, .int .i64 vv, .int .i64 vz, .int .i64 vo]) W) (by kernel_rfl) (HLK _ MR40.out.drew) (fun hHeld => ?_)
              have L41 := Lib.hid L40.out.drew
              have RM41 := Lib.hid (RowS.drew RM40.out)
              have MR41 := Lib.hid (FMap.drew MR40.out)
              generalize wx.drew = w41 at *
              (first | (refine Reg.take 0 (v := ?_) rfl (by kernel_rfl) (by kernel_rfl) (by kernel_rfl) (fun _ _ _ h => h) (Or.inl ⟨by rfl, ?_⟩) (by assumption) ?_; rotate_left; (focus ((intro W hSW); (try dsimp only at hSW); (try go_split_ands); go_simp; (try (with_reducible rfl)); done))) | (refine Reg.take 0 (v := undef) rfl (by kernel_rfl) (by kernel_rfl) (by kernel_rfl) (fun _ _ _ h => h) (Or.inr ⟨by rfl, rfl⟩) (by assumption) ?_))
              (try simp only [Act.put, List.setIfInBounds_toArray, List.set_cons_zero, List.set_cons_succ])
              (first | (refine Reg.take 1 (v := ?_) rfl (by kernel_rfl) (by kernel_rfl) (by kernel_rfl) (fun _ _ _ h => h) (Or.inl ⟨by rfl, ?_⟩) (by assumption) ?_; rotate_left; (focus ((intro W hSW); (try dsimp only at hSW); (try go_split_ands); go_simp; (try (with_reducible rfl)); done))) | (refine Reg.take 1 (v := undef) rfl (by kernel_rfl) (by kernel_rfl) (by kernel_rfl) (fun _ _ _ h => h) (Or.inr ⟨by rfl, rfl⟩) (by assumption) ?_))
              (try simp only [Act.put, List.setIfInBounds_toArray, List.set_cons_zero, List.set_cons_succ])
              (first | (refine Reg.take 3 (v := ?_) rfl (by kernel_rfl) (by kernel_rfl) (by kernel_rfl) (fun _ _ _ h => h) (Or.inl ⟨by rfl, ?_⟩) (by assumption) ?_; rotate_left; (focus ((intro W hSW); (try dsimp only at hSW); (try go_split_ands); go_simp; (try (with_reducible rfl)); done))) | (refine Reg.take 3 (v := undef) rfl (by kernel_rfl) (by kernel_rfl) (by kernel_rfl) (fun _ _ _ h => h) (Or.inr ⟨by rfl, rfl⟩) (by assumption) ?_))
              (try simp only [Act.put, List.setIfInBounds_toArray, List.set_cons_zero, List.set_cons_succ])
              (first | (refine Reg.take 4 (v := ?_) rfl (by kernel_rfl) (by kernel_rfl) (by kernel_rfl) (fun _ _ _ h => h) (Or.inl ⟨by rfl, ?_⟩) (by assumption) ?_; rotate_left; (focus ((intro W hSW); (try dsimp only at hSW); (try go_split_ands); go_simp; (try (with_reducible rfl)); done))) | (refine Reg.take 4 (v := undef) rfl (by kernel_rfl) (by kernel_rfl) (by kernel_rfl) (fun _ _ _ h => h) (Or.inr ⟨by rfl, rfl⟩) (by assumption) ?_))
              (try simp only [Act.put, List.setIfInBounds_toArray, List.set_cons_zero, List.set_cons_succ])
              (first | (refine Reg.take 5 (v := ?_) rfl (by kernel_rfl) (by kernel_rfl) (by kernel_rfl) (fun _ _ _ h => h) (Or.inl ⟨by rfl, ?_⟩) (by assumption) ?_; rotate_left; (focus ((intro W hSW); (try dsimp only at hSW); (try go_split_ands); go_simp; (try (with_reducible rfl)); done))) | (refine Reg.take 5 (v := undef) rfl (by kernel_rfl) (by kernel_rfl) (by kernel_rfl) (fun _ _ _ h => h) (Or.inr ⟨by rfl, rfl⟩) (by assumption) ?_))
              (try simp only [Act.put, List.setIfInBounds_toArray, List.set_cons_zero, List.set_cons_succ])
              refine Reg.step 2 rfl (by kernel_rfl) (by rfl) (fun K hK => ?_)
              go_simp
              refine (HAT w41 RM41.out).out.mono ?_
              rintro e' w42 ⟨rfl, hb⟩
              have L42 := Lib.hid (L41.out.trans (hb.mono L41.out.size))
              have RM42 := Lib.hid (RM41.out.below hb)
              have MR42 := Lib.hid (MR41.out.below hb)
              clear hb
              refine hK.out _ _ (HLK _ MR42.out) (fun hHeld2 => ?_)
              clear hK K
              (try simp only [Act.put, List.setIfInBounds_toArray, List.set_cons_zero, List.set_cons_succ])
              refine Reg.step 6 rfl (by kernel_rfl) (by rfl) (fun K hK => ?_)
              go_simp
              refine hK.out _ _ hHeld2 (fun hHeld3 => ?_)
              clear hK K
              (try simp only [Act.put, List.setIfInBounds_toArray, List.set_cons_zero, List.set_cons_succ])
              refine wpAnyH_done (by kernel_rfl) ?_ _
              clear hHeld hHeld2 hHeld3
              go_wp2_with fail
              go_roundw
              case rel => exact ⟨k + 1, by go_num, by omega, L42.out, RM42.out, MR42.out⟩
              case measure => simp [intOf]; omega
            · have HMA := Lib.hid (many_any RM40.out OM.out)
              rw [HMY.out] at HMA
              go_wp2_with fail
              refine HMA.out.mono ?_
              rintro en w50 ⟨rfl, hb⟩
              have L50 := Lib.hid (L40.out.trans (hb.mono L40.out.size))
              have MR50 := Lib.hid (MR40.out.below hb)
              clear hb
              have hlen := run_len MR50.out
              go_wp2_with fail
              go_ret
              exact ⟨rfl, L50.out⟩
    · skip
      go_wp2_with fail
      go_ret
      exact ⟨rfl, L3.out⟩
end Ext
end Go.Proofs.Ythahemffeagifaa
