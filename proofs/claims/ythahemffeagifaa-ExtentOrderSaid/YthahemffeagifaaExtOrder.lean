/-
  THE STATEMENT ExtentOrder: extents that do not overlap may be put in any order; put twice they are the same. For every input. (Written by gen_extlaws.py.)
-/
import Derived.Test.YthahemffeagifaaExtLaw
import Derived.BigQuiet
namespace Go.Proofs.Ythahemffeagifaa
open Go.RowKit Mem
namespace Ext

theorem tell_mem {f : Int} {l : List Ex} (hl : Ok f l) {p : Ex} (hp : p ∈ l) {k : Int} (hk : has p k) : tell l k = some (blk p k) := by
  induction l generalizing f with
  | nil => cases hp
  | cons x r ih =>
    rw [tell]
    rcases List.mem_cons.1 hp with rfl | hp
    · rw [if_pos hk]
    · have h1 := hl.2.2.from p hp
      rw [if_neg (by unfold has at *; omega)]
      exact ih hl.2.2 hp
theorem put_again {l es : List Ex} (hl : Ok 0 l) (he : Ok 0 es) : putE (putE l es) es = putE l es := by
  have h1 := put_ok hl he.may
  have h2 := put_ok h1 he.may
  refine can_eq h2 h1 (join_can _) (join_can _) fun k => ?_
  rw [put_tell h1 he, put_tell hl he]
  cases tell es k <;> rfl
theorem part_same {l es : List Ex} (hl : Ok 0 l) (he : Ok 0 es) {p : Ex} (hp : p ∈ es) : joinE (clips p.lba (p.lba + p.n) (putE l es)) = joinE [p] := by
  have h1 := put_ok hl he.may
  have hm := he.may p hp
  refine join_eq (f := p.lba) (ok_clips h1 (by omega)) (ok_one hm) fun k => ?_
  rw [tell_clips h1, put_tell hl he, tell_one]
  have e : p.en = p.lba + p.n := rfl
  by_cases hk : has p k
  · have hk2 : p.lba ≤ k ∧ k < p.lba + p.n := by rw [← e]; exact hk
    rw [if_pos hk2, if_pos hk, tell_mem he hp hk]; rfl
  · rw [if_neg (by rw [← e]; exact hk), if_neg hk]

set_option maxRecDepth 100000 in
set_option maxHeartbeats 25600000 in
theorem order_walk {A B : Option Addr} {n c m d : Nat} {l es : List Ex} {w : World} (hA : RowL w A n c l) (hB : RowL w B m d es) :
    Calls Try.prog 6 #[.slice A n c, .slice B m d] w fun en w' => en = .returned (.bool true) ∧ Below w.heap.size w w' := by
  have HA := Lib.hid hA
  have HB := Lib.hid hB
  have hbig := hA.big
  have hbig2 := hB.big
  clear hA hB
  go_enter Try.func6, Try.ntmps6
  go_wp2_with fail
  refine (live_any w).mono ?_
  rintro en w2 ⟨rfl, hb⟩
  have L2 := Lib.hid hb
  clear hb
  have HF := fun w : World => Lib.hid (few2 (w := w) A B n c m d l es)
  go_wp2_with fail
  refine (HF w2).out.mono ?_
  rintro en w3 ⟨rfl, hw⟩
  have L3 : Hid (Below w.heap.size w w3) := by show Below _ _ _; rw [hw]; exact L2.out.alloc L2.out.size _
  clear hw HF
  have HC := Lib.hid (refCheck_any (HA.out.below L3.out))
  have HC2 := fun w (h : RowL w B m d es) => Lib.hid (refCheck_any h)
  have he0 : errOf true = 0 := rfl
  have he1 : errOf false = 1 := rfl
  rcases e1 : (decide (n ≤ 300) && decide (m ≤ 300))
  · go_wp2_with fail
    go_ret
    exact ⟨rfl, L3.out⟩
  · have hnm : n ≤ 300 ∧ m ≤ 300 := by simpa using e1
    obtain ⟨hn, hm⟩ := hnm
    clear e1
    rcases e2 : okE l
    · rw [e2, he1] at HC
      go_wp2_with fail
      refine (HC.out).mono ?_
      rintro en w4 ⟨rfl, hb⟩
      have L4 := Lib.hid (L3.out.trans (hb.mono L3.out.size))
      clear hb
      go_wp2_with fail
      go_ret
      exact ⟨rfl, L4.out⟩
    · rw [e2, he0] at HC
      have HOK := Lib.hid (okE_iff.1 e2)
      clear e2
      go_wp2_with fail
      refine (HC.out).mono ?_
      rintro en w4 ⟨rfl, hb⟩
      have L4 := Lib.hid (L3.out.trans (hb.mono L3.out.size))
      clear hb
      rcases e3 : okE es
      · rw [e3, he1] at HC2
        go_wp2_with fail
        refine ((HC2 w4 (HB.out.below L4.out)).out).mono ?_
        rintro en w5 ⟨rfl, hb⟩
        have L5 := Lib.hid (L4.out.trans (hb.mono L4.out.size))
        clear hb
        go_wp2_with fail
        go_ret
        exact ⟨rfl, L5.out⟩
      · rw [e3, he0] at HC2
        have HOE := Lib.hid (okE_iff.1 e3)
        clear e3
        go_wp2_with fail
        refine ((HC2 w4 (HB.out.below L4.out)).out).mono ?_
        rintro en w5 ⟨rfl, hb⟩
        have L5 := Lib.hid (L4.out.trans (hb.mono L4.out.size))
        clear hb
        clear HC HC2
        go_wp2_with fail
        go_loopw [6, 7, 37] (fun s _ i wr => ∃ (t : Nat) (X : Option Addr) (td : Nat), i = .int .i64 t ∧ s = .slice X t td ∧ t ≤ m ∧ Hid (Below w.heap.size w wr ∧ OwnsL w.heap.size wr (.slice X t td) t (es.reverse.take t))) (fun _ _ i _ => m - (intOf i).toNat)
        case atStart => exact ⟨0, none, 0, rfl, rfl, by omega, L5.out, OwnsL.nil _ _⟩
        case round =>
          obtain ⟨t, X, td, rfl, rfl, ht, hH⟩ := hrel
          by_cases hlt : t < m
          · obtain ⟨q, hq⟩ : ∃ q, q = m - 1 - t := ⟨_, rfl⟩
            obtain ⟨x, hx⟩ := HB.out.get (i := q) (by omega)
            obtain ⟨b, o, hA, d0, d1, d2, d3, d4⟩ := RowS.ext_at (HB.out.below hH.out.1) hx
            subst hA
            have hrx : es.reverse[t]? = some x := by
              rw [List.getElem?_reverse (by have := HB.out.len; omega), HB.out.len, ← hq]; exact hx
            have HT : Hid (es.reverse.take (t + 1) = es.reverse.take t ++ [x]) := by show _ = _; rw [List.take_add_one, hrx]; rfl
            have hw1 : IntKind.i64.wrap ((m : Int) - 1) = (m : Int) - 1 := wrap_small (by omega) (by omega)
            have hqw : (m : Int) - 1 - (t : Int) = (q : Int) := by omega
            have hw2 : IntKind.i64.wrap (q : Int) = (q : Int) := wrap_small (by omega) (by omega)
            have hk0 : (0 : Int) ≤ (q : Int) := by omega
            have hkn : (q : Int) < (m : Int) := by omega
            have hk2 : (t : Int) < (m : Int) := by omega
            have A6 : Hid (Below w.heap.size w (wr.alloc (.cells #[.int .i64 x.lba, .int .i64 x.n, .int .i64 x.ver, .int .i64 x.zone, .int .i64 x.off] 28))) := hH.out.1.alloc hH.out.1.size _
            have B6 : Hid (LBox (wr.alloc (.cells #[.int .i64 x.lba, .int .i64 x.n, .int .i64 x.ver, .int .i64 x.zone, .int .i64 x.off] 28)) wr.heap.size x) := Cells.new _ _ _
            have O6 := Lib.hid (OwnsL.alloc hH.out.2 (.cells #[.int .i64 x.lba, .int .i64 x.n, .int .i64 x.ver, .int .i64 x.zone, .int .i64 x.off] 28))
            clear hx hrx hq
            go_wp2_with (at_builtin
                         refine wpList_append_l rfl (.tmp 40) (.tmp 49) rfl rfl w.heap.size _ t _ rfl O6.out _ 1 1 [x] rfl (RowS.one B6.out) (by omega) A6.out.size ?_
                         intro A' c' w' h1 h2 h3
                         have L7 := Lib.hid (A6.out.trans (below_row O6.out h2 A6.out.size))
                         have O7 := Lib.hid h1
                         clear h1 h2 h3)
            go_roundw
            case rel => exact ⟨t + 1, A', c', by go_num, rfl, by omega, L7.out, by rw [HT.out]; exact O7.out⟩
            case measure => simp [intOf]; omega
          · obtain rfl : t = m := by omega
            have HTK : Hid (es.reverse.take t = es.reverse) := List.take_of_length_le (by rw [List.length_reverse, HB.out.len]; omega)
            have L6 := Lib.hid hH.out.1
            have RT6 := Lib.hid (OwnsL.row (show OwnsL w.heap.size wr (.slice X t td) t es.reverse by rw [← HTK.out]; exact hH.out.2) (by omega))
            have HPM : Hid (∀ x ∈ es.reverse, MayX x) := fun x hx => HOE.out.may x (List.mem_reverse.1 hx)
            have HXO := Lib.hid (put_ok HOK.out HOE.out.may)
            have HXL : Hid ((putE l es).length ≤ 1000) := by have := put_len HOK.out HOE.out; have := HA.out.len; have := HB.out.len; show _ ≤ _; omega
            have HRV := Lib.hid (put_rev (l := l) HOE.out)
            have HAG := Lib.hid (put_again HOK.out HOE.out)
            have HPS := Lib.hid (fun p hp => part_same HOK.out HOE.out (p := p) hp)
            clear hH HTK
            generalize wr = w6 at *
            have HP1 := fun w (h : RowL w A n c l) (h2 : RowL w B t d es) => Lib.hid (put_any h h2 HOK.out HOE.out.may (by omega) (by omega) (by have := HXL.out; omega))
            have HP2 := fun w (h : RowL w A n c l) (h2 : RowL w X t td es.reverse) => Lib.hid (put_any h h2 HOK.out HPM.out (by omega) (by omega) (by rw [HRV.out]; have := HXL.out; omega))
            rw [HRV.out] at HP2
            have HP3 := fun w A' n' c' (h : RowL w A' n' c' (putE l es)) (h2 : RowL w B t d es) (h3 : n' ≤ 1000) => Lib.hid (put_any h h2 HXO.out HOE.out.may (by omega) (by omega) (by rw [HAG.out]; have := HXL.out; omega))
            rw [HAG.out] at HP3
            have HPT := fun w A' n' c' (h : RowL w A' n' c' (putE l es)) (h3 : n' ≤ 1000) (a k : Int) (hk : k ≤ 9223372036854775807) => Lib.hid (part_any h HXO.out (by omega) a k hk)
            generalize putE l es = Z at *
            go_wp2_with fail
            refine ((HP1 w6 (HA.out.below L6.out) (HB.out.below L6.out)).out).mono ?_
            rintro en w7 ⟨⟨X1, x1, xd1, rfl, hO⟩, hb⟩
            have L7 := Lib.hid (L6.out.trans (hb.mono L6.out.size))
            have RT7 := Lib.hid (RT6.out.below hb)
            have RX7 := Lib.hid (OwnsL.row hO (by have := hO.2; have := HXL.out; omega))
            have EX : x1 ≤ 1000 := by have := hO.2; have := HXL.out; omega
            have EX2 := hO.2
            clear hO
            clear hb
            go_wp2_with fail
            refine ((HP2 w7 (HA.out.below L7.out) RT7.out).out).mono ?_
            rintro en w8 ⟨⟨X2, x2, xd2, rfl, hO⟩, hb⟩
            have L8 := Lib.hid (L7.out.trans (hb.mono L7.out.size))
            have RX8 := Lib.hid (RX7.out.below hb)
            obtain rfl : x2 = x1 := by have := hO.2; omega
            have RY8 := Lib.hid (OwnsL.row hO (by omega))
            clear hO
            clear hb
            go_wp2_with fail
            refine ((HP3 w8 _ _ _ RX8.out (HB.out.below L8.out) EX).out).mono ?_
            rintro en w9 ⟨⟨X3, x3, xd3, rfl, hO⟩, hb⟩
            have L9 := Lib.hid (L8.out.trans (hb.mono L8.out.size))
            have RX9 := Lib.hid (RX8.out.below hb)
            have RY9 := Lib.hid (RY8.out.below hb)
            obtain rfl : x3 = x2 := by have := hO.2; omega
            have RZ9 := Lib.hid (OwnsL.row hO (by omega))
            clear hO EX2
            clear hb
            go_wp2_with fail
            refine (equal_any RX9.out RY9.out).mono ?_
            rintro en w10 ⟨rfl, hb⟩
            have L10 := Lib.hid (L9.out.trans (hb.mono L9.out.size))
            have RX10 := Lib.hid (RX9.out.below hb)
            have RZ10 := Lib.hid (RZ9.out.below hb)
            clear hb
            go_wp2_with fail
            refine (equal_any RX10.out RZ10.out).mono ?_
            rintro en w11 ⟨rfl, hb⟩
            have L11 := Lib.hid (L10.out.trans (hb.mono L10.out.size))
            have RX11 := Lib.hid (RX10.out.below hb)
            clear hb
            clear HP1 HP2 HP3
            go_wp2_with fail
            go_loopw [15, 16, 17, 94] (fun _ _ _ i wr => ∃ (j : Nat), i = .int .i64 j ∧ j ≤ t ∧ Hid (Below w11.heap.size w11 wr)) (fun _ _ _ i _ => t - (intOf i).toNat)
            case atStart => exact ⟨0, rfl, by omega, Below.refl _ _⟩
            case round =>
              obtain ⟨j, rfl, hj, hH⟩ := hrel
              have LR := Lib.hid (L11.out.trans (hH.out.mono L11.out.size))
              by_cases hlt : j < t
              · obtain ⟨p, hp⟩ := HB.out.get hlt
                obtain ⟨b, o, hA, d0, d1, d2, d3, d4⟩ := RowS.ext_at (HB.out.below LR.out) hp
                subst hA
                have HPM2 := Lib.hid (HOE.out.may p (List.mem_of_getElem? hp))
                have HJS := Lib.hid (HPS.out p (List.mem_of_getElem? hp))
                have hk0 : (0 : Int) ≤ (j : Int) := by omega
                have hkn : (j : Int) < (t : Int) := by omega
                have HRB : Hid (rangeB p.lba p.n = true) := rangeB_iff.2 ⟨HPM2.out.1, HPM2.out.2.1, HPM2.out.2.2.1⟩
                have HPP := fun w (h : RowL w X1 x3 xd1 Z) => Lib.hid (HPT w _ _ _ h EX p.lba p.n (by have := HPM2.out.1; have := HPM2.out.2.2.1; omega)).out
                rw [HRB.out, he0] at HPP
                have HQO : Hid (Ok 0 (clips p.lba (p.lba + p.n) Z)) := ok_zero (ok_clips (g := p.lba) HXO.out (by omega))
                have HQL : Hid ((clips p.lba (p.lba + p.n) Z).length ≤ 1000) := by have := clips_len p.lba (p.lba + p.n) Z; have := HXL.out; show _ ≤ _; omega
                simp only [cond_true] at HPP
                generalize clips p.lba (p.lba + p.n) Z = Q at *
                clear hp
                generalize wr = w12 at *
                have RX12 := Lib.hid (RX11.out.below hH.out)
                have A13 : Hid (Below w12.heap.size w12 (w12.alloc (.cells #[.int .i64 p.lba, .int .i64 p.n, .int .i64 p.ver, .int .i64 p.zone, .int .i64 p.off] 28))) := (Below.refl _ w12).alloc (Nat.le_refl _) _
                have B13 : Hid (LBox (w12.alloc (.cells #[.int .i64 p.lba, .int .i64 p.n, .int .i64 p.ver, .int .i64 p.zone, .int .i64 p.off] 28)) w12.heap.size p) := Cells.new _ _ _
                obtain ⟨n0, n1, n2, n3, n4⟩ := LBox.cells B13.out
                go_upto_region 18 with fail
                generalize w12.alloc (.cells #[.int .i64 p.lba, .int .i64 p.n, .int .i64 p.ver, .int .i64 p.zone, .int .i64 p.off] 28) = w13 at *
                clear d0 d1 d2 d3 d4
                have L13 := Lib.hid (LR.out.trans (A13.out.mono LR.out.size))
                have H13 := Lib.hid (hH.out.trans (A13.out.mono hH.out.size))
                have RX13 := Lib.hid (RX12.out.below A13.out)
                go_wp2_with fail
                refine (HPP w13 RX13.out).out.mono ?_
                rintro en w14 ⟨⟨Q1, q1, qd, rfl, hO⟩, hb⟩
                have L14 := Lib.hid (L13.out.trans (hb.mono L13.out.size))
                have H14 := Lib.hid (H13.out.trans (hb.mono H13.out.size))
                have B14 := Lib.hid (Cells.below B13.out hb)
                have EQ : q1 ≤ 1000 := by have := hO.2; have := HQL.out; omega
                have RQ14 := Lib.hid (OwnsL.row hO (by omega))
                clear hO hb n0 n1 n2 n3 n4
                obtain ⟨n0, n1, n2, n3, n4⟩ := LBox.cells B14.out
                have A15 : Hid (Below w14.heap.size w14 (w14.alloc (.cells #[.int .i64 p.lba, .int .i64 p.n, .int .i64 p.ver, .int .i64 p.zone, .int .i64 p.off] 28))) := (Below.refl _ _).alloc (Nat.le_refl _) _
                have N15 : Hid (LBox (w14.alloc (.cells #[.int .i64 p.lba, .int .i64 p.n, .int .i64 p.ver, .int .i64 p.zone, .int .i64 p.off] 28)) w14.heap.size p) := Cells.new _ _ _
                have L15 := Lib.hid (L14.out.trans (A15.out.mono L14.out.size))
                have H15 := Lib.hid (H14.out.trans (A15.out.mono H14.out.size))
                have HSM := Lib.hid (same_any (RQ14.out.below A15.out) (RowS.one N15.out) HQO.out (ok_one HPM2.out) (by omega) (by omega) HJS.out)
                go_wp2_with fail
                refine HSM.out.mono ?_
                rintro en w16 ⟨rfl, hb⟩
                have H16 := Lib.hid (H15.out.trans (hb.mono H15.out.size))
                clear hb
                go_wp2_with fail
                go_roundw
                case rel => exact ⟨j + 1, by go_num, by omega, H16.out⟩
                case measure => simp [intOf]; omega
              · have LF := Lib.hid LR.out
                go_wp2_with fail
                go_ret
                exact ⟨rfl, LF.out⟩
end Ext
end Go.Proofs.Ythahemffeagifaa
