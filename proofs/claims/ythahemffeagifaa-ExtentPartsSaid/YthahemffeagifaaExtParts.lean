/-
  THE STATEMENT ExtentParts: parts and gaps together have each block once. For every input. (Written by gen_extlaws.py.)
-/
import Derived.Test.YthahemffeagifaaExtLaw
import Derived.BigQuiet
namespace Go.Proofs.Ythahemffeagifaa
open Go.RowKit Mem
namespace Ext

theorem part_tell {l : List Ex} {a k : Int} (hl : Ok 0 l) (j : Int) : tell (clips a (a + k) l) j = if a ≤ j ∧ j < a + k then tell l j else none := tell_clips hl j
theorem part_ok {l : List Ex} {a k : Int} (hl : Ok 0 l) : Ok a (clips a (a + k) l) := ok_clips hl (by omega)
theorem gapsP_tell {l : List Ex} {a k : Int} (hl : Ok 0 l) (j : Int) : tell (gapsP l a k) j = if (a ≤ j ∧ j < a + k) ∧ tell (clips a (a + k) l) j = none then some (0, -1, 0) else none := gaps_tell (part_ok hl) (ends_clips _ _ _) j
theorem gapsP_ok {l : List Ex} {a k : Int} (hl : Ok 0 l) (hr : rangeB a k = true) : Ok a (gapsP l a k) := by
  obtain ⟨r1, r2, r3⟩ := rangeB_iff.1 hr
  exact gaps_ok (part_ok hl) r1 r3
theorem back_same {l : List Ex} {a k : Int} (hl : Ok 0 l) (hr : rangeB a k = true) : joinE (putE (cutL l a k) (clips a (a + k) l)) = joinE l := by
  obtain ⟨r1, r2, r3⟩ := rangeB_iff.1 hr
  have hc := cut_ok hl r1 r2
  have hp := ok_zero (part_ok (a := a) (k := k) hl)
  refine join_eq (put_ok hc hp.may) hl fun j => ?_
  rw [put_tell hc hp, part_tell hl, cut_tell hl r1 r2]
  by_cases h : a ≤ j ∧ j < a + k
  · rw [if_pos h, if_pos h]; cases tell l j <;> rfl
  · rw [if_neg h, if_neg h]; rfl
theorem whole_is {l : List Ex} {a k : Int} (hl : Ok 0 l) (hr : rangeB a k = true) (j : Int) : (tell (putE (gapsP l a k) (clips a (a + k) l)) j).isSome = decide (a ≤ j ∧ j < a + k) := by
  have hp := ok_zero (part_ok (a := a) (k := k) hl)
  rw [put_tell (gapsP_ok hl hr) hp, gapsP_tell hl, part_tell hl]
  by_cases h : a ≤ j ∧ j < a + k
  · rw [decide_eq_true h, if_pos h]
    cases tell l j <;> simp [h]
  · rw [decide_eq_false h, if_neg h, if_neg (fun q => h q.1)]; rfl
theorem whole_many {l : List Ex} {a k : Int} (hl : Ok 0 l) (hr : rangeB a k = true) : manyE (putE (gapsP l a k) (clips a (a + k) l)) = k := by
  obtain ⟨r1, r2, r3⟩ := rangeB_iff.1 hr
  exact many_range (put_ok (gapsP_ok hl hr) (part_ok hl).may) r1 r2 r3 fun j _ => whole_is hl hr j
theorem parts_many {l : List Ex} {a k : Int} (hl : Ok 0 l) (hr : rangeB a k = true) : manyE (clips a (a + k) l) + manyE (gapsP l a k) = k := by
  have hp := ok_zero (part_ok (a := a) (k := k) hl)
  rw [many_add (r := putE (gapsP l a k) (clips a (a + k) l)) (part_ok hl) (gapsP_ok hl hr) (put_ok (gapsP_ok hl hr) (part_ok hl).may) fun j _ => ?_, whole_many hl hr]
  rw [put_tell (gapsP_ok hl hr) hp, gapsP_tell hl]
  refine ⟨by cases tell (clips a (a + k) l) j <;> simp, ?_⟩
  cases tell (clips a (a + k) l) j <;> simp
theorem cut_many {l : List Ex} {a k : Int} (hl : Ok 0 l) (hr : rangeB a k = true) : manyE (cutL l a k) + manyE (clips a (a + k) l) = manyE l := by
  obtain ⟨r1, r2, r3⟩ := rangeB_iff.1 hr
  refine many_add (cut_ok hl r1 r2) (part_ok hl) hl fun j _ => ?_
  rw [part_tell hl, cut_tell hl r1 r2]
  by_cases h : a ≤ j ∧ j < a + k
  · rw [if_pos h, if_pos h]; exact ⟨rfl, rfl⟩
  · rw [if_neg h, if_neg h]; exact ⟨by simp, by simp⟩

set_option maxRecDepth 100000 in
set_option maxHeartbeats 12800000 in
theorem parts_walk {A : Option Addr} {n c : Nat} {l : List Ex} {w : World} (hA : RowL w A n c l) (a k : Int) (hk : k ≤ 9223372036854775807) :
    Calls Try.prog 4 #[.slice A n c, .int .i64 a, .int .i64 k] w fun en w' => en = .returned (.bool true) ∧ Below w.heap.size w w' := by
  have HA := Lib.hid hA
  have hbig := hA.big
  clear hA
  go_enter Try.func4, Try.ntmps4
  go_wp2_with fail
  refine (live_any w).mono ?_
  rintro en w2 ⟨rfl, hb⟩
  have L2 := Lib.hid hb
  clear hb
  have HF := fun w : World => Lib.hid (few1 (w := w) A n c l)
  go_wp2_with fail
  refine (HF w2).out.mono ?_
  rintro en w3 ⟨rfl, hw⟩
  have L3 : Hid (Below w.heap.size w w3) := by show Below _ _ _; rw [hw]; exact L2.out.alloc L2.out.size _
  clear hw HF
  have HC := Lib.hid (refCheck_any (HA.out.below L3.out))
  rcases e1 : decide (n ≤ 300)
  · go_wp2_with fail
    go_ret
    exact ⟨rfl, L3.out⟩
  · have hn : n ≤ 300 := of_decide_eq_true e1
    clear e1
    rcases e2 : okE l
    · rw [e2] at HC
      have he : errOf false = 1 := rfl
      rw [he] at HC
      go_wp2_with fail
      refine HC.out.mono ?_
      rintro en w4 ⟨rfl, hb⟩
      have L4 := Lib.hid (L3.out.trans (hb.mono L3.out.size))
      clear hb
      go_wp2_with fail
      go_ret
      exact ⟨rfl, L4.out⟩
    · rw [e2] at HC
      have HOK := Lib.hid (okE_iff.1 e2)
      have he0 : errOf true = 0 := rfl
      have he1 : errOf false = 1 := rfl
      rw [he0] at HC
      go_wp2_with fail
      refine HC.out.mono ?_
      rintro en w4 ⟨rfl, hb⟩
      have L4 := Lib.hid (L3.out.trans (hb.mono L3.out.size))
      clear hb HC e2
      have HP := Lib.hid (part_any (HA.out.below L4.out) HOK.out (by omega) a k hk)
      rcases hr : rangeB a k
      · rw [hr, he1] at HP
        go_wp2_with fail
        refine (HP.out).mono ?_
        rintro en w5 ⟨⟨P, p, pd, rfl, hO⟩, hb⟩
        have L5 := Lib.hid (L4.out.trans (hb.mono L4.out.size))
        obtain rfl : p = 0 := hO.2.symm
        clear hO
        clear hb
        have HG := Lib.hid (gaps_any (HA.out.below L5.out) HOK.out (by omega) a k hk)
        rw [hr, he1] at HG
        go_wp2_with fail
        refine (HG.out).mono ?_
        rintro en w6 ⟨⟨G, q, qd, rfl, hO⟩, hb⟩
        have L6 := Lib.hid (L5.out.trans (hb.mono L5.out.size))
        obtain rfl : q = 0 := hO.2.symm
        clear hO
        clear hb
        have HU := Lib.hid (cut_list (HA.out.below L6.out) HOK.out (by omega) a k hk)
        rw [hr, he1] at HU
        go_wp2_with fail
        refine (HU.out).mono ?_
        rintro en w7 ⟨⟨U, u, ud, rfl, hO⟩, hb⟩
        have L7 := Lib.hid (L6.out.trans (hb.mono L6.out.size))
        obtain rfl : u = 0 := hO.2.symm
        clear hO
        clear hb
        go_wp2_with fail
        go_ret
        exact ⟨rfl, L7.out⟩
      · have HRG := Lib.hid (rangeB_iff.1 hr)
        have HPO := Lib.hid (part_ok (a := a) (k := k) HOK.out)
        have HGO := Lib.hid (gapsP_ok HOK.out hr)
        have HUO := Lib.hid (cut_ok HOK.out HRG.out.1 HRG.out.2.1)
        have HLP : Hid ((clips a (a + k) l).length ≤ 300) := by have := clips_len a (a + k) l; have := HA.out.len; show _ ≤ _; omega
        have HLG : Hid ((gapsP l a k).length ≤ 301) := by have := gaps_len (a + k) a (clips a (a + k) l); have := HLP.out; show _ ≤ _; unfold gapsP; omega
        have HLU : Hid ((cutL l a k).length ≤ 301) := by have := cut_len HOK.out HRG.out.1 HRG.out.2.1; have := HA.out.len; show _ ≤ _; omega
        have HM1 := Lib.hid (parts_many HOK.out hr)
        have HM2 := Lib.hid (cut_many HOK.out hr)
        have HB1 := Lib.hid (back_same HOK.out hr)
        have HWM := Lib.hid (whole_many HOK.out hr)
        have HPB := Lib.hid (put_ok HUO.out HPO.out.may)
        have HPW := Lib.hid (put_ok HGO.out HPO.out.may)
        have HLB : Hid ((putE (cutL l a k) (clips a (a + k) l)).length ≤ 1000) := by have := put_len HUO.out (ok_zero HPO.out); have := HLU.out; have := HLP.out; show _ ≤ _; omega
        have HLW : Hid ((putE (gapsP l a k) (clips a (a + k) l)).length ≤ 1000) := by have := put_len HGO.out (ok_zero HPO.out); have := HLG.out; have := HLP.out; show _ ≤ _; omega
        have HG := fun w (h : RowL w A n c l) => Lib.hid (gaps_any h HOK.out (by omega) a k hk)
        have HU := fun w (h : RowL w A n c l) => Lib.hid (cut_list h HOK.out (by omega) a k hk)
        rw [hr, he0] at HP HG HU
        simp only [cond_true] at HP HG HU
        clear hr
        generalize clips a (a + k) l = P at *
        generalize gapsP l a k = G at *
        generalize cutL l a k = U at *
        go_wp2_with fail
        refine (HP.out).mono ?_
        rintro en w5 ⟨⟨P1, p, pd, rfl, hO⟩, hb⟩
        have L5 := Lib.hid (L4.out.trans (hb.mono L4.out.size))
        have RP5 := Lib.hid (OwnsL.row hO (by have := hO.2; have := HLP.out; omega))
        have EP : p ≤ 300 := by have := hO.2; have := HLP.out; omega
        clear hO HP
        clear hb
        go_wp2_with fail
        refine ((HG w5 (HA.out.below L5.out)).out).mono ?_
        rintro en w6 ⟨⟨G1, q, qd, rfl, hO⟩, hb⟩
        have L6 := Lib.hid (L5.out.trans (hb.mono L5.out.size))
        have RP6 := Lib.hid (RP5.out.below hb)
        have RG6 := Lib.hid (OwnsL.row hO (by have := hO.2; have := HLG.out; omega))
        have EG : q ≤ 301 := by have := hO.2; have := HLG.out; omega
        clear hO HG
        clear hb
        go_wp2_with fail
        refine ((HU w6 (HA.out.below L6.out)).out).mono ?_
        rintro en w7 ⟨⟨U1, u, ud, rfl, hO⟩, hb⟩
        have L7 := Lib.hid (L6.out.trans (hb.mono L6.out.size))
        have RP7 := Lib.hid (RP6.out.below hb)
        have RG7 := Lib.hid (RG6.out.below hb)
        have RU7 := Lib.hid (OwnsL.row hO (by have := hO.2; have := HLU.out; omega))
        have EU : u ≤ 301 := by have := hO.2; have := HLU.out; omega
        clear hO HU
        clear hb
        have w1 : IntKind.i64.wrap (manyE P + manyE G) = k := by rw [HM1.out]; have := HRG.out; exact wrap_small (by omega) (by omega)
        have w2' : IntKind.i64.wrap (manyE U + manyE P) = manyE l := by rw [HM2.out]; have := many_nonneg HOK.out; exact wrap_small (by omega) (by omega)
        have HMP := fun w (h : RowL w P1 p pd P) => Lib.hid (many_any h (ok_zero HPO.out))
        have HMG := fun w (h : RowL w G1 q qd G) => Lib.hid (many_any h (ok_zero HGO.out))
        have HMU := fun w (h : RowL w U1 u ud U) => Lib.hid (many_any h HUO.out)
        have HML := fun w (h : RowL w A n c l) => Lib.hid (many_any h HOK.out)
        have HPUT1 := fun w (h1 : RowL w U1 u ud U) (h2 : RowL w P1 p pd P) => Lib.hid (put_any h1 h2 HUO.out HPO.out.may (by omega) (by omega) (by have := HLB.out; omega))
        have HPUT2 := fun w (h1 : RowL w G1 q qd G) (h2 : RowL w P1 p pd P) => Lib.hid (put_any h1 h2 (ok_zero HGO.out) HPO.out.may (by omega) (by omega) (by have := HLW.out; omega))
        clear HM1 HM2
        generalize manyE P = mP at *
        generalize manyE G = mG at *
        generalize manyE U = mU at *
        generalize manyE l = mL at *
        generalize putE U P = PB at *
        generalize putE G P = PW at *
        go_wp2_with fail
        refine ((HMP w7 RP7.out).out).mono ?_
        rintro en w8 ⟨rfl, hb⟩
        have L8 := Lib.hid (L7.out.trans (hb.mono L7.out.size))
        have RP8 := Lib.hid (RP7.out.below hb)
        have RG8 := Lib.hid (RG7.out.below hb)
        have RU8 := Lib.hid (RU7.out.below hb)
        clear hb
        go_wp2_with fail
        refine ((HMG w8 RG8.out).out).mono ?_
        rintro en w9 ⟨rfl, hb⟩
        have L9 := Lib.hid (L8.out.trans (hb.mono L8.out.size))
        have RP9 := Lib.hid (RP8.out.below hb)
        have RG9 := Lib.hid (RG8.out.below hb)
        have RU9 := Lib.hid (RU8.out.below hb)
        clear hb
        go_wp2_with fail
        refine ((HMU w9 RU9.out).out).mono ?_
        rintro en w10 ⟨rfl, hb⟩
        have L10 := Lib.hid (L9.out.trans (hb.mono L9.out.size))
        have RP10 := Lib.hid (RP9.out.below hb)
        have RG10 := Lib.hid (RG9.out.below hb)
        have RU10 := Lib.hid (RU9.out.below hb)
        clear hb
        go_wp2_with fail
        refine ((HMP w10 RP10.out).out).mono ?_
        rintro en w11 ⟨rfl, hb⟩
        have L11 := Lib.hid (L10.out.trans (hb.mono L10.out.size))
        have RP11 := Lib.hid (RP10.out.below hb)
        have RG11 := Lib.hid (RG10.out.below hb)
        have RU11 := Lib.hid (RU10.out.below hb)
        clear hb
        go_wp2_with fail
        refine ((HML w11 (HA.out.below L11.out)).out).mono ?_
        rintro en w12 ⟨rfl, hb⟩
        have L12 := Lib.hid (L11.out.trans (hb.mono L11.out.size))
        have RP12 := Lib.hid (RP11.out.below hb)
        have RG12 := Lib.hid (RG11.out.below hb)
        have RU12 := Lib.hid (RU11.out.below hb)
        clear hb
        go_wp2_with fail
        refine ((HPUT1 w12 RU12.out RP12.out).out).mono ?_
        rintro en w13 ⟨⟨B1, b, bd, rfl, hO⟩, hb⟩
        have L13 := Lib.hid (L12.out.trans (hb.mono L12.out.size))
        have RP13 := Lib.hid (RP12.out.below hb)
        have RG13 := Lib.hid (RG12.out.below hb)
        have RU13 := Lib.hid (RU12.out.below hb)
        have RB13 := Lib.hid (OwnsL.row hO (by have := hO.2; have := HLB.out; omega))
        have EB : b ≤ 1000 := by have := hO.2; have := HLB.out; omega
        clear hO
        clear hb
        go_wp2_with fail
        refine ((HPUT2 w13 RG13.out RP13.out).out).mono ?_
        rintro en w14 ⟨⟨V1, v, vd, rfl, hO⟩, hb⟩
        have L14 := Lib.hid (L13.out.trans (hb.mono L13.out.size))
        have RB14 := Lib.hid (RB13.out.below hb)
        have RV14 := Lib.hid (OwnsL.row hO (by have := hO.2; have := HLW.out; omega))
        have EV : v ≤ 1000 := by have := hO.2; have := HLW.out; omega
        clear hO
        clear hb
        have HLJ : Hid ((joinE l).length ≤ 300) := by have := join_len l; have := HA.out.len; show _ ≤ _; omega
        have HJO := Lib.hid (join_ok HOK.out)
        have HJJ := Lib.hid (join_join HOK.out)
        have HJN := fun w (h : RowL w A n c l) => Lib.hid (join_any h HOK.out (by omega))
        have HSM := fun w A' n' c' (h1 : RowL w A n c l) (h2 : RowL w A' n' c' (joinE l)) (h3 : n' ≤ 300) => Lib.hid (same_any h1 h2 HOK.out HJO.out (by omega) (by omega) HJJ.out.symm)
        have HJ2 := fun w A' n' c' (h2 : RowL w A' n' c' (joinE l)) (h3 : n' ≤ 300) => Lib.hid (join_any h2 HJO.out (by omega))
        rw [HJJ.out] at HJ2
        have HBS := HB1
        have HJE : Hid (∃ K, joinE l = K) := ⟨_, rfl⟩
        go_wp2_with fail
        refine ((HJN w14 (HA.out.below L14.out)).out).mono ?_
        rintro en w15 ⟨⟨K1, j, jd, rfl, hO⟩, hb⟩
        have L15 := Lib.hid (L14.out.trans (hb.mono L14.out.size))
        have RB15 := Lib.hid (RB14.out.below hb)
        have RV15 := Lib.hid (RV14.out.below hb)
        have RK15 := Lib.hid (OwnsL.row hO (by have := hO.2; have := HLJ.out; omega))
        have EK : j ≤ 300 := by have := hO.2; have := HLJ.out; omega
        have EK2 := hO.2
        clear hO
        clear hb
        have HSB := Lib.hid (same_any RB15.out (HA.out.below L15.out) HPB.out HOK.out (by omega) (by omega) HBS.out)
        go_wp2_with fail
        refine (HSB.out).mono ?_
        rintro en w16 ⟨rfl, hb⟩
        have L16 := Lib.hid (L15.out.trans (hb.mono L15.out.size))
        have RV16 := Lib.hid (RV15.out.below hb)
        have RK16 := Lib.hid (RK15.out.below hb)
        clear hb
        go_wp2_with fail
        refine ((HJ2 w16 _ _ _ RK16.out EK).out).mono ?_
        rintro en w17 ⟨⟨K2, j2, jd2, rfl, hO⟩, hb⟩
        have L17 := Lib.hid (L16.out.trans (hb.mono L16.out.size))
        have RV17 := Lib.hid (RV16.out.below hb)
        have RK17 := Lib.hid (RK16.out.below hb)
        obtain rfl : j2 = j := by have := hO.2; omega
        have RZ17 := Lib.hid (OwnsL.row hO (by omega))
        clear hO
        clear hb
        go_wp2_with fail
        refine (equal_any RZ17.out RK17.out).mono ?_
        rintro en w18 ⟨rfl, hb⟩
        have L18 := Lib.hid (L17.out.trans (hb.mono L17.out.size))
        have RV18 := Lib.hid (RV17.out.below hb)
        have RK18 := Lib.hid (RK17.out.below hb)
        clear hb
        have HMW := Lib.hid (many_any RV18.out HPW.out)
        rw [HWM.out] at HMW
        go_wp2_with fail
        refine (HMW.out).mono ?_
        rintro en w19 ⟨rfl, hb⟩
        have L19 := Lib.hid (L18.out.trans (hb.mono L18.out.size))
        have RK19 := Lib.hid (RK18.out.below hb)
        clear hb
        go_wp2_with fail
        refine ((HSM w19 _ _ _ (HA.out.below L19.out) RK19.out EK).out).mono ?_
        rintro en w20 ⟨rfl, hb⟩
        have L20 := Lib.hid (L19.out.trans (hb.mono L19.out.size))
        clear hb
        go_wp2_with fail
        go_ret
        exact ⟨rfl, L20.out⟩
end Ext
end Go.Proofs.Ythahemffeagifaa
