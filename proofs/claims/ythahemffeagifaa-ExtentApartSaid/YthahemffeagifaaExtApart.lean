/-
  THE STATEMENT ExtentApart: what is put changes no block but its own. For every input. (Written by gen_extlaws.py.)
-/
import Derived.Test.YthahemffeagifaaExtLaw
import Derived.BigQuiet
namespace Go.Proofs.Ythahemffeagifaa
open Go.RowKit Mem
namespace Ext
set_option maxRecDepth 100000 in
set_option maxHeartbeats 12800000 in
theorem apart_walk {A : Option Addr} {n c : Nat} {l : List Ex} {w : World} (hA : RowL w A n c l) (e : Ex) (k : Int) :
    Calls Try.prog 5 #[.slice A n c, xv e, .int .i64 k] w fun en w' => en = .returned (.bool true) ∧ Below w.heap.size w w' := by
  have HA := Lib.hid hA
  have hbig := hA.big
  have L1 : Hid (Below w.heap.size w (w.alloc (.cells #[.int .i64 e.lba, .int .i64 e.n, .int .i64 e.ver, .int .i64 e.zone, .int .i64 e.off] 28))) := (Below.refl _ w).alloc (Nat.le_refl _) _
  have B1 : Hid (LBox (w.alloc (.cells #[.int .i64 e.lba, .int .i64 e.n, .int .i64 e.ver, .int .i64 e.zone, .int .i64 e.off] 28)) w.heap.size e) := Cells.new _ _ _
  clear hA
  go_enter Try.func5, Try.ntmps5
  go_upto_region 1 with fail
  generalize w.alloc (.cells #[.int .i64 e.lba, .int .i64 e.n, .int .i64 e.ver, .int .i64 e.zone, .int .i64 e.off] 28) = w1 at *
  go_wp2_with fail
  refine (live_any w1).mono ?_
  rintro en w2 ⟨rfl, hb⟩
  have L2 := Lib.hid (L1.out.trans (hb.mono L1.out.size))
  have B2 := Lib.hid (Cells.below B1.out hb)
  clear hb
  have HF := fun w : World => Lib.hid (few1 (w := w) A n c l)
  go_wp2_with fail
  refine (HF w2).out.mono ?_
  rintro en w3 ⟨rfl, hw⟩
  have L3 : Hid (Below w.heap.size w w3) := by show Below _ _ _; rw [hw]; exact L2.out.alloc L2.out.size _
  have B3 : Hid (LBox w3 w.heap.size e) := by show LBox _ _ _; rw [hw]; exact Cells.alloc B2.out _
  clear hw B1 B2 HF
  have HC := Lib.hid (refCheck_any (HA.out.below L3.out))
  rcases e1 : decide (n ≤ 300)
  · go_wp2_with fail
    go_ret
    exact ⟨rfl, L3.out⟩
  · have hn : n ≤ 300 := of_decide_eq_true e1
    clear e1
    rcases e2 : okE l
    · rw [e2] at HC
      have he : errOf false = 1 := rfl
      rw [he] at HC
      go_wp2_with fail
      refine HC.out.mono ?_
      rintro en w4 ⟨rfl, hb⟩
      have L4 := Lib.hid (L3.out.trans (hb.mono L3.out.size))
      clear hb
      go_wp2_with fail
      go_ret
      exact ⟨rfl, L4.out⟩
    · rw [e2] at HC
      have HOK := Lib.hid (okE_iff.1 e2)
      have he : errOf true = 0 := rfl
      rw [he] at HC
      go_wp2_with fail
      refine HC.out.mono ?_
      rintro en w4 ⟨rfl, hb⟩
      have L4 := Lib.hid (L3.out.trans (hb.mono L3.out.size))
      have B4 := Lib.hid (Cells.below B3.out hb)
      clear hb HC B3
      obtain ⟨n0, n1, n2, n3, n4⟩ := LBox.cells B4.out
      have HM := fun w => Lib.hid (refMay_any e w)
      go_wp2_with fail
      refine (HM w4).out.mono ?_
      rintro en w5 ⟨rfl, hb⟩
      have L5 := Lib.hid (L4.out.trans (hb.mono L4.out.size))
      have B5 := Lib.hid (Cells.below B4.out hb)
      clear hb HM B4 n0 n1 n2 n3 n4
      obtain ⟨n0, n1, n2, n3, n4⟩ := LBox.cells B5.out
      rcases e3 : mayE e
      · go_wp2_with fail
        go_ret
        exact ⟨rfl, L5.out⟩
      · have HME := Lib.hid (mayE_iff.1 e3)
        have hw : IntKind.i64.wrap (e.lba + e.n) = e.lba + e.n := wrap_small (by have := HME.out.1; have := HME.out.2.1; omega) (by have := HME.out.2.2.1; omega)
        clear e2 e3
        rcases e4 : decide (e.lba ≤ k)
        · have HNH : Hid (¬ has e k) := by have h4 := of_decide_eq_false e4; show ¬ _; unfold has; show ¬ (_ ∧ k < e.lba + e.n); omega
          have HT : Hid (tell (putE l [e]) k = tell l k) := by show _ = _; rw [put1_tell HOK.out HME.out, if_neg HNH.out]
          have HT2 : Hid (tell (putE l [e]) e.lba = some (blk e e.lba)) := by show _ = _; rw [put1_tell HOK.out HME.out, if_pos (by have := en_lt HME.out; unfold has; omega)]
          have HPO := Lib.hid (put1_ok HOK.out HME.out)
          have HLE : Hid ((putE l [e]).length ≤ 1000) := by have := put1_len HOK.out HME.out; have := HA.out.len; show _ ≤ _; omega
          have A6 : Hid (Below w5.heap.size w5 (w5.alloc (.cells #[.int .i64 e.lba, .int .i64 e.n, .int .i64 e.ver, .int .i64 e.zone, .int .i64 e.off] 28))) := (Below.refl _ _).alloc (Nat.le_refl _) _
          have N6 : Hid (LBox (w5.alloc (.cells #[.int .i64 e.lba, .int .i64 e.n, .int .i64 e.ver, .int .i64 e.zone, .int .i64 e.off] 28)) w5.heap.size e) := Cells.new _ _ _
          have L6 := Lib.hid (L5.out.trans (A6.out.mono L5.out.size))
          have B6 := Lib.hid (Cells.alloc B5.out (.cells #[.int .i64 e.lba, .int .i64 e.n, .int .i64 e.ver, .int .i64 e.zone, .int .i64 e.off] 28))
          have HPUT := Lib.hid (put_any (HA.out.below L6.out) (RowS.one N6.out) HOK.out (mem_one HME.out) (by omega) (by omega) (by have := HLE.out; omega))
          go_wp2_with fail
          refine HPUT.out.mono ?_
          rintro en w7 ⟨⟨B, m, d, rfl, hO⟩, hb⟩
          have L7 := Lib.hid (L6.out.trans (hb.mono L6.out.size))
          have B7 := Lib.hid (Cells.below B6.out hb)
          have hm : m ≤ 1000 := by have := hO.2; have := HLE.out; omega
          have R7 := Lib.hid (OwnsL.row hO (by omega))
          clear hO hb HPUT A6 N6 B6 n0 n1 n2 n3 n4
          generalize putE l [e] = P at *
          have HA1 := Lib.hid (law_at R7.out HPO.out (by omega) k)
          rw [HT.out] at HA1
          go_wp2_with fail
          refine HA1.out.mono ?_
          rintro en w8 ⟨rfl, hb⟩
          obtain ⟨vb, vv, vz, vo, hV⟩ := bv_form (tell l k)
          rw [hV]
          have L8 := Lib.hid (L7.out.trans (hb.mono L7.out.size))
          have R8 := Lib.hid (R7.out.below hb)
          have B8 := Lib.hid (Cells.below B7.out hb)
          clear hb
          have HA2 := Lib.hid (law_at (HA.out.below L8.out) HOK.out (by omega) k)
          go_wp2_with fail
          refine HA2.out.mono ?_
          rintro en w9 ⟨rfl, hb⟩
          have L9 := Lib.hid (L8.out.trans (hb.mono L8.out.size))
          have R9 := Lib.hid (R8.out.below hb)
          have B9 := Lib.hid (Cells.below B8.out hb)
          clear hb
          obtain ⟨n0, n1, n2, n3, n4⟩ := LBox.cells B9.out
          rw [hV]
          have heq := fun w => blk_eql vb vv vz vo w
          have hgd := blk_guard
          clear hV
          have HA3 := Lib.hid (law_at R9.out HPO.out (by omega) e.lba)
          rw [HT2.out] at HA3
          go_wp2_with fail
          refine HA3.out.mono ?_
          rintro en wa ⟨rfl, hb⟩
          have La := Lib.hid (L9.out.trans (hb.mono L9.out.size))
          have Ra := Lib.hid (R9.out.below hb)
          clear hb
          have HC2 := Lib.hid (refCheck_any Ra.out)
          rw [okE_iff.2 HPO.out] at HC2
          have hbv : bv (some (blk e e.lba)) = .agg #[.bool true, .int .i64 (blk e e.lba).1, .int .i64 (blk e e.lba).2.1, .int .i64 (blk e e.lba).2.2] := rfl
          rw [hbv]
          have hfld := fun w => run_is true (blk e e.lba).1 (blk e e.lba).2.1 (blk e e.lba).2.2 w
          have he : errOf true = 0 := rfl
          rw [he] at HC2
          go_wp2_with fail
          refine HC2.out.mono ?_
          rintro en wb ⟨rfl, hb⟩
          have Lb := Lib.hid (La.out.trans (hb.mono La.out.size))
          clear hb
          go_wp2_with fail
          go_ret
          exact ⟨rfl, Lb.out⟩
        · rcases e5 : decide (k < e.lba + e.n)
          · have HNH : Hid (¬ has e k) := by have h4 := of_decide_eq_false e5; show ¬ _; unfold has; show ¬ (_ ∧ k < e.lba + e.n); omega
            have HT : Hid (tell (putE l [e]) k = tell l k) := by show _ = _; rw [put1_tell HOK.out HME.out, if_neg HNH.out]
            have HT2 : Hid (tell (putE l [e]) e.lba = some (blk e e.lba)) := by show _ = _; rw [put1_tell HOK.out HME.out, if_pos (by have := en_lt HME.out; unfold has; omega)]
            have HPO := Lib.hid (put1_ok HOK.out HME.out)
            have HLE : Hid ((putE l [e]).length ≤ 1000) := by have := put1_len HOK.out HME.out; have := HA.out.len; show _ ≤ _; omega
            have A6 : Hid (Below w5.heap.size w5 (w5.alloc (.cells #[.int .i64 e.lba, .int .i64 e.n, .int .i64 e.ver, .int .i64 e.zone, .int .i64 e.off] 28))) := (Below.refl _ _).alloc (Nat.le_refl _) _
            have N6 : Hid (LBox (w5.alloc (.cells #[.int .i64 e.lba, .int .i64 e.n, .int .i64 e.ver, .int .i64 e.zone, .int .i64 e.off] 28)) w5.heap.size e) := Cells.new _ _ _
            have L6 := Lib.hid (L5.out.trans (A6.out.mono L5.out.size))
            have B6 := Lib.hid (Cells.alloc B5.out (.cells #[.int .i64 e.lba, .int .i64 e.n, .int .i64 e.ver, .int .i64 e.zone, .int .i64 e.off] 28))
            have HPUT := Lib.hid (put_any (HA.out.below L6.out) (RowS.one N6.out) HOK.out (mem_one HME.out) (by omega) (by omega) (by have := HLE.out; omega))
            go_wp2_with fail
            refine HPUT.out.mono ?_
            rintro en w7 ⟨⟨B, m, d, rfl, hO⟩, hb⟩
            have L7 := Lib.hid (L6.out.trans (hb.mono L6.out.size))
            have B7 := Lib.hid (Cells.below B6.out hb)
            have hm : m ≤ 1000 := by have := hO.2; have := HLE.out; omega
            have R7 := Lib.hid (OwnsL.row hO (by omega))
            clear hO hb HPUT A6 N6 B6 n0 n1 n2 n3 n4
            generalize putE l [e] = P at *
            have HA1 := Lib.hid (law_at R7.out HPO.out (by omega) k)
            rw [HT.out] at HA1
            go_wp2_with fail
            refine HA1.out.mono ?_
            rintro en w8 ⟨rfl, hb⟩
            obtain ⟨vb, vv, vz, vo, hV⟩ := bv_form (tell l k)
            rw [hV]
            have L8 := Lib.hid (L7.out.trans (hb.mono L7.out.size))
            have R8 := Lib.hid (R7.out.below hb)
            have B8 := Lib.hid (Cells.below B7.out hb)
            clear hb
            have HA2 := Lib.hid (law_at (HA.out.below L8.out) HOK.out (by omega) k)
            go_wp2_with fail
            refine HA2.out.mono ?_
            rintro en w9 ⟨rfl, hb⟩
            have L9 := Lib.hid (L8.out.trans (hb.mono L8.out.size))
            have R9 := Lib.hid (R8.out.below hb)
            have B9 := Lib.hid (Cells.below B8.out hb)
            clear hb
            obtain ⟨n0, n1, n2, n3, n4⟩ := LBox.cells B9.out
            rw [hV]
            have heq := fun w => blk_eql vb vv vz vo w
            have hgd := blk_guard
            clear hV
            have HA3 := Lib.hid (law_at R9.out HPO.out (by omega) e.lba)
            rw [HT2.out] at HA3
            go_wp2_with fail
            refine HA3.out.mono ?_
            rintro en wa ⟨rfl, hb⟩
            have La := Lib.hid (L9.out.trans (hb.mono L9.out.size))
            have Ra := Lib.hid (R9.out.below hb)
            clear hb
            have HC2 := Lib.hid (refCheck_any Ra.out)
            rw [okE_iff.2 HPO.out] at HC2
            have hbv : bv (some (blk e e.lba)) = .agg #[.bool true, .int .i64 (blk e e.lba).1, .int .i64 (blk e e.lba).2.1, .int .i64 (blk e e.lba).2.2] := rfl
            rw [hbv]
            have hfld := fun w => run_is true (blk e e.lba).1 (blk e e.lba).2.1 (blk e e.lba).2.2 w
            have he : errOf true = 0 := rfl
            rw [he] at HC2
            go_wp2_with fail
            refine HC2.out.mono ?_
            rintro en wb ⟨rfl, hb⟩
            have Lb := Lib.hid (La.out.trans (hb.mono La.out.size))
            clear hb
            go_wp2_with fail
            go_ret
            exact ⟨rfl, Lb.out⟩
          · go_wp2_with fail
            go_ret
            exact ⟨rfl, L5.out⟩
end Ext
end Go.Proofs.Ythahemffeagifaa
