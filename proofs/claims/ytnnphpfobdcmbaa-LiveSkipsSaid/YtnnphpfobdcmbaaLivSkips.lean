/-
  THE STATEMENT LiveSkips: its walk.
-/
import Derived.Test.YtnnphpfobdcmbaaLivSkipsP
namespace Go.Proofs.Ytnnphpfobdcmbaa
open Go.RowKit Mem Ext Zon Zns
namespace Liv

theorem filt_snoc {l : List Nat} {k x : Nat} (hx : l[k]? = some x) (f : Nat → Bool) : (l.take (k + 1)).filter f = (l.take k).filter f ++ (bif f x then [x] else []) := by
  rw [List.take_add_one, hx, Option.toList_some, List.filter_append]
  congr 1
set_option maxRecDepth 100000 in
set_option maxHeartbeats 12800000 in
theorem liveSkips_walk {d : Dx} {w : World} (h : DevAt w d) {B : Option Addr} {m e : Nat} {l : List Ext.Ex} (hl : RowL w B m e l) (hs : SmallN l) {C : Option Addr} {k f : Nat} {sk : List Int} (hk : Row ci w C k f sk) :
    Calls Try.prog 6 #[dxv d, .slice B m e, .slice C k f] w fun en w' => en = .returned (.bool true) ∧ Below w.heap.size w w' := by
  have HU := fun w => Lib.hid (up_any w)
  have HF := fun w (h : DevAt w d) => Lib.hid (few_any (L := B) (lc := e) h hl.big)
  have HPA := fun w (h : DevAt w d) (hl : RowL w B m e l) => Lib.hid (plan_any h hl hs 1000 (C := none) (k := 0) (f := 0) (sk := []) (Row.nil _ _))
  have HPS := fun w (h : DevAt w d) (hl : RowL w B m e l) (hk : Row ci w C k f sk) => Lib.hid (plan_any h hl hs 1000 hk)
  have hn64 : needB d l = true → d.n ≤ 64 := fun hk => (okD_n h (by unfold needB at hk; simp only [Bool.and_eq_true] at hk; exact hk.1)).2.1
  have HSK := Lib.hid (plan_skip hn64 sk)
  have HNO := Lib.hid (plan_none hn64 sk)
  have hpl64 : (planP d l [] 1000).length ≤ 64 := by
    rw [plan_all hn64]
    rcases e : needB d l
    · exact Nat.zero_le _
    · exact Nat.le_trans (victims_len d l []) (hn64 e)
  have HV := fun w (h : DevAt w d) (hl : RowL w B m e l) (X : Option Addr) (i c : Nat) (hk : Row ci w X i c (sk ++ iN (planP d l sk 1000))) => Lib.hid (victim_any h hl hs hk)
  simp only [HNO.out] at HV
  have HI := fun w (h : Row ci w C k f sk) v => Lib.hid (in_any h v)
  have hbig := h.row.big
  have hmb := hl.big
  have hkb := hk.big
  have HD := Lib.hid h
  have HL := Lib.hid hl
  have HR := Lib.hid hk
  clear hn64 HNO
  generalize planP d l [] 1000 = P at *
  generalize planP d l sk 1000 = S at *
  obtain ⟨cap, op, ac, A, n, c, xs⟩ := d
  have L1 := Lib.hid ((Below.refl w.heap.size w).alloc (Nat.le_refl _) (.cells #[.int .i64 cap, .int .i64 op, .int .i64 ac, .slice A n c] 38))
  have B1 := Lib.hid (DBox.new w ⟨cap, op, ac, A, n, c, xs⟩)
  unfold dxv at *
  dsimp only at *
  clear h hl hs hk
  go_enter Try.func6, Try.ntmps6
  go_upto_region 1 with fail
  generalize w.alloc (.cells #[.int .i64 cap, .int .i64 op, .int .i64 ac, .slice A n c] 38) = w1 at *
  go_upto_region 2 with (go_at_call 8; refine (HU w1).out.mono ?_; rintro e w2 ⟨rfl, hb⟩; have L2 := Lib.hid (L1.out.trans (hb.mono L1.out.size)); have B2 := Lib.hid (B1.out.below hb); clear hb)
  clear L1 B1 HU
  obtain ⟨m0, m1, m2, m3⟩ := B2.out.cells
  dsimp only at m0 m1 m2 m3
  go_wp2_with fail
  refine (HF w2 (HD.out.below L2.out)).out.mono ?_
  rintro e w3 ⟨⟨fb, rfl, hfb⟩, hb⟩
  have L3 := Lib.hid (L2.out.trans (hb.mono L2.out.size))
  have B3 := Lib.hid (B2.out.below hb)
  clear hb m0 m1 m2 m3 L2 B2 HF hfb
  obtain ⟨m0, m1, m2, m3⟩ := B3.out.cells
  dsimp only at m0 m1 m2 m3
  rcases fb with _ | _
  · go_wp2_with fail
    go_ret
    exact ⟨rfl, L3.out⟩
  rcases hm1 : decide ((k : Int) > 100)
  rotate_left
  · have hm2 : (100 : Int) < (k : Int) := of_decide_eq_true hm1
    go_wp2_with fail
    go_ret
    exact ⟨rfl, L3.out⟩
  have hm2 : ¬ (100 : Int) < (k : Int) := of_decide_eq_false hm1
  have hk100 : k ≤ 100 := by omega
  go_upto_region 5 with (go_at_call 16; refine (HPA w3 (HD.out.below L3.out) (HL.out.below L3.out)).out.mono ?_; rintro e w4 ⟨⟨X, i, q, rfl, hr⟩, hb⟩; have L4 := Lib.hid (L3.out.trans (hb.mono L3.out.size)); have B4 := Lib.hid (B3.out.below hb); have R4 := Lib.hid hr; clear hb hr)
  clear HPA L3 B3 m0 m1 m2 m3
  obtain ⟨m0, m1, m2, m3⟩ := B4.out.cells
  dsimp only at m0 m1 m2 m3
  go_upto_region 6 with (go_at_call 16; refine (HPS w4 (HD.out.below L4.out) (HL.out.below L4.out) (HR.out.below L4.out)).out.mono ?_; rintro e w5 ⟨⟨Y, j, s, rfl, hr⟩, hb⟩; have L5 := Lib.hid (L4.out.trans (hb.mono L4.out.size)); have B5 := Lib.hid (B4.out.below hb); have R5 := Lib.hid (R4.out.below hb); have S5 := Lib.hid hr; clear hb hr)
  clear HPS L4 B4 R4 m0 m1 m2 m3
  have hiP : Hid (P.length = i) := by show _ = _; have h1 := R5.out.len; rw [iN_len] at h1; exact h1
  have hi64 : i ≤ 64 := by have := hiP.out; omega
  go_wp2_with fail
  go_loopw [10, 12, 35] (fun t _ v wr => ∃ (q2 : Nat) (Z : Option Addr) (z zc : Nat), v = .int .i64 q2 ∧ t = .slice Z z zc ∧ q2 ≤ i ∧ z ≤ q2 ∧ Hid (Below w.heap.size w wr ∧ Below w5.heap.size w5 wr ∧ Mem.Owns ci 3 w5.heap.size wr (.slice Z z zc) z (iN ((P.take q2).filter fun y : Nat => !sk.contains (y : Int))))) (fun _ _ v _ => i - (intOf v).toNat)
  case atStart => exact ⟨0, none, 0, 0, rfl, rfl, by omega, by omega, L5.out, Below.refl _ _, Mem.Owns.nil _ _ _ _⟩
  case round =>
    obtain ⟨q2, Z, z, zc, rfl, rfl, hq, hz, hH⟩ := hrel
    by_cases hlt : q2 < i
    · have g1 : P[q2]? = some (P[q2]'(by have := hiP.out; omega)) := List.getElem?_eq_getElem _
      generalize P[q2]'(by have := hiP.out; omega) = x at g1
      obtain ⟨b, o, hX, c0⟩ := (R5.out.below hH.out.2.1).cell (iN_get g1)
      subst hX
      have c0' : wr.cell? ⟨b, o + q2, none⟩ = some (.int .i64 (x : Int)) := c0
      have hk0 : (0 : Int) ≤ (q2 : Int) := by omega
      have hk1 : (q2 : Int) < (i : Int) := by omega
      have HFS := Lib.hid (filt_snoc g1 fun y : Nat => !sk.contains (y : Int))
      clear c0 g1
      generalize hsc : sk.contains (x : Int) = sc at HFS
      have HSC := Lib.hid hsc
      clear hsc
      rcases sc with _ | _
      · go_upto_region 11 with (go_at_call 17; refine (HI wr (HR.out.below hH.out.1) (x : Int)).out.mono ?_; rw [HSC.out]; rintro e w6 ⟨rfl, hb⟩; have L6 := Lib.hid (hH.out.1.trans (hb.mono hH.out.1.size)); have M6 := Lib.hid (hH.out.2.1.trans (hb.mono hH.out.2.1.size)); have O6 := Lib.hid (hH.out.2.2.below hb); clear hb)
        have A5 : Hid (Below w.heap.size w (w6.alloc (.cells #[.int .i64 (x : Int)] 3))) := L6.out.alloc L6.out.size _
        have M5 : Hid (Below w5.heap.size w5 (w6.alloc (.cells #[.int .i64 (x : Int)] 3))) := M6.out.alloc M6.out.size _
        have C5 : Hid (Ext.Cells (w6.alloc (.cells #[.int .i64 (x : Int)] 3)) w6.heap.size 3 #[.int .i64 (x : Int)]) := Ext.Cells.new _ _ _
        go_wp2_with (at_builtin
                     refine wpList_append_row ci_one Try.underlying26 info_int rfl rfl (.tmp 43) (.tmp 45) rfl rfl w5.heap.size (.slice Z z zc) z _ rfl (Mem.Owns.alloc O6.out _) _ 1 1 [(x : Int)] rfl (rowI_one C5.out) (by omega) (by omega) M5.out.size ?_
                     intro A' c' w' h1 h2
                     have O7 := Lib.hid h1
                     have M7 := Lib.hid (M5.out.trans h2)
                     have L7 := Lib.hid (A5.out.trans (h2.mono L5.out.size))
                     clear h1 h2)
        go_roundw
        case rel => exact ⟨q2 + 1, A', z + 1, c', by go_num, rfl, by omega, by omega, L7.out, M7.out, by rw [HFS.out, iN_app]; exact O7.out⟩
        case measure => simp [intOf]; omega
      · go_wp2_with (go_at_call 17; refine (HI wr (HR.out.below hH.out.1) (x : Int)).out.mono ?_; rw [HSC.out]; rintro e w6 ⟨rfl, hb⟩; have L6 := Lib.hid (hH.out.1.trans (hb.mono hH.out.1.size)); have M6 := Lib.hid (hH.out.2.1.trans (hb.mono hH.out.2.1.size)); have O6 := Lib.hid (hH.out.2.2.below hb); clear hb)
        go_roundw
        case rel => exact ⟨q2 + 1, Z, z, zc, by go_num, rfl, by omega, by omega, L6.out, M6.out, by rw [HFS.out]; simpa using O6.out⟩
        case measure => simp [intOf]; omega
    · have hkn : P.take q2 = P := List.take_of_length_le (by have := hiP.out; omega)
      obtain ⟨A6, c6, hA6, R6⟩ := hH.out.2.2.row (by omega)
      injection hA6 with e6 _ e7
      subst e6 e7
      rw [hkn, ← HSK.out] at R6
      have R7 := Lib.hid R6
      have S7 := Lib.hid (S5.out.below hH.out.2.1)
      have L7 := Lib.hid hH.out.1
      have B7 := Lib.hid (B5.out.below hH.out.2.1)
      have hj64 : j ≤ 64 := by
        have h1 := S5.out.len
        rw [iN_len] at h1
        have h2 : S.length ≤ P.length := by rw [HSK.out]; exact List.length_filter_le _ _
        omega
      clear hkn R6 hH hz
      have HSAME := Lib.hid (sameInts_any S7.out R7.out)
      go_upto_region 15 with (go_at_call 20; (refine HSAME.out.mono ?_; rintro e w8 ⟨rfl, hb⟩; have L8 := Lib.hid (L7.out.trans (hb.mono L7.out.size)); have B8 := Lib.hid (B7.out.below hb); have S8 := Lib.hid (S7.out.below hb); clear hb))
      clear HSAME L7 B7 S7 R7 R5 S5
      have M8 : Hid (Below w8.heap.size w8 w8) := Below.refl _ _
      have HS := fun W (hW : Below w8.heap.size w8 W) => (B8.out.below hW).cells
      dsimp only at HS
      have L9 := Lib.hid (L8.out.drew)
      have M9 := Lib.hid (M8.out.drew)
      refine wp_region_held_drew (S := fun W => W.cell? ⟨w.heap.size, 0, none⟩ = some (.int .i64 cap) ∧ W.cell? ⟨w.heap.size, 1, none⟩ = some (.int .i64 op) ∧ W.cell? ⟨w.heap.size, 2, none⟩ = some (.int .i64 ac) ∧ W.cell? ⟨w.heap.size, 3, none⟩ = some (.slice A n c)) (by kernel_rfl) (HS _ M9.out) (fun hHeld => ?_)
      generalize w8.drew = w9 at *
      clear L8 M8
      (first | (refine Reg.take 0 (v := ?_) rfl (by kernel_rfl) (by kernel_rfl) (by kernel_rfl) (fun _ _ _ h => h) (Or.inl ⟨by rfl, ?_⟩) (by assumption) ?_; rotate_left; (focus ((intro W hSW); (try dsimp only at hSW); (try go_split_ands); go_simp; (try (with_reducible rfl)); done))) | (refine Reg.take 0 (v := undef) rfl (by kernel_rfl) (by kernel_rfl) (by kernel_rfl) (fun _ _ _ h => h) (Or.inr ⟨by rfl, rfl⟩) (by assumption) ?_))
      (try simp only [Act.put, List.setIfInBounds_toArray, List.set_cons_zero, List.set_cons_succ])
      (first | (refine Reg.take 1 (v := ?_) rfl (by kernel_rfl) (by kernel_rfl) (by kernel_rfl) (fun _ _ _ h => h) (Or.inl ⟨by rfl, ?_⟩) (by assumption) ?_; rotate_left; (focus ((intro W hSW); (try dsimp only at hSW); (try go_split_ands); go_simp; (try (with_reducible rfl)); done))) | (refine Reg.take 1 (v := undef) rfl (by kernel_rfl) (by kernel_rfl) (by kernel_rfl) (fun _ _ _ h => h) (Or.inr ⟨by rfl, rfl⟩) (by assumption) ?_))
      (try simp only [Act.put, List.setIfInBounds_toArray, List.set_cons_zero, List.set_cons_succ])
      (first | (refine Reg.take 2 (v := ?_) rfl (by kernel_rfl) (by kernel_rfl) (by kernel_rfl) (fun _ _ _ h => h) (Or.inl ⟨by rfl, ?_⟩) (by assumption) ?_; rotate_left; (focus ((intro W hSW); (try dsimp only at hSW); (try go_split_ands); go_simp; (try (with_reducible rfl)); done))) | (refine Reg.take 2 (v := undef) rfl (by kernel_rfl) (by kernel_rfl) (by kernel_rfl) (fun _ _ _ h => h) (Or.inr ⟨by rfl, rfl⟩) (by assumption) ?_))
      (try simp only [Act.put, List.setIfInBounds_toArray, List.set_cons_zero, List.set_cons_succ])
      (first | (refine Reg.take 4 (v := ?_) rfl (by kernel_rfl) (by kernel_rfl) (by kernel_rfl) (fun _ _ _ h => h) (Or.inl ⟨by rfl, ?_⟩) (by assumption) ?_; rotate_left; (focus ((intro W hSW); (try dsimp only at hSW); (try go_split_ands); go_simp; (try (with_reducible rfl)); done))) | (refine Reg.take 4 (v := undef) rfl (by kernel_rfl) (by kernel_rfl) (by kernel_rfl) (fun _ _ _ h => h) (Or.inr ⟨by rfl, rfl⟩) (by assumption) ?_))
      (try simp only [Act.put, List.setIfInBounds_toArray, List.set_cons_zero, List.set_cons_succ])
      refine Reg.step 3 rfl (by kernel_rfl) (by rfl) (fun K hK => ?_)
      refine wp_append_i (.const (.slice none 0 0)) (.tmp 55) rfl rfl w9.heap.size (.slice none 0 0) 0 [] rfl (Mem.Owns.nil _ _ _ _) C k f sk rfl (HR.out.below L9.out) (by omega) (Nat.le_refl _) ?_
      intro A1 c1 w10 hO1 hb1
      have O1 := Lib.hid hO1
      have L10 := Lib.hid (L9.out.trans (hb1.mono L9.out.size))
      have M10 := Lib.hid (M9.out.trans (hb1.mono M9.out.size))
      have N10 : Hid (w9.heap.size ≤ w10.heap.size) := hb1.size
      refine hK.out _ _ (HS _ M10.out) (fun hHeldB => ?_)
      clear hK K hO1 hHeld
      (try simp only [Act.put, List.setIfInBounds_toArray, List.set_cons_zero, List.set_cons_succ])
      refine Reg.step 5 rfl (by kernel_rfl) (by rfl) (fun K hK => ?_)
      refine wp_append_i (.tmp 56) (.tmp 57) rfl rfl w9.heap.size (.slice A1 (0 + k) c1) (0 + k) ([] ++ sk) rfl O1.out Y j s (iN S) rfl (S8.out.below M10.out) (by omega) N10.out ?_
      intro A2 c2 w11 hO2 hb2
      have L11 := Lib.hid (L10.out.trans (hb2.mono L9.out.size))
      have M11 := Lib.hid (M10.out.trans (hb2.mono M9.out.size))
      obtain ⟨A3, c3, hA3, R11⟩ := hO2.row (by omega)
      injection hA3 with e8 _ e9
      subst e8 e9
      rw [List.nil_append] at R11
      have R12 := Lib.hid R11
      refine hK.out _ _ (HS _ M11.out) (fun hHeldC => ?_)
      clear hK K hO2 hb1 hb2 hHeldB R11 O1 L9 M9 L10 M10 N10
      (try simp only [Act.put, List.setIfInBounds_toArray, List.set_cons_zero, List.set_cons_succ])
      generalize hkk : 0 + k + j = kk at *
      clear hkk
      have HV2 := HV w11 (HD.out.below L11.out) (HL.out.below L11.out) A2 kk c2 R12.out
      refine Reg.step 6 rfl (by kernel_rfl) (by rfl) (fun K hK => ?_)
      go_simp
      refine HV2.out.mono ?_
      rintro e' w12 ⟨rfl, hb⟩
      have L12 := Lib.hid (L11.out.trans (hb.mono L11.out.size))
      have M12 := Lib.hid (M11.out.trans (hb.mono M11.out.size))
      refine hK.out _ _ (HS _ M12.out) (fun hHeldD => ?_)
      clear hK K hb hHeldC HV2 L11 M11
      (try simp only [Act.put, List.setIfInBounds_toArray, List.set_cons_zero, List.set_cons_succ])
      (first | (refine Reg.take 7 (v := ?_) rfl (by kernel_rfl) (by kernel_rfl) (by kernel_rfl) (fun _ _ _ h => h) (Or.inl ⟨by rfl, ?_⟩) (by assumption) ?_; rotate_left; (focus ((intro W hSW); (try dsimp only at hSW); (try go_split_ands); go_simp; (try (with_reducible rfl)); done))) | (refine Reg.take 7 (v := undef) rfl (by kernel_rfl) (by kernel_rfl) (by kernel_rfl) (fun _ _ _ h => h) (Or.inr ⟨by rfl, rfl⟩) (by assumption) ?_))
      (try simp only [Act.put, List.setIfInBounds_toArray, List.set_cons_zero, List.set_cons_succ])
      (first | (refine Reg.take 8 (v := ?_) rfl (by kernel_rfl) (by kernel_rfl) (by kernel_rfl) (fun _ _ _ h => h) (Or.inl ⟨by rfl, ?_⟩) (by assumption) ?_; rotate_left; (focus ((intro W hSW); (try dsimp only at hSW); (try go_split_ands); go_simp; (try (with_reducible rfl)); done))) | (refine Reg.take 8 (v := undef) rfl (by kernel_rfl) (by kernel_rfl) (by kernel_rfl) (fun _ _ _ h => h) (Or.inr ⟨by rfl, rfl⟩) (by assumption) ?_))
      (try simp only [Act.put, List.setIfInBounds_toArray, List.set_cons_zero, List.set_cons_succ])
      (first | (refine Reg.take 9 (v := ?_) rfl (by kernel_rfl) (by kernel_rfl) (by kernel_rfl) (fun _ _ _ h => h) (Or.inl ⟨by rfl, ?_⟩) (by assumption) ?_; rotate_left; (focus ((intro W hSW); (try dsimp only at hSW); (try go_split_ands); go_simp; (try (with_reducible rfl)); done))) | (refine Reg.take 9 (v := undef) rfl (by kernel_rfl) (by kernel_rfl) (by kernel_rfl) (fun _ _ _ h => h) (Or.inr ⟨by rfl, rfl⟩) (by assumption) ?_))
      (try simp only [Act.put, List.setIfInBounds_toArray, List.set_cons_zero, List.set_cons_succ])
      (first | (refine Reg.take 10 (v := ?_) rfl (by kernel_rfl) (by kernel_rfl) (by kernel_rfl) (fun _ _ _ h => h) (Or.inl ⟨by rfl, ?_⟩) (by assumption) ?_; rotate_left; (focus ((intro W hSW); (try dsimp only at hSW); (try go_split_ands); go_simp; (try (with_reducible rfl)); done))) | (refine Reg.take 10 (v := undef) rfl (by kernel_rfl) (by kernel_rfl) (by kernel_rfl) (fun _ _ _ h => h) (Or.inr ⟨by rfl, rfl⟩) (by assumption) ?_))
      (try simp only [Act.put, List.setIfInBounds_toArray, List.set_cons_zero, List.set_cons_succ])
      (first | (refine Reg.take 11 (v := ?_) rfl (by kernel_rfl) (by kernel_rfl) (by kernel_rfl) (fun _ _ _ h => h) (Or.inl ⟨by rfl, ?_⟩) (by assumption) ?_; rotate_left; (focus ((intro W hSW); (try dsimp only at hSW); (try go_split_ands); go_simp; (try (with_reducible rfl)); done))) | (refine Reg.take 11 (v := undef) rfl (by kernel_rfl) (by kernel_rfl) (by kernel_rfl) (fun _ _ _ h => h) (Or.inr ⟨by rfl, rfl⟩) (by assumption) ?_))
      (try simp only [Act.put, List.setIfInBounds_toArray, List.set_cons_zero, List.set_cons_succ])
      refine wpAnyH_done (by kernel_rfl) ?_ _
      clear hHeldD
      go_wp2_with fail
      go_ret
      exact ⟨rfl, L12.out⟩
end Liv
end Go.Proofs.Ytnnphpfobdcmbaa
