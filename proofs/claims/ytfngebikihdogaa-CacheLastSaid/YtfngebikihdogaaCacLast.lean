/-
  THE STATEMENT CacheLast: its walk. (Written by gen_caclast.py.)
-/
import Derived.Test.YtfngebikihdogaaCacLastP
namespace Go.Proofs.Ytfngebikihdogaa
open Go.RowKit Mem Box GM
namespace Cac
set_option maxRecDepth 100000 in
set_option maxHeartbeats 51200000 in
theorem last_walk (most : Int) {A : Option Addr} {n c : Nat} {l : List Ov} {w : World} (hA : RowS cellsO 5 w A n c l) (hF : ∀ x ∈ l, fitO x) : Calls Try.prog 3 #[.int .i64 most, .slice A n c] w fun e w' => e = .returned (.bool true) ∧ Below w.heap.size w w' := by
  have HA := Lib.hid hA
  have HFF := Lib.hid hF
  obtain ⟨m, hm⟩ : ∃ m, max most 0 = m := ⟨_, rfl⟩
  have hmx := @run_max2
  have HN := fun w0 : World => Lib.hid (new_cb (base := w.heap.size) most w0)
  obtain ⟨base, hbase⟩ : ∃ b, b = w.heap.size := ⟨_, rfl⟩
  rw [← hbase] at HN ⊢
  have HBS := Lib.hid hbase
  have HLV := Lib.hid (live_any w)
  have HFW := fun W (h : RowS cellsO 5 W A n c l) => Lib.hid (few_any h)
  have hbig := hA.big
  clear hbase hA hF
  go_enter Try.func3, Try.ntmps3
  go_wp2_with fail
  refine HLV.out.mono ?_
  rintro e w1 ⟨rfl, hb⟩
  have L1 : Hid (Below base w w1) := by show Below _ _ _; rw [HBS.out]; exact hb
  have A1 := Lib.hid (HA.out.below hb)
  clear hb HLV
  go_wp2_with fail
  refine (HFW w1 A1.out).out.mono ?_
  rintro e w2 ⟨⟨b, rfl, hbt⟩, hb⟩
  have L2 : Hid (Below base w w2) := L1.out.trans (hb.mono (by have := L1.out.size; have := HBS.out; omega))
  clear hb HFW A1
  cases b
  · go_wp2_with fail
    go_ret
    exact ⟨rfl, L2.out⟩
  · obtain ⟨hn200, hlb⟩ := hbt rfl
    have HLB := Lib.hid hlb
    clear hbt hlb
    go_wp2_with fail
    refine ((HN w2).out (by have := L2.out.size; have := HBS.out; omega)).mono ?_
    rintro e w3 ⟨rfl, hC, hB⟩
    rw [hm] at hC
    have L3 := Lib.hid (L2.out.trans (hB.mono (show base ≤ w2.heap.size by have := L2.out.size; have := HBS.out; omega)))
    obtain ⟨g, hg⟩ : ∃ g, g = w2.heap.size + 1 := ⟨_, rfl⟩
    obtain ⟨r, hr⟩ : ∃ r, r = w2.heap.size := ⟨_, rfl⟩
    rw [← hg, ← hr] at hC
    rw [← hg]
    have C3 := Lib.hid hC
    have hrl : r < w3.heap.size := hC.at_.map.lt
    obtain ⟨q, hq⟩ : ∃ q, q = w3.heap.size := ⟨_, rfl⟩
    have hmm := @run_makeMap Try.prog
    have M4 : Hid (LastAt (w3.alloc (.map #[] 0)) q []) := by show LastAt _ _ _; rw [hq]; exact FMap.made mkP okP btS w3
    have A4 : Hid (Below w3.heap.size w3 (w3.alloc (.map #[] 0))) := (Below.refl _ _).alloc (Nat.le_refl _) _
    have S4 : Hid (St base w (w3.alloc (.map #[] 0)) g r q m 0 [] 0 0 []) := ⟨L3.out.trans (A4.out.mono C3.out.base), C3.out.below A4.out, M4.out, by omega, by have := C3.out.base; omega, ⟨fun x hx => (by cases hx), fun x hx => (by cases hx)⟩, by simp⟩
    clear hC hB HN hg hr hrl
    go_upto_region 6 with fail
    rw [← hq]
    clear hmm hq
    generalize w3.alloc (.map #[] 0) = w4 at *
    have HT0 := fun (n : Int) w => Lib.hid (text_any n w)
    go_wp2_with fail
    go_loopw [9, 28] (fun _ i wr => ∃ (t : Nat) (ns : List Nd) (h s : Int) (ks : Ks), i = .int .i64 t ∧ t ≤ n ∧ Hid (St base w wr g r q m t ns h s ks)) (fun _ i _ => n - (intOf i).toNat)
    case atStart => exact ⟨0, [], 0, 0, [], rfl, by omega, S4.out⟩
    case round =>
      obtain ⟨t, ns, h, s, ks, rfl, ht, SR0⟩ := hrel
      obtain ⟨wo, hwo⟩ : ∃ W, W = wr := ⟨_, rfl⟩
      subst hwo
      by_cases hlt : t < n
      · obtain ⟨o, ho⟩ := HA.out.get hlt
        obtain ⟨b, p, hA, d0, d1, d2, d3, d4⟩ := op_at (HA.out.below (by rw [← HBS.out]; exact SR0.out.below)) ho
        subst hA
        have HFT := Lib.hid (HFF.out o (List.mem_of_getElem? ho))
        have HDL := Lib.hid (HLB.out o (List.mem_of_getElem? ho))
        have hk0 : (0 : Int) ≤ (t : Int) := by omega
        have hkn : (t : Int) < (n : Int) := by omega
        have A5 : Hid (Below wo.heap.size wo (wo.alloc (.cells #[.int .i64 o.d, .int .i64 o.lba, .int .i64 o.ver, .int .i64 o.n, .bool o.long] 29))) := (Below.refl _ _).alloc (Nat.le_refl _) _
        have O5 : Hid (OpBox (wo.alloc (.cells #[.int .i64 o.d, .int .i64 o.lba, .int .i64 o.ver, .int .i64 o.n, .bool o.long] 29)) wo.heap.size o) := Cells.new _ _ _
        have S5 := Lib.hid (SR0.out.fresh A5.out)
        go_upto_region 9 with fail
        clear d0 d1 d2 d3 d4 ho
        generalize wo.alloc (.cells #[.int .i64 o.d, .int .i64 o.lba, .int .i64 o.ver, .int .i64 o.n, .bool o.long] 29) = w5 at *
        obtain ⟨ob, hob⟩ : ∃ ob, ob = wo.heap.size := ⟨_, rfl⟩
        rw [← hob] at O5 ⊢
        have B5 := Lib.hid O5.out
        clear hob O5
        obtain ⟨n0, n1, n2, n3, n4⟩ := OpBox.cells B5.out
        have HT := HT0
        rcases e0 : (o.d == 0)
        · rcases e1 : (o.d == 1)
          · rcases e2 : (o.d == 2)
            · have S9 := Lib.hid S5.out.later
              clear HT
              have HKF := Lib.hid (keys_any S9.out.cb.at_ (by have := S9.out.cnt; omega))
              obtain ⟨nf, hnf⟩ : ∃ n, n = (ns).length := ⟨_, rfl⟩
              rw [← hnf] at HKF
              have hcmp : decide (m < (nf : Int)) = false := decide_eq_false (by have := S9.out.cb.room; omega)
              have HNF : Hid (nf ≤ 1000) := by have := S9.out.cnt; show _ ≤ _; omega
              clear hnf
              go_wp2_with fail
              refine HKF.out.mono ?_
              rintro e wf ⟨⟨XF, cf, rfl, hXF⟩, hBF⟩
              have SF := Lib.hid (S9.out.fresh hBF)
              clear hXF hBF HKF
              go_wp2_with fail
              go_roundw
              case rel => exact ⟨t + 1, _, _, _, _, by go_num, by omega, SF.out⟩
              case measure => simp [intOf]; omega
            · have hla : 0 ≤ o.lba := HDL.out (by simpa using e2)
              have HD := Lib.hid (drop_cb S5.out.cb (by have := S5.out.cnt; omega) (fun y hy => by
                have h1 := S5.out.good.fit y.2 (List.mem_map.2 ⟨y, hy, rfl⟩)
                exact ⟨h1.1, h1.2.1.le.2⟩) hla HFT.out.1.le.2 (n := o.n) HFT.out.2.2.le.2)
              go_wp2_with fail
              refine HD.out.mono ?_
              rintro e w6 ⟨rfl, hC, hV⟩
              have S6 : Hid (St base w w6 g r q m (t + 1) (dropN ns o.lba o.n) h s ks) := S5.out.call hC hV (S5.out.good.sub fun x hx => by
                obtain ⟨y, hy, rfl⟩ := List.mem_map.1 hx
                exact List.mem_map.2 ⟨y, (dropN_sub _ _ _).subset hy, rfl⟩) (by have := (dropN_sub ns o.lba o.n).length_le; have := S5.out.cnt; omega) (by have := S5.out.cnt; omega) (by have := S5.out.cnt; omega)
              have B6 := Lib.hid (S5.out.box hV B5.out)
              have HHIT : Hid (∀ x ∈ keysL (dropN ns o.lba o.n), 0 ≤ x.1 ∧ x.1 ≤ 9223372036854775807 ∧ (o.lba ≤ x.1 → ¬ x.1 - o.lba < o.n)) := fun x hx => by
                obtain ⟨y, hy, rfl⟩ := List.mem_map.1 hx
                obtain ⟨hy1, hy2⟩ := List.mem_filter.1 hy
                have h1 := S5.out.good.fit y.2 (List.mem_map.2 ⟨y, hy1, rfl⟩)
                have h2 := h1.2.1.le
                refine ⟨h1.1, h2.2, fun h3 h4 => ?_⟩
                have h3 : o.lba ≤ y.2.lba := h3
                have h4 : y.2.lba - o.lba < o.n := h4
                unfold hit at hy2
                rw [decide_eq_true h3, decide_eq_true h4] at hy2
                cases hy2
              clear hC hV HD n0 n1 n2 n3 n4
              have HK := Lib.hid (keys_any S6.out.cb.at_ (by have := S6.out.cnt; omega))
              obtain ⟨kk, hkk⟩ : ∃ k, k = (dropN ns o.lba o.n).length := ⟨_, rfl⟩
              rw [← hkk] at HK
              have hkb : kk ≤ 1000 := by have := S6.out.cnt; omega
              clear hkk
              go_wp2_with fail
              refine HK.out.mono ?_
              rintro e w7 ⟨⟨X, cX, rfl, hX⟩, hB⟩
              have S7 := Lib.hid (S6.out.fresh hB)
              have B7 := Lib.hid (Cells.below B6.out hB)
              have X7 := Lib.hid hX
              clear hX hB HK
              go_wp2_with fail
              go_loopw [17, 127] (fun _ i wx => ∃ j : Nat, i = .int .i64 j ∧ j ≤ kk ∧ Hid (Below w7.heap.size w7 wx)) (fun _ i _ => kk - (intOf i).toNat)
              case atStart => exact ⟨0, rfl, by omega, Below.refl _ _⟩
              case round =>
                obtain ⟨j, rfl, hj, hH⟩ := hrel
                obtain ⟨wx, hwx⟩ : ∃ W, W = wr := ⟨_, rfl⟩
                subst hwx
                by_cases hlj : j < kk
                · obtain ⟨x, hx⟩ := X7.out.get hlj
                  have HX := Lib.hid (HHIT.out x (List.mem_of_getElem? hx))
                  obtain ⟨b2, p2, hA2, d0, d1⟩ := key_at (X7.out.below hH.out) hx
                  subst hA2
                  have hj0 : (0 : Int) ≤ (j : Int) := by omega
                  have hjn : (j : Int) < (kk : Int) := by omega
                  have A8 : Hid (Below w7.heap.size w7 (wx.alloc (.cells #[.int .i64 x.1, .int .i64 x.2] 34))) := hH.out.alloc hH.out.size _
                  have X8 : Hid (KeyBox (wx.alloc (.cells #[.int .i64 x.1, .int .i64 x.2] 34)) wx.heap.size x) := Cells.new _ _ _
                  have B8 := Lib.hid (Cells.below B7.out A8.out)
                  go_upto_region 29 with fail
                  clear d0 d1 hx
                  generalize wx.alloc (.cells #[.int .i64 x.1, .int .i64 x.2] 34) = w8 at *
                  obtain ⟨n0, n1, n2, n3, n4⟩ := OpBox.cells B8.out
                  obtain ⟨x0, x1⟩ := KeyBox.cells X8.out
                  rcases e5 : decide (o.lba ≤ x.1)
                  · go_wp2_with fail
                    go_roundw
                    case rel => exact ⟨j + 1, by go_num, by omega, A8.out⟩
                    case measure => simp [intOf]; omega
                  · have hw5 : IntKind.i64.wrap (x.1 - o.lba) = x.1 - o.lba := by have := HX.out; have := of_decide_eq_true e5; rw [IntKind.wrap_i64]; omega
                    have e6 : decide (x.1 - o.lba < o.n) = false := decide_eq_false (by have := HX.out.2.2 (of_decide_eq_true e5); omega)
                    go_wp2_with fail
                    go_roundw
                    case rel => exact ⟨j + 1, by go_num, by omega, A8.out⟩
                    case measure => simp [intOf]; omega
                · obtain rfl : j = kk := by omega
                  have SX := Lib.hid (S7.out.fresh hH.out)
                  clear HT
                  have HKF := Lib.hid (keys_any SX.out.cb.at_ (by have := SX.out.cnt; omega))
                  obtain ⟨nf, hnf⟩ : ∃ n, n = (dropN ns o.lba o.n).length := ⟨_, rfl⟩
                  rw [← hnf] at HKF
                  have hcmp : decide (m < (nf : Int)) = false := decide_eq_false (by have := SX.out.cb.room; omega)
                  have HNF : Hid (nf ≤ 1000) := by have := SX.out.cnt; show _ ≤ _; omega
                  clear hnf
                  go_wp2_with fail
                  refine HKF.out.mono ?_
                  rintro e wf ⟨⟨XF, cf, rfl, hXF⟩, hBF⟩
                  have SF := Lib.hid (SX.out.fresh hBF)
                  clear hXF hBF HKF
                  go_wp2_with fail
                  go_roundw
                  case rel => exact ⟨t + 1, _, _, _, _, by go_num, by omega, SF.out⟩
                  case measure => simp [intOf]; omega
          · rcases ey : who ns o.lba with _ | y
            · have HNO : Hid (∀ y, who ns o.lba = some y → y.2.ver ≠ o.ver) := fun y hy => by rw [ey] at hy; cases hy
              clear ey
              have HG := Lib.hid (get_miss S5.out.cb (n := o.lba) (v := o.ver) HNO.out (by have := S5.out.cnt; omega) (by have := S5.out.cnt; omega))
              go_wp2_with fail
              refine HG.out.mono ?_
              rintro e w6 ⟨rfl, hC, hV⟩
              have S6 : Hid (St base w w6 g r q m (t + 1) ns h (s + 1) ks) := S5.out.call hC hV S5.out.good (by have := S5.out.cnt; omega) (by have := S5.out.cnt; omega) (by have := S5.out.cnt; omega)
              have B6 := Lib.hid (S5.out.box hV B5.out)
              clear hC hV HG n0 n1 n2 n3 n4
              obtain ⟨n0, n1, n2, n3, n4⟩ := OpBox.cells B6.out
              obtain ⟨z, hlook, -⟩ := last_get S6.out.last (k := (o.lba, o.ver)) ⟨HFT.out.1, HFT.out.2.1⟩
              have hlook2 : (Instr.lookup 27 (.map (some q)) (.agg #[.int .i64 o.lba, .int .i64 o.ver]) true).run Try.prog w6 = .ok (.tuple #[z, .bool (getB ks (o.lba, o.ver)).isSome]) w6 := hlook
              clear hlook
              clear HT
              have HKF := Lib.hid (keys_any S6.out.cb.at_ (by have := S6.out.cnt; omega))
              obtain ⟨nf, hnf⟩ : ∃ n, n = (ns).length := ⟨_, rfl⟩
              rw [← hnf] at HKF
              have hcmp : decide (m < (nf : Int)) = false := decide_eq_false (by have := S6.out.cb.room; omega)
              have HNF : Hid (nf ≤ 1000) := by have := S6.out.cnt; show _ ≤ _; omega
              clear hnf
              go_wp2_with fail
              refine HKF.out.mono ?_
              rintro e wf ⟨⟨XF, cf, rfl, hXF⟩, hBF⟩
              have SF := Lib.hid (S6.out.fresh hBF)
              clear hXF hBF HKF
              go_wp2_with fail
              go_roundw
              case rel => exact ⟨t + 1, _, _, _, _, by go_num, by omega, SF.out⟩
              case measure => simp [intOf]; omega
            · by_cases hvv : y.2.ver = o.ver
              · have HY := Lib.hid ey
                have HVV := Lib.hid hvv
                clear ey hvv
                have HG := Lib.hid (get_hit S5.out.cb HY.out (v := o.ver) HVV.out (by have := S5.out.cnt; omega) (by have := S5.out.cnt; omega))
                go_wp2_with fail
                refine HG.out.mono ?_
                rintro e w6 ⟨⟨B, cB, rfl, hO⟩, ⟨ns2, hk2, hC⟩, hV⟩
                have HYM : Hid (y.2 ∈ kvs ns) := List.mem_map.2 ⟨y, (who_some HY.out).1, rfl⟩
                have S6 : Hid (St base w w6 g r q m (t + 1) ns2 (h + 1) s ks) := S5.out.call hC hV (S5.out.good.sub fun x hx => by
                  rw [hk2] at hx
                  rcases List.mem_cons.1 hx with rfl | hx
                  · exact HYM.out
                  · exact (List.mem_filter.1 hx).1) (by
                    have h1 := congrArg List.length hk2
                    have h2 : (outK (kvs ns) o.lba).length ≤ (kvs ns).length := List.length_filter_le _ _
                    rw [List.length_cons, List.length_map] at h1
                    rw [List.length_map] at h2
                    have := S5.out.cnt
                    omega) (by have := S5.out.cnt; omega) (by have := S5.out.cnt; omega)
                have B6 := Lib.hid (S5.out.box hV B5.out)
                have hcv := reads_own hO
                unfold Reads at hcv
                clear hC hV HG hk2 hO n0 n1 n2 n3 n4
                obtain ⟨n0, n1, n2, n3, n4⟩ := OpBox.cells B6.out
                obtain ⟨z, hlook, hz⟩ := last_get S6.out.last (k := (o.lba, o.ver)) ⟨HFT.out.1, HFT.out.2.1⟩
                have hgb : getB ks (o.lba, o.ver) = some y.2.txt := by
                  have h1 := S5.out.good.has y.2 HYM.out
                  rw [(who_some HY.out).2, HVV.out] at h1
                  exact h1
                have hlook2 : (Instr.lookup 27 (.map (some q)) (.agg #[.int .i64 o.lba, .int .i64 o.ver]) true).run Try.prog w6 = .ok (.tuple #[z, .bool (getB ks (o.lba, o.ver)).isSome]) w6 := hlook
                rw [hz _ hgb, hgb] at hlook2
                clear hlook hz hgb
                clear HT
                have HKF := Lib.hid (keys_any S6.out.cb.at_ (by have := S6.out.cnt; omega))
                obtain ⟨nf, hnf⟩ : ∃ n, n = (ns2).length := ⟨_, rfl⟩
                rw [← hnf] at HKF
                have hcmp : decide (m < (nf : Int)) = false := decide_eq_false (by have := S6.out.cb.room; omega)
                have HNF : Hid (nf ≤ 1000) := by have := S6.out.cnt; show _ ≤ _; omega
                clear hnf
                go_wp2_with fail
                refine HKF.out.mono ?_
                rintro e wf ⟨⟨XF, cf, rfl, hXF⟩, hBF⟩
                have SF := Lib.hid (S6.out.fresh hBF)
                clear hXF hBF HKF
                go_wp2_with fail
                go_roundw
                case rel => exact ⟨t + 1, _, _, _, _, by go_num, by omega, SF.out⟩
                case measure => simp [intOf]; omega
              · have HNO : Hid (∀ y, who ns o.lba = some y → y.2.ver ≠ o.ver) := fun y' hy => by
                  rw [ey] at hy
                  injection hy with hy
                  rw [← hy]
                  exact hvv
                clear ey hvv
                have HG := Lib.hid (get_miss S5.out.cb (n := o.lba) (v := o.ver) HNO.out (by have := S5.out.cnt; omega) (by have := S5.out.cnt; omega))
                go_wp2_with fail
                refine HG.out.mono ?_
                rintro e w6 ⟨rfl, hC, hV⟩
                have S6 : Hid (St base w w6 g r q m (t + 1) ns h (s + 1) ks) := S5.out.call hC hV S5.out.good (by have := S5.out.cnt; omega) (by have := S5.out.cnt; omega) (by have := S5.out.cnt; omega)
                have B6 := Lib.hid (S5.out.box hV B5.out)
                clear hC hV HG n0 n1 n2 n3 n4
                obtain ⟨n0, n1, n2, n3, n4⟩ := OpBox.cells B6.out
                obtain ⟨z, hlook, -⟩ := last_get S6.out.last (k := (o.lba, o.ver)) ⟨HFT.out.1, HFT.out.2.1⟩
                have hlook2 : (Instr.lookup 27 (.map (some q)) (.agg #[.int .i64 o.lba, .int .i64 o.ver]) true).run Try.prog w6 = .ok (.tuple #[z, .bool (getB ks (o.lba, o.ver)).isSome]) w6 := hlook
                clear hlook
                clear HT
                have HKF := Lib.hid (keys_any S6.out.cb.at_ (by have := S6.out.cnt; omega))
                obtain ⟨nf, hnf⟩ : ∃ n, n = (ns).length := ⟨_, rfl⟩
                rw [← hnf] at HKF
                have hcmp : decide (m < (nf : Int)) = false := decide_eq_false (by have := S6.out.cb.room; omega)
                have HNF : Hid (nf ≤ 1000) := by have := S6.out.cnt; show _ ≤ _; omega
                clear hnf
                go_wp2_with fail
                refine HKF.out.mono ?_
                rintro e wf ⟨⟨XF, cf, rfl, hXF⟩, hBF⟩
                have SF := Lib.hid (S6.out.fresh hBF)
                clear hXF hBF HKF
                go_wp2_with fail
                go_roundw
                case rel => exact ⟨t + 1, _, _, _, _, by go_num, by omega, SF.out⟩
                case measure => simp [intOf]; omega
        · by_cases hbad : o.lba < 0 ∨ o.ver < 0
          · have HBAD := Lib.hid hbad
            clear hbad
            go_upto_region 11 with fail
            clear n0 n1 n2 n3 n4
            have S6 := Lib.hid (S5.out.fresh ((Below.refl w5.heap.size w5).drew))
            have B6 : Hid (OpBox w5.drew ob o) := B5.out
            refine wp_region_held_drew (S := fun W => W.cell? ⟨ob, 1, none⟩ = some (.int .i64 o.lba) ∧ W.cell? ⟨ob, 2, none⟩ = some (.int .i64 o.ver) ∧ W.cell? ⟨ob, 3, none⟩ = some (.int .i64 o.n)) (by kernel_rfl) ⟨(OpBox.cells B6.out).2.1, (OpBox.cells B6.out).2.2.1, (OpBox.cells B6.out).2.2.2.1⟩ (fun hHeld => ?_)
            generalize w5.drew = w6 at *
            (first | (refine Reg.take 0 (v := ?_) rfl (by kernel_rfl) (by kernel_rfl) (by kernel_rfl) (fun _ _ _ h => h) (Or.inl ⟨by rfl, ?_⟩) (by assumption) ?_; rotate_left; (focus ((intro W hSW); (try dsimp only at hSW); (try go_split_ands); go_simp; (try (with_reducible rfl)); done))) | (refine Reg.take 0 (v := undef) rfl (by kernel_rfl) (by kernel_rfl) (by kernel_rfl) (fun _ _ _ h => h) (Or.inr ⟨by rfl, rfl⟩) (by assumption) ?_))
            (try simp only [Act.put, List.setIfInBounds_toArray, List.set_cons_zero, List.set_cons_succ])
            (first | (refine Reg.take 1 (v := ?_) rfl (by kernel_rfl) (by kernel_rfl) (by kernel_rfl) (fun _ _ _ h => h) (Or.inl ⟨by rfl, ?_⟩) (by assumption) ?_; rotate_left; (focus ((intro W hSW); (try dsimp only at hSW); (try go_split_ands); go_simp; (try (with_reducible rfl)); done))) | (refine Reg.take 1 (v := undef) rfl (by kernel_rfl) (by kernel_rfl) (by kernel_rfl) (fun _ _ _ h => h) (Or.inr ⟨by rfl, rfl⟩) (by assumption) ?_))
            (try simp only [Act.put, List.setIfInBounds_toArray, List.set_cons_zero, List.set_cons_succ])
            (first | (refine Reg.take 2 (v := ?_) rfl (by kernel_rfl) (by kernel_rfl) (by kernel_rfl) (fun _ _ _ h => h) (Or.inl ⟨by rfl, ?_⟩) (by assumption) ?_; rotate_left; (focus ((intro W hSW); (try dsimp only at hSW); (try go_split_ands); go_simp; (try (with_reducible rfl)); done))) | (refine Reg.take 2 (v := undef) rfl (by kernel_rfl) (by kernel_rfl) (by kernel_rfl) (fun _ _ _ h => h) (Or.inr ⟨by rfl, rfl⟩) (by assumption) ?_))
            (try simp only [Act.put, List.setIfInBounds_toArray, List.set_cons_zero, List.set_cons_succ])
            (first | (refine Reg.take 3 (v := ?_) rfl (by kernel_rfl) (by kernel_rfl) (by kernel_rfl) (fun _ _ _ h => h) (Or.inl ⟨by rfl, ?_⟩) (by assumption) ?_; rotate_left; (focus ((intro W hSW); (try dsimp only at hSW); (try go_split_ands); go_simp; (try (with_reducible rfl)); done))) | (refine Reg.take 3 (v := undef) rfl (by kernel_rfl) (by kernel_rfl) (by kernel_rfl) (fun _ _ _ h => h) (Or.inr ⟨by rfl, rfl⟩) (by assumption) ?_))
            (try simp only [Act.put, List.setIfInBounds_toArray, List.set_cons_zero, List.set_cons_succ])
            (first | (refine Reg.take 4 (v := ?_) rfl (by kernel_rfl) (by kernel_rfl) (by kernel_rfl) (fun _ _ _ h => h) (Or.inl ⟨by rfl, ?_⟩) (by assumption) ?_; rotate_left; (focus ((intro W hSW); (try dsimp only at hSW); (try go_split_ands); go_simp; (try (with_reducible rfl)); done))) | (refine Reg.take 4 (v := undef) rfl (by kernel_rfl) (by kernel_rfl) (by kernel_rfl) (fun _ _ _ h => h) (Or.inr ⟨by rfl, rfl⟩) (by assumption) ?_))
            (try simp only [Act.put, List.setIfInBounds_toArray, List.set_cons_zero, List.set_cons_succ])
            (first | (refine Reg.take 5 (v := ?_) rfl (by kernel_rfl) (by kernel_rfl) (by kernel_rfl) (fun _ _ _ h => h) (Or.inl ⟨by rfl, ?_⟩) (by assumption) ?_; rotate_left; (focus ((intro W hSW); (try dsimp only at hSW); (try go_split_ands); go_simp; (try (with_reducible rfl)); done))) | (refine Reg.take 5 (v := undef) rfl (by kernel_rfl) (by kernel_rfl) (by kernel_rfl) (fun _ _ _ h => h) (Or.inr ⟨by rfl, rfl⟩) (by assumption) ?_))
            (try simp only [Act.put, List.setIfInBounds_toArray, List.set_cons_zero, List.set_cons_succ])
            (first | (refine Reg.take 6 (v := ?_) rfl (by kernel_rfl) (by kernel_rfl) (by kernel_rfl) (fun _ _ _ h => h) (Or.inl ⟨by rfl, ?_⟩) (by assumption) ?_; rotate_left; (focus ((intro W hSW); (try dsimp only at hSW); (try go_split_ands); go_simp; (try (with_reducible rfl)); done))) | (refine Reg.take 6 (v := undef) rfl (by kernel_rfl) (by kernel_rfl) (by kernel_rfl) (fun _ _ _ h => h) (Or.inr ⟨by rfl, rfl⟩) (by assumption) ?_))
            (try simp only [Act.put, List.setIfInBounds_toArray, List.set_cons_zero, List.set_cons_succ])
            refine Reg.step 7 rfl (by kernel_rfl) (by rfl) (fun K hK => ?_)
            go_simp
            refine (HT _ w6).out.mono ?_
            rintro e w7 ⟨A7, rfl, hT, hB⟩
            have S7 := Lib.hid (S6.out.fresh hB)
            have B7 := Lib.hid (Cells.below B6.out hB)
            have T7 := Lib.hid hT
            clear hT hB
            refine hK.out _ _ ⟨(OpBox.cells B7.out).2.1, (OpBox.cells B7.out).2.2.1, (OpBox.cells B7.out).2.2.2.1⟩ (fun hHeldB => ?_)
            clear hK K
            (try simp only [Act.put, List.setIfInBounds_toArray, List.set_cons_zero, List.set_cons_succ])
            refine Reg.step 8 rfl (by kernel_rfl) (by rfl) (fun K hK => ?_)
            go_simp
            refine (put_bad (g := g) (A := A7) (w := w7) HBAD.out).mono ?_
            rintro e w8 ⟨rfl, hw8⟩
            obtain rfl := hw8.symm
            have S8 := Lib.hid S7.out.later
            have B8 := Lib.hid B7.out
            refine hK.out _ _ ⟨(OpBox.cells B8.out).2.1, (OpBox.cells B8.out).2.2.1, (OpBox.cells B8.out).2.2.2.1⟩ (fun hHeldC => ?_)
            clear hK K
            (try simp only [Act.put, List.setIfInBounds_toArray, List.set_cons_zero, List.set_cons_succ])
            (first | (refine Reg.take 9 (v := ?_) rfl (by kernel_rfl) (by kernel_rfl) (by kernel_rfl) (fun _ _ _ h => h) (Or.inl ⟨by rfl, ?_⟩) (by assumption) ?_; rotate_left; (focus ((intro W hSW); (try dsimp only at hSW); (try go_split_ands); go_simp; (try (with_reducible rfl)); done))) | (refine Reg.take 9 (v := undef) rfl (by kernel_rfl) (by kernel_rfl) (by kernel_rfl) (fun _ _ _ h => h) (Or.inr ⟨by rfl, rfl⟩) (by assumption) ?_))
            (try simp only [Act.put, List.setIfInBounds_toArray, List.set_cons_zero, List.set_cons_succ])
            refine wpAnyH_done (by kernel_rfl) ?_ _
            clear hHeld hHeldB hHeldC
            clear HT
            have HKF := Lib.hid (keys_any S8.out.cb.at_ (by have := S8.out.cnt; omega))
            obtain ⟨nf, hnf⟩ : ∃ n, n = (ns).length := ⟨_, rfl⟩
            rw [← hnf] at HKF
            have hcmp : decide (m < (nf : Int)) = false := decide_eq_false (by have := S8.out.cb.room; omega)
            have HNF : Hid (nf ≤ 1000) := by have := S8.out.cnt; show _ ≤ _; omega
            clear hnf
            go_wp2_with fail
            refine HKF.out.mono ?_
            rintro e wf ⟨⟨XF, cf, rfl, hXF⟩, hBF⟩
            have SF := Lib.hid (S8.out.fresh hBF)
            clear hXF hBF HKF
            go_wp2_with fail
            go_roundw
            case rel => exact ⟨t + 1, _, _, _, _, by go_num, by omega, SF.out⟩
            case measure => simp [intOf]; omega
          · have hg0 : 0 ≤ o.lba := by omega
            have hv0 : 0 ≤ o.ver := by omega
            have HG0 := Lib.hid hg0
            have HV0 := Lib.hid hv0
            clear hbad hg0 hv0
            by_cases hold : ∃ y, who ns o.lba = some y ∧ o.ver < y.2.ver
            · obtain ⟨y, hy, hgt⟩ := hold
              have HY := Lib.hid hy
              have HGT := Lib.hid hgt
              have HMN : Hid (m ≠ 0) := fun h0 => by
                have h1 := S5.out.cb.room
                rw [h0] at h1
                have h2 : ns = [] := List.eq_nil_of_length_eq_zero (by omega)
                rw [h2] at hy
                cases hy
              clear hy hgt
              go_upto_region 11 with fail
              clear n0 n1 n2 n3 n4
              have S6 := Lib.hid (S5.out.fresh ((Below.refl w5.heap.size w5).drew))
              have B6 : Hid (OpBox w5.drew ob o) := B5.out
              refine wp_region_held_drew (S := fun W => W.cell? ⟨ob, 1, none⟩ = some (.int .i64 o.lba) ∧ W.cell? ⟨ob, 2, none⟩ = some (.int .i64 o.ver) ∧ W.cell? ⟨ob, 3, none⟩ = some (.int .i64 o.n)) (by kernel_rfl) ⟨(OpBox.cells B6.out).2.1, (OpBox.cells B6.out).2.2.1, (OpBox.cells B6.out).2.2.2.1⟩ (fun hHeld => ?_)
              generalize w5.drew = w6 at *
              (first | (refine Reg.take 0 (v := ?_) rfl (by kernel_rfl) (by kernel_rfl) (by kernel_rfl) (fun _ _ _ h => h) (Or.inl ⟨by rfl, ?_⟩) (by assumption) ?_; rotate_left; (focus ((intro W hSW); (try dsimp only at hSW); (try go_split_ands); go_simp; (try (with_reducible rfl)); done))) | (refine Reg.take 0 (v := undef) rfl (by kernel_rfl) (by kernel_rfl) (by kernel_rfl) (fun _ _ _ h => h) (Or.inr ⟨by rfl, rfl⟩) (by assumption) ?_))
              (try simp only [Act.put, List.setIfInBounds_toArray, List.set_cons_zero, List.set_cons_succ])
              (first | (refine Reg.take 1 (v := ?_) rfl (by kernel_rfl) (by kernel_rfl) (by kernel_rfl) (fun _ _ _ h => h) (Or.inl ⟨by rfl, ?_⟩) (by assumption) ?_; rotate_left; (focus ((intro W hSW); (try dsimp only at hSW); (try go_split_ands); go_simp; (try (with_reducible rfl)); done))) | (refine Reg.take 1 (v := undef) rfl (by kernel_rfl) (by kernel_rfl) (by kernel_rfl) (fun _ _ _ h => h) (Or.inr ⟨by rfl, rfl⟩) (by assumption) ?_))
              (try simp only [Act.put, List.setIfInBounds_toArray, List.set_cons_zero, List.set_cons_succ])
              (first | (refine Reg.take 2 (v := ?_) rfl (by kernel_rfl) (by kernel_rfl) (by kernel_rfl) (fun _ _ _ h => h) (Or.inl ⟨by rfl, ?_⟩) (by assumption) ?_; rotate_left; (focus ((intro W hSW); (try dsimp only at hSW); (try go_split_ands); go_simp; (try (with_reducible rfl)); done))) | (refine Reg.take 2 (v := undef) rfl (by kernel_rfl) (by kernel_rfl) (by kernel_rfl) (fun _ _ _ h => h) (Or.inr ⟨by rfl, rfl⟩) (by assumption) ?_))
              (try simp only [Act.put, List.setIfInBounds_toArray, List.set_cons_zero, List.set_cons_succ])
              (first | (refine Reg.take 3 (v := ?_) rfl (by kernel_rfl) (by kernel_rfl) (by kernel_rfl) (fun _ _ _ h => h) (Or.inl ⟨by rfl, ?_⟩) (by assumption) ?_; rotate_left; (focus ((intro W hSW); (try dsimp only at hSW); (try go_split_ands); go_simp; (try (with_reducible rfl)); done))) | (refine Reg.take 3 (v := undef) rfl (by kernel_rfl) (by kernel_rfl) (by kernel_rfl) (fun _ _ _ h => h) (Or.inr ⟨by rfl, rfl⟩) (by assumption) ?_))
              (try simp only [Act.put, List.setIfInBounds_toArray, List.set_cons_zero, List.set_cons_succ])
              (first | (refine Reg.take 4 (v := ?_) rfl (by kernel_rfl) (by kernel_rfl) (by kernel_rfl) (fun _ _ _ h => h) (Or.inl ⟨by rfl, ?_⟩) (by assumption) ?_; rotate_left; (focus ((intro W hSW); (try dsimp only at hSW); (try go_split_ands); go_simp; (try (with_reducible rfl)); done))) | (refine Reg.take 4 (v := undef) rfl (by kernel_rfl) (by kernel_rfl) (by kernel_rfl) (fun _ _ _ h => h) (Or.inr ⟨by rfl, rfl⟩) (by assumption) ?_))
              (try simp only [Act.put, List.setIfInBounds_toArray, List.set_cons_zero, List.set_cons_succ])
              (first | (refine Reg.take 5 (v := ?_) rfl (by kernel_rfl) (by kernel_rfl) (by kernel_rfl) (fun _ _ _ h => h) (Or.inl ⟨by rfl, ?_⟩) (by assumption) ?_; rotate_left; (focus ((intro W hSW); (try dsimp only at hSW); (try go_split_ands); go_simp; (try (with_reducible rfl)); done))) | (refine Reg.take 5 (v := undef) rfl (by kernel_rfl) (by kernel_rfl) (by kernel_rfl) (fun _ _ _ h => h) (Or.inr ⟨by rfl, rfl⟩) (by assumption) ?_))
              (try simp only [Act.put, List.setIfInBounds_toArray, List.set_cons_zero, List.set_cons_succ])
              (first | (refine Reg.take 6 (v := ?_) rfl (by kernel_rfl) (by kernel_rfl) (by kernel_rfl) (fun _ _ _ h => h) (Or.inl ⟨by rfl, ?_⟩) (by assumption) ?_; rotate_left; (focus ((intro W hSW); (try dsimp only at hSW); (try go_split_ands); go_simp; (try (with_reducible rfl)); done))) | (refine Reg.take 6 (v := undef) rfl (by kernel_rfl) (by kernel_rfl) (by kernel_rfl) (fun _ _ _ h => h) (Or.inr ⟨by rfl, rfl⟩) (by assumption) ?_))
              (try simp only [Act.put, List.setIfInBounds_toArray, List.set_cons_zero, List.set_cons_succ])
              refine Reg.step 7 rfl (by kernel_rfl) (by rfl) (fun K hK => ?_)
              go_simp
              refine (HT _ w6).out.mono ?_
              rintro e w7 ⟨A7, rfl, hT, hB⟩
              have S7 := Lib.hid (S6.out.fresh hB)
              have B7 := Lib.hid (Cells.below B6.out hB)
              have T7 := Lib.hid hT
              clear hT hB
              refine hK.out _ _ ⟨(OpBox.cells B7.out).2.1, (OpBox.cells B7.out).2.2.1, (OpBox.cells B7.out).2.2.2.1⟩ (fun hHeldB => ?_)
              clear hK K
              (try simp only [Act.put, List.setIfInBounds_toArray, List.set_cons_zero, List.set_cons_succ])
              refine Reg.step 8 rfl (by kernel_rfl) (by rfl) (fun K hK => ?_)
              go_simp
              refine (put_old (A := A7) S7.out.cb.at_ HMN.out HG0.out HV0.out HY.out HGT.out).mono ?_
              rintro e w8 ⟨rfl, hw8⟩
              obtain rfl := hw8.symm
              have S8 := Lib.hid S7.out.later
              have B8 := Lib.hid B7.out
              refine hK.out _ _ ⟨(OpBox.cells B8.out).2.1, (OpBox.cells B8.out).2.2.1, (OpBox.cells B8.out).2.2.2.1⟩ (fun hHeldC => ?_)
              clear hK K
              (try simp only [Act.put, List.setIfInBounds_toArray, List.set_cons_zero, List.set_cons_succ])
              (first | (refine Reg.take 9 (v := ?_) rfl (by kernel_rfl) (by kernel_rfl) (by kernel_rfl) (fun _ _ _ h => h) (Or.inl ⟨by rfl, ?_⟩) (by assumption) ?_; rotate_left; (focus ((intro W hSW); (try dsimp only at hSW); (try go_split_ands); go_simp; (try (with_reducible rfl)); done))) | (refine Reg.take 9 (v := undef) rfl (by kernel_rfl) (by kernel_rfl) (by kernel_rfl) (fun _ _ _ h => h) (Or.inr ⟨by rfl, rfl⟩) (by assumption) ?_))
              (try simp only [Act.put, List.setIfInBounds_toArray, List.set_cons_zero, List.set_cons_succ])
              refine wpAnyH_done (by kernel_rfl) ?_ _
              clear hHeld hHeldB hHeldC
              obtain ⟨h', hh'⟩ : ∃ x, x = h := ⟨_, rfl⟩
              obtain ⟨s', hs'⟩ : ∃ x, x = s := ⟨_, rfl⟩
              rw [← hh', ← hs'] at S8
              clear hh' hs'
              have S80 := Lib.hid S8.out.core
              obtain ⟨itb, hitb⟩ : ∃ x, x = w7.heap.size := ⟨_, rfl⟩
              obtain ⟨wr0, hrange, hR0, hB0⟩ := GM.run_range (t := 27) (P := Try.prog) Try.underlying27 S80.out.last
              rw [← hitb] at hrange hR0
              have HIT := Lib.hid hitb
              have SR := Lib.hid (S80.out.fresh hB0)
              have BR := Lib.hid (Cells.below B8.out hB0)
              have RR := Lib.hid hR0
              have HIF : Hid (itb ∉ foot g r ns) := fun hm => by have := S80.out.cb.at_.lt itb hm; have := HIT.out; omega
              have HIO : Hid (ob ≠ itb) := by show _ ≠ _; have := B8.out.lt; have := HIT.out; omega
              have HIB : Hid (base ≤ itb) := by show _ ≤ _; have := S80.out.cb.base; have := HIT.out; omega
              have HQI : Hid (q ≠ itb) := by show _ ≠ _; have := S80.out.last.lt; have := HIT.out; omega
              clear hR0 hB0 hitb
              go_upto_region 14 with fail
              clear hrange
              go_loopw [10] (fun nw wx => ∃ (b : Bool) (rest : Ks), nw = .bool b ∧ Hid (St0 base w wx g r q m (t + 1) ns h' s' ks ∧ OpBox wx ob o ∧ Rng mkP okP btS wx q itb ks rest ∧ (b = true → ∃ k ∈ ks, Pk ns o.lba o.ver k.1) ∧ (b = false → ∀ k ∈ ks, Pk ns o.lba o.ver k.1 → k ∈ rest))) (fun _ wx => wx.rangeLeft q itb)
              case atStart => exact ⟨false, ks, rfl, SR.out, BR.out, RR.out, fun h => (by cases h), fun _ k hk _ => hk⟩
              case round =>
                obtain ⟨b, rest, rfl, hH⟩ := hrel
                obtain ⟨wx, hwx⟩ : ∃ W, W = wr := ⟨_, rfl⟩
                subst hwx
                have SX := Lib.hid hH.out.1
                have BX := Lib.hid hH.out.2.1
                have RX := Lib.hid hH.out.2.2.1
                have YX := Lib.hid hH.out.2.2.2.1
                have NX := Lib.hid hH.out.2.2.2.2
                clear hH
                have HML : Hid (wx.rangeLeft q itb = rest.length) := rng_left RX.out
                rcases GM.run_next (P := Try.prog) kyP RX.out 0 with ⟨hnil, hnext0⟩ | ⟨k, rest', w7, hkr, hlt7, hcov, hsub, hnext0, hR7, hV7, hz7, hentry⟩
                · have HNL := Lib.hid hnil
                  have hnext : ∀ ty, (Instr.next (.pointer (some ⟨itb, 0, none⟩)) false ty).run Try.prog wx = .ok (.tuple #[.bool false]) wx := fun _ => hnext0
                  clear hnil hnext0
                  cases b
                  · have hno : Hid (∀ k ∈ ks, ¬ Pk ns o.lba o.ver k.1) := fun k hk hp => by have := NX.out rfl k hk hp; rw [HNL.out] at this; cases this
                    obtain ⟨k, hk, hp⟩ := pk_old S8.out.good HY.out HGT.out
                    exact absurd hp (hno.out k hk)
                  · have hyes : Hid (∃ k ∈ ks, Pk ns o.lba o.ver k.1) := YX.out rfl
                    have SY := Lib.hid (SX.out.with S8.out.good)
                    clear HT
                    have HKF := Lib.hid (keys_any SY.out.cb.at_ (by have := SY.out.cnt; omega))
                    obtain ⟨nf, hnf⟩ : ∃ n, n = (ns).length := ⟨_, rfl⟩
                    rw [← hnf] at HKF
                    have hcmp : decide (m < (nf : Int)) = false := decide_eq_false (by have := SY.out.cb.room; omega)
                    have HNF : Hid (nf ≤ 1000) := by have := SY.out.cnt; show _ ≤ _; omega
                    clear hnf
                    go_wp2_with fail
                    refine HKF.out.mono ?_
                    rintro e wf ⟨⟨XF, cf, rfl, hXF⟩, hBF⟩
                    have SF := Lib.hid (SY.out.fresh hBF)
                    clear hXF hBF HKF
                    go_wp2_with fail
                    go_roundw
                    case rel => exact ⟨t + 1, _, _, _, _, by go_num, by omega, SF.out⟩
                    case measure => simp [intOf]; omega
                · obtain ⟨⟨ka, kb⟩, kt⟩ := k
                  have hk7 : ((ka, kb), kt) ∈ ks := RX.out.sub _ hkr
                  have hnext : ∀ ty, (Instr.next (.pointer (some ⟨itb, 0, none⟩)) false ty).run Try.prog wx = .ok (.tuple #[.bool true, .agg #[.int .i64 ka, .int .i64 kb], .string (str kt)]) w7 := fun _ => hnext0
                  replace hentry : (Instr.entry (.pointer (some ⟨itb, 0, none⟩))).run Try.prog w7 = .ok (.tuple #[.agg #[.int .i64 ka, .int .i64 kb], .string (str kt)]) w7 := hentry
                  clear hnext0
                  have S7 := Lib.hid (SX.out.iter hV7 HIF.out HIB.out HQI.out)
                  have B7 := Lib.hid (Cells.mov BX.out hV7 (by simpa using HIO.out))
                  have R7 := Lib.hid hR7
                  have HCV := Lib.hid hcov
                  have HK7 := Lib.hid hk7
                  have HLT := Lib.hid hlt7
                  clear hR7 hcov hsub hkr hk7 hV7 hz7 hlt7
                  have A8 : Hid (Below w7.heap.size w7 (w7.alloc (.cells #[.int .i64 ka, .int .i64 kb] 34))) := (Below.refl _ _).alloc (Nat.le_refl _) _
                  have X8 : Hid (KeyBox (w7.alloc (.cells #[.int .i64 ka, .int .i64 kb] 34)) w7.heap.size (ka, kb)) := Cells.new _ _ _
                  have S8 := Lib.hid (S7.out.fresh A8.out)
                  have B8 := Lib.hid (Cells.below B7.out A8.out)
                  have R8 := Lib.hid (R7.out.below A8.out)
                  go_upto_region 16 with fail
                  clear hnext hentry
                  generalize w7.alloc (.cells #[.int .i64 ka, .int .i64 kb] 34) = w8 at *
                  have HM8 : Hid (w8.rangeLeft q itb = rest'.length) := rng_left R8.out
                  obtain ⟨n0, n1, n2, n3, n4⟩ := OpBox.cells B8.out
                  obtain ⟨x0, x1⟩ := KeyBox.cells X8.out
                  replace x0 : w8.cell? ⟨w7.heap.size, 0, none⟩ = some (.int .i64 ka) := x0
                  replace x1 : w8.cell? ⟨w7.heap.size, 1, none⟩ = some (.int .i64 kb) := x1
                  cases b
                  · rcases e5 : (ka == o.lba)
                    · have HNN : Hid (∀ k ∈ ks, Pk ns o.lba o.ver k.1 → k ∈ rest') := fun k hk hp => by
                        rcases HCV.out k (NX.out rfl k hk hp) with rfl | h
                        · have h1 : ka = o.lba := hp.1
                          simp [h1] at e5
                        · exact h
                      go_wp2_with fail
                      go_roundw
                      case rel => exact ⟨false, rest', rfl, S8.out, B8.out, R8.out, fun h => (by cases h), fun _ => HNN.out⟩
                      case measure => rw [HM8.out, HML.out]; exact HLT.out
                    · rcases e6 : decide (o.ver < kb)
                      · have HNN : Hid (∀ k ∈ ks, Pk ns o.lba o.ver k.1 → k ∈ rest') := fun k hk hp => by
                          rcases HCV.out k (NX.out rfl k hk hp) with rfl | h
                          · have h1 : o.ver < kb := hp.2.1
                            have := of_decide_eq_false e6
                            omega
                          · exact h
                        go_wp2_with fail
                        go_roundw
                        case rel => exact ⟨false, rest', rfl, S8.out, B8.out, R8.out, fun h => (by cases h), fun _ => HNN.out⟩
                        case measure => rw [HM8.out, HML.out]; exact HLT.out
                      · have HTH := Lib.hid (there_any (k := (ka, kb)) S8.out.cb (by have := S8.out.cnt; omega))
                        rcases e7 : decide ((ka, kb) ∈ keysL ns)
                        · rw [e7] at HTH
                          have HNN : Hid (∀ k ∈ ks, Pk ns o.lba o.ver k.1 → k ∈ rest') := fun k hk hp => by
                            rcases HCV.out k (NX.out rfl k hk hp) with rfl | h
                            · exact absurd hp.2.2 (of_decide_eq_false e7)
                            · exact h
                          clear e7
                          go_wp2_with fail
                          refine HTH.out.mono ?_
                          rintro e w9 ⟨rfl, hB9⟩
                          have S9 := Lib.hid (S8.out.fresh hB9)
                          have B9 := Lib.hid (Cells.below B8.out hB9)
                          have R9 := Lib.hid (R8.out.below hB9)
                          have HM9 : Hid (w9.rangeLeft q itb = rest'.length) := rng_left R9.out
                          clear hB9 HTH n0 n1 n2 n3 n4 x0 x1
                          go_wp2_with fail
                          go_roundw
                          case rel => exact ⟨false, rest', rfl, S9.out, B9.out, R9.out, fun h => (by cases h), fun _ => HNN.out⟩
                          case measure => rw [HM9.out, HML.out]; exact HLT.out
                        · rw [e7] at HTH
                          have HYY : Hid (∃ k ∈ ks, Pk ns o.lba o.ver k.1) := ⟨((ka, kb), kt), HK7.out, by simpa using e5, of_decide_eq_true e6, of_decide_eq_true e7⟩
                          clear e7
                          go_wp2_with fail
                          refine HTH.out.mono ?_
                          rintro e w9 ⟨rfl, hB9⟩
                          have S9 := Lib.hid (S8.out.fresh hB9)
                          have B9 := Lib.hid (Cells.below B8.out hB9)
                          have R9 := Lib.hid (R8.out.below hB9)
                          have HM9 : Hid (w9.rangeLeft q itb = rest'.length) := rng_left R9.out
                          clear hB9 HTH n0 n1 n2 n3 n4 x0 x1
                          go_wp2_with fail
                          go_roundw
                          case rel => exact ⟨true, rest', rfl, S9.out, B9.out, R9.out, fun _ => HYY.out, fun h => (by cases h)⟩
                          case measure => rw [HM9.out, HML.out]; exact HLT.out
                  · go_wp2_with fail
                    go_roundw
                    case rel => exact ⟨true, rest', rfl, S8.out, B8.out, R8.out, fun _ => YX.out rfl, fun h => (by cases h)⟩
                    case measure => rw [HM8.out, HML.out]; exact HLT.out
            · have HNO : Hid (∀ y, who ns o.lba = some y → y.2.ver ≤ o.ver) := fun y hy => by
                rcases Int.lt_or_le o.ver y.2.ver with h1 | h1
                · exact absurd ⟨y, hy, h1⟩ hold
                · exact h1
              clear hold
              go_upto_region 11 with fail
              clear n0 n1 n2 n3 n4
              have S6 := Lib.hid (S5.out.fresh ((Below.refl w5.heap.size w5).drew))
              have B6 : Hid (OpBox w5.drew ob o) := B5.out
              refine wp_region_held_drew (S := fun W => W.cell? ⟨ob, 1, none⟩ = some (.int .i64 o.lba) ∧ W.cell? ⟨ob, 2, none⟩ = some (.int .i64 o.ver) ∧ W.cell? ⟨ob, 3, none⟩ = some (.int .i64 o.n)) (by kernel_rfl) ⟨(OpBox.cells B6.out).2.1, (OpBox.cells B6.out).2.2.1, (OpBox.cells B6.out).2.2.2.1⟩ (fun hHeld => ?_)
              generalize w5.drew = w6 at *
              (first | (refine Reg.take 0 (v := ?_) rfl (by kernel_rfl) (by kernel_rfl) (by kernel_rfl) (fun _ _ _ h => h) (Or.inl ⟨by rfl, ?_⟩) (by assumption) ?_; rotate_left; (focus ((intro W hSW); (try dsimp only at hSW); (try go_split_ands); go_simp; (try (with_reducible rfl)); done))) | (refine Reg.take 0 (v := undef) rfl (by kernel_rfl) (by kernel_rfl) (by kernel_rfl) (fun _ _ _ h => h) (Or.inr ⟨by rfl, rfl⟩) (by assumption) ?_))
              (try simp only [Act.put, List.setIfInBounds_toArray, List.set_cons_zero, List.set_cons_succ])
              (first | (refine Reg.take 1 (v := ?_) rfl (by kernel_rfl) (by kernel_rfl) (by kernel_rfl) (fun _ _ _ h => h) (Or.inl ⟨by rfl, ?_⟩) (by assumption) ?_; rotate_left; (focus ((intro W hSW); (try dsimp only at hSW); (try go_split_ands); go_simp; (try (with_reducible rfl)); done))) | (refine Reg.take 1 (v := undef) rfl (by kernel_rfl) (by kernel_rfl) (by kernel_rfl) (fun _ _ _ h => h) (Or.inr ⟨by rfl, rfl⟩) (by assumption) ?_))
              (try simp only [Act.put, List.setIfInBounds_toArray, List.set_cons_zero, List.set_cons_succ])
              (first | (refine Reg.take 2 (v := ?_) rfl (by kernel_rfl) (by kernel_rfl) (by kernel_rfl) (fun _ _ _ h => h) (Or.inl ⟨by rfl, ?_⟩) (by assumption) ?_; rotate_left; (focus ((intro W hSW); (try dsimp only at hSW); (try go_split_ands); go_simp; (try (with_reducible rfl)); done))) | (refine Reg.take 2 (v := undef) rfl (by kernel_rfl) (by kernel_rfl) (by kernel_rfl) (fun _ _ _ h => h) (Or.inr ⟨by rfl, rfl⟩) (by assumption) ?_))
              (try simp only [Act.put, List.setIfInBounds_toArray, List.set_cons_zero, List.set_cons_succ])
              (first | (refine Reg.take 3 (v := ?_) rfl (by kernel_rfl) (by kernel_rfl) (by kernel_rfl) (fun _ _ _ h => h) (Or.inl ⟨by rfl, ?_⟩) (by assumption) ?_; rotate_left; (focus ((intro W hSW); (try dsimp only at hSW); (try go_split_ands); go_simp; (try (with_reducible rfl)); done))) | (refine Reg.take 3 (v := undef) rfl (by kernel_rfl) (by kernel_rfl) (by kernel_rfl) (fun _ _ _ h => h) (Or.inr ⟨by rfl, rfl⟩) (by assumption) ?_))
              (try simp only [Act.put, List.setIfInBounds_toArray, List.set_cons_zero, List.set_cons_succ])
              (first | (refine Reg.take 4 (v := ?_) rfl (by kernel_rfl) (by kernel_rfl) (by kernel_rfl) (fun _ _ _ h => h) (Or.inl ⟨by rfl, ?_⟩) (by assumption) ?_; rotate_left; (focus ((intro W hSW); (try dsimp only at hSW); (try go_split_ands); go_simp; (try (with_reducible rfl)); done))) | (refine Reg.take 4 (v := undef) rfl (by kernel_rfl) (by kernel_rfl) (by kernel_rfl) (fun _ _ _ h => h) (Or.inr ⟨by rfl, rfl⟩) (by assumption) ?_))
              (try simp only [Act.put, List.setIfInBounds_toArray, List.set_cons_zero, List.set_cons_succ])
              (first | (refine Reg.take 5 (v := ?_) rfl (by kernel_rfl) (by kernel_rfl) (by kernel_rfl) (fun _ _ _ h => h) (Or.inl ⟨by rfl, ?_⟩) (by assumption) ?_; rotate_left; (focus ((intro W hSW); (try dsimp only at hSW); (try go_split_ands); go_simp; (try (with_reducible rfl)); done))) | (refine Reg.take 5 (v := undef) rfl (by kernel_rfl) (by kernel_rfl) (by kernel_rfl) (fun _ _ _ h => h) (Or.inr ⟨by rfl, rfl⟩) (by assumption) ?_))
              (try simp only [Act.put, List.setIfInBounds_toArray, List.set_cons_zero, List.set_cons_succ])
              (first | (refine Reg.take 6 (v := ?_) rfl (by kernel_rfl) (by kernel_rfl) (by kernel_rfl) (fun _ _ _ h => h) (Or.inl ⟨by rfl, ?_⟩) (by assumption) ?_; rotate_left; (focus ((intro W hSW); (try dsimp only at hSW); (try go_split_ands); go_simp; (try (with_reducible rfl)); done))) | (refine Reg.take 6 (v := undef) rfl (by kernel_rfl) (by kernel_rfl) (by kernel_rfl) (fun _ _ _ h => h) (Or.inr ⟨by rfl, rfl⟩) (by assumption) ?_))
              (try simp only [Act.put, List.setIfInBounds_toArray, List.set_cons_zero, List.set_cons_succ])
              refine Reg.step 7 rfl (by kernel_rfl) (by rfl) (fun K hK => ?_)
              go_simp
              refine (HT _ w6).out.mono ?_
              rintro e w7 ⟨A7, rfl, hT, hB⟩
              have S7 := Lib.hid (S6.out.fresh hB)
              have B7 := Lib.hid (Cells.below B6.out hB)
              have T7 := Lib.hid hT
              clear hT hB
              refine hK.out _ _ ⟨(OpBox.cells B7.out).2.1, (OpBox.cells B7.out).2.2.1, (OpBox.cells B7.out).2.2.2.1⟩ (fun hHeldB => ?_)
              clear hK K
              (try simp only [Act.put, List.setIfInBounds_toArray, List.set_cons_zero, List.set_cons_succ])
              refine Reg.step 8 rfl (by kernel_rfl) (by rfl) (fun K hK => ?_)
              go_simp
              refine (put_ok S7.out.cb HG0.out HV0.out HNO.out T7.out).mono ?_
              rintro e w8 ⟨rfl, ns', hk8, hC8, hV8⟩
              have K8 := Lib.hid hk8
              have C8 := Lib.hid hC8
              have D8 : Hid (Below base w w8) := S7.out.below.trans (S7.out.cb.down hV8)
              have LA8 : Hid (LastAt w8 q ks) := S7.out.last.mov hV8 (S7.out.cb.not_map S7.out.last S7.out.qr)
              have B8 := Lib.hid (S7.out.box hV8 B7.out)
              clear hk8 hC8 hV8
              refine hK.out _ _ ⟨(OpBox.cells B8.out).2.1, (OpBox.cells B8.out).2.2.1, (OpBox.cells B8.out).2.2.2.1⟩ (fun hHeldC => ?_)
              clear hK K
              (try simp only [Act.put, List.setIfInBounds_toArray, List.set_cons_zero, List.set_cons_succ])
              (first | (refine Reg.take 9 (v := ?_) rfl (by kernel_rfl) (by kernel_rfl) (by kernel_rfl) (fun _ _ _ h => h) (Or.inl ⟨by rfl, ?_⟩) (by assumption) ?_; rotate_left; (focus ((intro W hSW); (try dsimp only at hSW); (try go_split_ands); go_simp; (try (with_reducible rfl)); done))) | (refine Reg.take 9 (v := undef) rfl (by kernel_rfl) (by kernel_rfl) (by kernel_rfl) (fun _ _ _ h => h) (Or.inr ⟨by rfl, rfl⟩) (by assumption) ?_))
              (try simp only [Act.put, List.setIfInBounds_toArray, List.set_cons_zero, List.set_cons_succ])
              refine wpAnyH_done (by kernel_rfl) ?_ _
              clear hHeld hHeldB hHeldC
              have G8 := Lib.hid (good_put (m := m) (a := ⟨o.lba, o.ver, tx o.n⟩) S7.out.good HG0.out HFT.out.1 HFT.out.2.1)
              rw [← K8.out] at G8
              have N8 : Hid (ns'.length ≤ t + 1) := by
                show _ ≤ _
                have h1 := congrArg List.length K8.out
                have h2 : (putK m (kvs ns) ⟨o.lba, o.ver, tx o.n⟩).length ≤ (kvs ns).length + 1 := putK_count
                rw [List.length_map] at h1 h2
                have := S7.out.cnt
                omega
              have S8 : Hid (St0 base w w8 g r q m (t + 1) ns' h s ks) := ⟨D8.out, C8.out, LA8.out, S7.out.qr, S7.out.qb, N8.out, by have := S7.out.cnt; omega⟩
              obtain ⟨h', hh'⟩ : ∃ x, x = h := ⟨_, rfl⟩
              obtain ⟨s', hs'⟩ : ∃ x, x = s := ⟨_, rfl⟩
              rw [← hh', ← hs'] at S8
              clear hh' hs'
              obtain ⟨itb, hitb⟩ : ∃ x, x = w8.heap.size := ⟨_, rfl⟩
              obtain ⟨wr0, hrange, hR0, hB0⟩ := GM.run_range (t := 27) (P := Try.prog) Try.underlying27 S8.out.last
              rw [← hitb] at hrange hR0
              have HIT := Lib.hid hitb
              have SR := Lib.hid (S8.out.fresh hB0)
              have BR := Lib.hid (Cells.below B8.out hB0)
              have RR := Lib.hid hR0
              have HIF : Hid (itb ∉ foot g r ns') := fun hm => by have := S8.out.cb.at_.lt itb hm; have := HIT.out; omega
              have HIO : Hid (ob ≠ itb) := by show _ ≠ _; have := B8.out.lt; have := HIT.out; omega
              have HIB : Hid (base ≤ itb) := by show _ ≤ _; have := S8.out.cb.base; have := HIT.out; omega
              have HQI : Hid (q ≠ itb) := by show _ ≠ _; have := S8.out.last.lt; have := HIT.out; omega
              clear hR0 hB0 hitb
              go_upto_region 14 with fail
              clear hrange
              go_loopw [10] (fun nw wx => ∃ (b : Bool) (rest : Ks), nw = .bool b ∧ Hid (St0 base w wx g r q m (t + 1) ns' h' s' ks ∧ OpBox wx ob o ∧ Rng mkP okP btS wx q itb ks rest ∧ (b = true → ∃ k ∈ ks, Pk ns' o.lba o.ver k.1) ∧ (b = false → ∀ k ∈ ks, Pk ns' o.lba o.ver k.1 → k ∈ rest))) (fun _ wx => wx.rangeLeft q itb)
              case atStart => exact ⟨false, ks, rfl, SR.out, BR.out, RR.out, fun h => (by cases h), fun _ k hk _ => hk⟩
              case round =>
                obtain ⟨b, rest, rfl, hH⟩ := hrel
                obtain ⟨wx, hwx⟩ : ∃ W, W = wr := ⟨_, rfl⟩
                subst hwx
                have SX := Lib.hid hH.out.1
                have BX := Lib.hid hH.out.2.1
                have RX := Lib.hid hH.out.2.2.1
                have YX := Lib.hid hH.out.2.2.2.1
                have NX := Lib.hid hH.out.2.2.2.2
                clear hH
                have HML : Hid (wx.rangeLeft q itb = rest.length) := rng_left RX.out
                rcases GM.run_next (P := Try.prog) kyP RX.out 0 with ⟨hnil, hnext0⟩ | ⟨k, rest', w7, hkr, hlt7, hcov, hsub, hnext0, hR7, hV7, hz7, hentry⟩
                · have HNL := Lib.hid hnil
                  have hnext : ∀ ty, (Instr.next (.pointer (some ⟨itb, 0, none⟩)) false ty).run Try.prog wx = .ok (.tuple #[.bool false]) wx := fun _ => hnext0
                  clear hnil hnext0
                  cases b
                  · have hno : Hid (∀ k ∈ ks, ¬ Pk ns' o.lba o.ver k.1) := fun k hk hp => by have := NX.out rfl k hk hp; rw [HNL.out] at this; cases this
                    go_upto_region 18 with fail
                    clear hnext
                    have S9 := Lib.hid (SX.out.fresh ((Below.refl wx.heap.size wx).drew))
                    have B9 : Hid (OpBox wx.drew ob o) := BX.out
                    refine wp_region_held_drew (S := fun W => W.cell? ⟨ob, 1, none⟩ = some (.int .i64 o.lba) ∧ W.cell? ⟨ob, 2, none⟩ = some (.int .i64 o.ver) ∧ W.cell? ⟨ob, 3, none⟩ = some (.int .i64 o.n)) (by kernel_rfl) ⟨(OpBox.cells B9.out).2.1, (OpBox.cells B9.out).2.2.1, (OpBox.cells B9.out).2.2.2.1⟩ (fun hHeld => ?_)
                    generalize wx.drew = w9 at *
                    (first | (refine Reg.take 0 (v := ?_) rfl (by kernel_rfl) (by kernel_rfl) (by kernel_rfl) (fun _ _ _ h => h) (Or.inl ⟨by rfl, ?_⟩) (by assumption) ?_; rotate_left; (focus ((intro W hSW); (try dsimp only at hSW); (try go_split_ands); go_simp; (try (with_reducible rfl)); done))) | (refine Reg.take 0 (v := undef) rfl (by kernel_rfl) (by kernel_rfl) (by kernel_rfl) (fun _ _ _ h => h) (Or.inr ⟨by rfl, rfl⟩) (by assumption) ?_))
                    (try simp only [Act.put, List.setIfInBounds_toArray, List.set_cons_zero, List.set_cons_succ])
                    (first | (refine Reg.take 1 (v := ?_) rfl (by kernel_rfl) (by kernel_rfl) (by kernel_rfl) (fun _ _ _ h => h) (Or.inl ⟨by rfl, ?_⟩) (by assumption) ?_; rotate_left; (focus ((intro W hSW); (try dsimp only at hSW); (try go_split_ands); go_simp; (try (with_reducible rfl)); done))) | (refine Reg.take 1 (v := undef) rfl (by kernel_rfl) (by kernel_rfl) (by kernel_rfl) (fun _ _ _ h => h) (Or.inr ⟨by rfl, rfl⟩) (by assumption) ?_))
                    (try simp only [Act.put, List.setIfInBounds_toArray, List.set_cons_zero, List.set_cons_succ])
                    (first | (refine Reg.take 2 (v := ?_) rfl (by kernel_rfl) (by kernel_rfl) (by kernel_rfl) (fun _ _ _ h => h) (Or.inl ⟨by rfl, ?_⟩) (by assumption) ?_; rotate_left; (focus ((intro W hSW); (try dsimp only at hSW); (try go_split_ands); go_simp; (try (with_reducible rfl)); done))) | (refine Reg.take 2 (v := undef) rfl (by kernel_rfl) (by kernel_rfl) (by kernel_rfl) (fun _ _ _ h => h) (Or.inr ⟨by rfl, rfl⟩) (by assumption) ?_))
                    (try simp only [Act.put, List.setIfInBounds_toArray, List.set_cons_zero, List.set_cons_succ])
                    (first | (refine Reg.take 3 (v := ?_) rfl (by kernel_rfl) (by kernel_rfl) (by kernel_rfl) (fun _ _ _ h => h) (Or.inl ⟨by rfl, ?_⟩) (by assumption) ?_; rotate_left; (focus ((intro W hSW); (try dsimp only at hSW); (try go_split_ands); go_simp; (try (with_reducible rfl)); done))) | (refine Reg.take 3 (v := undef) rfl (by kernel_rfl) (by kernel_rfl) (by kernel_rfl) (fun _ _ _ h => h) (Or.inr ⟨by rfl, rfl⟩) (by assumption) ?_))
                    (try simp only [Act.put, List.setIfInBounds_toArray, List.set_cons_zero, List.set_cons_succ])
                    (first | (refine Reg.take 4 (v := ?_) rfl (by kernel_rfl) (by kernel_rfl) (by kernel_rfl) (fun _ _ _ h => h) (Or.inl ⟨by rfl, ?_⟩) (by assumption) ?_; rotate_left; (focus ((intro W hSW); (try dsimp only at hSW); (try go_split_ands); go_simp; (try (with_reducible rfl)); done))) | (refine Reg.take 4 (v := undef) rfl (by kernel_rfl) (by kernel_rfl) (by kernel_rfl) (fun _ _ _ h => h) (Or.inr ⟨by rfl, rfl⟩) (by assumption) ?_))
                    (try simp only [Act.put, List.setIfInBounds_toArray, List.set_cons_zero, List.set_cons_succ])
                    (first | (refine Reg.take 5 (v := ?_) rfl (by kernel_rfl) (by kernel_rfl) (by kernel_rfl) (fun _ _ _ h => h) (Or.inl ⟨by rfl, ?_⟩) (by assumption) ?_; rotate_left; (focus ((intro W hSW); (try dsimp only at hSW); (try go_split_ands); go_simp; (try (with_reducible rfl)); done))) | (refine Reg.take 5 (v := undef) rfl (by kernel_rfl) (by kernel_rfl) (by kernel_rfl) (fun _ _ _ h => h) (Or.inr ⟨by rfl, rfl⟩) (by assumption) ?_))
                    (try simp only [Act.put, List.setIfInBounds_toArray, List.set_cons_zero, List.set_cons_succ])
                    (first | (refine Reg.take 6 (v := ?_) rfl (by kernel_rfl) (by kernel_rfl) (by kernel_rfl) (fun _ _ _ h => h) (Or.inl ⟨by rfl, ?_⟩) (by assumption) ?_; rotate_left; (focus ((intro W hSW); (try dsimp only at hSW); (try go_split_ands); go_simp; (try (with_reducible rfl)); done))) | (refine Reg.take 6 (v := undef) rfl (by kernel_rfl) (by kernel_rfl) (by kernel_rfl) (fun _ _ _ h => h) (Or.inr ⟨by rfl, rfl⟩) (by assumption) ?_))
                    (try simp only [Act.put, List.setIfInBounds_toArray, List.set_cons_zero, List.set_cons_succ])
                    (first | (refine Reg.take 7 (v := ?_) rfl (by kernel_rfl) (by kernel_rfl) (by kernel_rfl) (fun _ _ _ h => h) (Or.inl ⟨by rfl, ?_⟩) (by assumption) ?_; rotate_left; (focus ((intro W hSW); (try dsimp only at hSW); (try go_split_ands); go_simp; (try (with_reducible rfl)); done))) | (refine Reg.take 7 (v := undef) rfl (by kernel_rfl) (by kernel_rfl) (by kernel_rfl) (fun _ _ _ h => h) (Or.inr ⟨by rfl, rfl⟩) (by assumption) ?_))
                    (try simp only [Act.put, List.setIfInBounds_toArray, List.set_cons_zero, List.set_cons_succ])
                    refine Reg.step 8 rfl (by kernel_rfl) (by rfl) (fun K hK => ?_)
                    go_simp
                    refine (HT _ w9).out.mono ?_
                    rintro e wa ⟨Aa, rfl, hT, hB⟩
                    have Sa := Lib.hid (S9.out.fresh hB)
                    have Ba := Lib.hid (Cells.below B9.out hB)
                    have hcv := reads_of hT.row
                    unfold Reads at hcv
                    clear hT hB
                    refine hK.out _ _ ⟨(OpBox.cells Ba.out).2.1, (OpBox.cells Ba.out).2.2.1, (OpBox.cells Ba.out).2.2.2.1⟩ (fun hHeldB => ?_)
                    clear hK K
                    (try simp only [Act.put, List.setIfInBounds_toArray, List.set_cons_zero, List.set_cons_succ])
                    refine Reg.step 9 rfl (by kernel_rfl) (by rfl) (fun K hK => ?_)
                    go_simp
                    refine hK.out _ _ ⟨(OpBox.cells Ba.out).2.1, (OpBox.cells Ba.out).2.2.1, (OpBox.cells Ba.out).2.2.2.1⟩ (fun hHeldC => ?_)
                    clear hK K
                    (try simp only [Act.put, List.setIfInBounds_toArray, List.set_cons_zero, List.set_cons_succ])
                    refine Reg.step 10 rfl (by kernel_rfl) (by rfl) (fun K hK => ?_)
                    obtain ⟨wb, hput, hLb, hVb, hzb⟩ := last_put Sa.out.last (k := (o.lba, o.ver)) ⟨HFT.out.1, HFT.out.2.1⟩ (tx o.n)
                    replace hput : (Instr.mapUpdate 27 (.map (some q)) (.agg #[.int .i64 o.lba, .int .i64 o.ver]) (.string (str (tx o.n)))).run Try.prog wa = .ok () wb := hput
                    go_simp
                    have Sb := Lib.hid (Sa.out.put hLb hVb G8.out)
                    have Bb := Lib.hid (Cells.mov Ba.out hVb (by simpa using Sa.out.last.ne Ba.out))
                    refine hK.out _ _ ⟨(OpBox.cells Bb.out).2.1, (OpBox.cells Bb.out).2.2.1, (OpBox.cells Bb.out).2.2.2.1⟩ (fun hHeldD => ?_)
                    clear hK K
                    (try simp only [Act.put, List.setIfInBounds_toArray, List.set_cons_zero, List.set_cons_succ])
                    refine wpAnyH_done (by kernel_rfl) ?_ _
                    clear hHeld hHeldB hHeldC hHeldD hput hLb hVb hzb hcv
                    clear HT
                    have HKF := Lib.hid (keys_any Sb.out.cb.at_ (by have := Sb.out.cnt; omega))
                    obtain ⟨nf, hnf⟩ : ∃ n, n = (ns').length := ⟨_, rfl⟩
                    rw [← hnf] at HKF
                    have hcmp : decide (m < (nf : Int)) = false := decide_eq_false (by have := Sb.out.cb.room; omega)
                    have HNF : Hid (nf ≤ 1000) := by have := Sb.out.cnt; show _ ≤ _; omega
                    clear hnf
                    go_wp2_with fail
                    refine HKF.out.mono ?_
                    rintro e wf ⟨⟨XF, cf, rfl, hXF⟩, hBF⟩
                    have SF := Lib.hid (Sb.out.fresh hBF)
                    clear hXF hBF HKF
                    go_wp2_with fail
                    go_roundw
                    case rel => exact ⟨t + 1, _, _, _, _, by go_num, by omega, SF.out⟩
                    case measure => simp [intOf]; omega
                  · have hyes : Hid (∃ k ∈ ks, Pk ns' o.lba o.ver k.1) := YX.out rfl
                    obtain ⟨k, -, hp⟩ := hyes.out
                    exact absurd hp (pk_new K8.out k.1)
                · obtain ⟨⟨ka, kb⟩, kt⟩ := k
                  have hk7 : ((ka, kb), kt) ∈ ks := RX.out.sub _ hkr
                  have hnext : ∀ ty, (Instr.next (.pointer (some ⟨itb, 0, none⟩)) false ty).run Try.prog wx = .ok (.tuple #[.bool true, .agg #[.int .i64 ka, .int .i64 kb], .string (str kt)]) w7 := fun _ => hnext0
                  replace hentry : (Instr.entry (.pointer (some ⟨itb, 0, none⟩))).run Try.prog w7 = .ok (.tuple #[.agg #[.int .i64 ka, .int .i64 kb], .string (str kt)]) w7 := hentry
                  clear hnext0
                  have S7 := Lib.hid (SX.out.iter hV7 HIF.out HIB.out HQI.out)
                  have B7 := Lib.hid (Cells.mov BX.out hV7 (by simpa using HIO.out))
                  have R7 := Lib.hid hR7
                  have HCV := Lib.hid hcov
                  have HK7 := Lib.hid hk7
                  have HLT := Lib.hid hlt7
                  clear hR7 hcov hsub hkr hk7 hV7 hz7 hlt7
                  have A8 : Hid (Below w7.heap.size w7 (w7.alloc (.cells #[.int .i64 ka, .int .i64 kb] 34))) := (Below.refl _ _).alloc (Nat.le_refl _) _
                  have X8 : Hid (KeyBox (w7.alloc (.cells #[.int .i64 ka, .int .i64 kb] 34)) w7.heap.size (ka, kb)) := Cells.new _ _ _
                  have S8 := Lib.hid (S7.out.fresh A8.out)
                  have B8 := Lib.hid (Cells.below B7.out A8.out)
                  have R8 := Lib.hid (R7.out.below A8.out)
                  go_upto_region 16 with fail
                  clear hnext hentry
                  generalize w7.alloc (.cells #[.int .i64 ka, .int .i64 kb] 34) = w8 at *
                  have HM8 : Hid (w8.rangeLeft q itb = rest'.length) := rng_left R8.out
                  obtain ⟨n0, n1, n2, n3, n4⟩ := OpBox.cells B8.out
                  obtain ⟨x0, x1⟩ := KeyBox.cells X8.out
                  replace x0 : w8.cell? ⟨w7.heap.size, 0, none⟩ = some (.int .i64 ka) := x0
                  replace x1 : w8.cell? ⟨w7.heap.size, 1, none⟩ = some (.int .i64 kb) := x1
                  cases b
                  · rcases e5 : (ka == o.lba)
                    · have HNN : Hid (∀ k ∈ ks, Pk ns' o.lba o.ver k.1 → k ∈ rest') := fun k hk hp => by
                        rcases HCV.out k (NX.out rfl k hk hp) with rfl | h
                        · have h1 : ka = o.lba := hp.1
                          simp [h1] at e5
                        · exact h
                      go_wp2_with fail
                      go_roundw
                      case rel => exact ⟨false, rest', rfl, S8.out, B8.out, R8.out, fun h => (by cases h), fun _ => HNN.out⟩
                      case measure => rw [HM8.out, HML.out]; exact HLT.out
                    · rcases e6 : decide (o.ver < kb)
                      · have HNN : Hid (∀ k ∈ ks, Pk ns' o.lba o.ver k.1 → k ∈ rest') := fun k hk hp => by
                          rcases HCV.out k (NX.out rfl k hk hp) with rfl | h
                          · have h1 : o.ver < kb := hp.2.1
                            have := of_decide_eq_false e6
                            omega
                          · exact h
                        go_wp2_with fail
                        go_roundw
                        case rel => exact ⟨false, rest', rfl, S8.out, B8.out, R8.out, fun h => (by cases h), fun _ => HNN.out⟩
                        case measure => rw [HM8.out, HML.out]; exact HLT.out
                      · have HTH := Lib.hid (there_any (k := (ka, kb)) S8.out.cb (by have := S8.out.cnt; omega))
                        rcases e7 : decide ((ka, kb) ∈ keysL ns')
                        · rw [e7] at HTH
                          have HNN : Hid (∀ k ∈ ks, Pk ns' o.lba o.ver k.1 → k ∈ rest') := fun k hk hp => by
                            rcases HCV.out k (NX.out rfl k hk hp) with rfl | h
                            · exact absurd hp.2.2 (of_decide_eq_false e7)
                            · exact h
                          clear e7
                          go_wp2_with fail
                          refine HTH.out.mono ?_
                          rintro e w9 ⟨rfl, hB9⟩
                          have S9 := Lib.hid (S8.out.fresh hB9)
                          have B9 := Lib.hid (Cells.below B8.out hB9)
                          have R9 := Lib.hid (R8.out.below hB9)
                          have HM9 : Hid (w9.rangeLeft q itb = rest'.length) := rng_left R9.out
                          clear hB9 HTH n0 n1 n2 n3 n4 x0 x1
                          go_wp2_with fail
                          go_roundw
                          case rel => exact ⟨false, rest', rfl, S9.out, B9.out, R9.out, fun h => (by cases h), fun _ => HNN.out⟩
                          case measure => rw [HM9.out, HML.out]; exact HLT.out
                        · rw [e7] at HTH
                          have HYY : Hid (∃ k ∈ ks, Pk ns' o.lba o.ver k.1) := ⟨((ka, kb), kt), HK7.out, by simpa using e5, of_decide_eq_true e6, of_decide_eq_true e7⟩
                          clear e7
                          go_wp2_with fail
                          refine HTH.out.mono ?_
                          rintro e w9 ⟨rfl, hB9⟩
                          have S9 := Lib.hid (S8.out.fresh hB9)
                          have B9 := Lib.hid (Cells.below B8.out hB9)
                          have R9 := Lib.hid (R8.out.below hB9)
                          have HM9 : Hid (w9.rangeLeft q itb = rest'.length) := rng_left R9.out
                          clear hB9 HTH n0 n1 n2 n3 n4 x0 x1
                          go_wp2_with fail
                          go_roundw
                          case rel => exact ⟨true, rest', rfl, S9.out, B9.out, R9.out, fun _ => HYY.out, fun h => (by cases h)⟩
                          case measure => rw [HM9.out, HML.out]; exact HLT.out
                  · go_wp2_with fail
                    go_roundw
                    case rel => exact ⟨true, rest', rfl, S8.out, B8.out, R8.out, fun _ => YX.out rfl, fun h => (by cases h)⟩
                    case measure => rw [HM8.out, HML.out]; exact HLT.out
      · obtain rfl : t = n := by omega
        go_wp2_with fail
        go_ret
        exact ⟨rfl, SR0.out.below⟩
end Cac
end Go.Proofs.Ytfngebikihdogaa
