/-
  THE STATEMENT LeaseDoes: whatever is done with any table, the tables, leases and errors are those of the document. For every input. (Written by gen_lealaws.py.)
-/
import Derived.Test.YtehknenlifdchaaLeaLoop
namespace Go.Proofs.Ytehknenlifdchaa
open Go.ChangeShapes Go.WideShapes Go.ChangeAt Go.RowKit Mem
namespace Lea

set_option maxRecDepth 100000 in
set_option maxHeartbeats 51200000 in
theorem leaseDoes_walk {last now : Int} {A : Option Addr} {n c : Nat} {l : List Lv} {w : World} {L : Option Addr} {m lc : Nat} {os : List Ov} {K : Option Addr} {mk kc : Nat} {keys : List Int} (h : RowL w A n c l) (hL : RowS cellsO 5 w L m lc os) (hK : Row ci w K mk kc keys) :
    Calls Try.prog 3 #[tv last now A n c, .slice L m lc, .slice K mk kc] w fun e w' => e = .returned (.bool true) ∧ Below w.heap.size w w' := by
  have HR := Lib.hid h
  have HL := Lib.hid hL
  have HK := Lib.hid hK
  have hbig := h.big
  have hbigm := hL.big
  have hbigk := hK.big
  have hlen := Lib.hid h.len
  have HF := fun w => Lib.hid (few_any (last := last) (now := now) (A := A) (n := n) (c := c) (B := L) (m := m) (d := lc) w hbig hbigm)
  have L1 : Hid (Below w.heap.size w (w.alloc (.cells #[.int .i64 last, .int .i64 now, .slice A n c] 24))) := (Below.refl w.heap.size w).alloc (Nat.le_refl _) _
  have B1 : Hid (TBox (w.alloc (.cells #[.int .i64 last, .int .i64 now, .slice A n c] 24)) w.heap.size last now A n c) := Cells.new w _ _
  clear h hL hK
  go_enter Try.func3, Try.ntmps3
  go_upto_region 1 with fail
  generalize w.alloc (.cells #[.int .i64 last, .int .i64 now, .slice A n c] 24) = w1 at *
  go_wp2_with fail
  refine (live_any w1).mono ?_
  rintro e w2 ⟨rfl, hb⟩
  have L2 := Lib.hid (L1.out.trans (hb.mono L1.out.size))
  have B2 := Lib.hid (Cells.below B1.out hb)
  clear hb L1 B1
  obtain ⟨m0, m1, m2⟩ := TBox.cells B2.out
  rcases hf : fewB n m last now
  · have hF := HF w2
    rw [hf] at hF
    go_wp2_with fail
    refine hF.out.mono ?_
    rintro e w3 ⟨rfl, hb⟩
    have L3 := Lib.hid (L2.out.trans (hb.mono L2.out.size))
    clear hb
    go_wp2_with fail
    go_ret
    exact ⟨rfl, L3.out⟩
  have hF := HF w2
  rw [hf] at hF
  obtain ⟨hbd, hn, hm, hla, hno⟩ := few_bd hlen.out hf
  have HBD := Lib.hid hbd
  clear hbd hf hla hno
  rcases ek : decide ((100 : Int) < (mk : Int))
  case true =>
    go_wp2_with fail
    refine hF.out.mono ?_
    rintro e w3 ⟨rfl, hb⟩
    have L3 := Lib.hid (L2.out.trans (hb.mono L2.out.size))
    clear hb
    go_wp2_with fail
    go_ret
    exact ⟨rfl, L3.out⟩
  have hmk : mk ≤ 100 := by have := of_decide_eq_false ek; omega
  go_wp2_with fail
  refine hF.out.mono ?_
  rintro e w3 ⟨rfl, hb⟩
  obtain rfl : n = l.length := hlen.out.symm
  have I3 : Hid (TI w w3 w.heap.size ⟨last, now, l⟩ A c 0) := TI.to ⟨L2.out, B2.out, HR.out.below L2.out, HBD.out, Nat.le_refl _⟩ hb
  clear hb L2 B2 m0 m1 m2 HF hF HBD ek
  go_wp2_with fail
  go_loopg [30] (m + 1) (fun gk i wr => ∃ (j : Nat) (la no : Int) (tl : List Lv) (B : Option Addr) (d : Nat), gk = m + 1 - j ∧ i = .int .i64 j ∧ j ≤ m ∧ Hid (TI w wr w.heap.size ⟨la, no, tl⟩ B d j))
  case atStart => exact ⟨0, last, now, l, A, c, rfl, rfl, by omega, I3.out⟩
  case round =>
    obtain ⟨j, la, no, tl, B, d, hgk, rfl, hj, hI⟩ := hrel
    clear I3
    by_cases hlt : j < m
    · obtain ⟨o, ho⟩ := RowS.get HL.out hlt
      obtain ⟨b, q, rfl, c0, c1, c2, c3, c4⟩ := RowS.op_at (RowS.below HL.out hI.out.below) ho
      have hk0 : (0 : Int) ≤ (j : Int) := by omega
      have hkn : (j : Int) < (m : Int) := by omega
      have I6 : Hid (TI w (wr.alloc (.cells #[.int .i64 o.d, .int .i64 o.a, .int .i64 o.b, .int .i64 o.c, .int .i64 o.e] 30)) w.heap.size ⟨la, no, tl⟩ B d j) := hI.out.to ((Below.refl _ wr).alloc (Nat.le_refl _) _)
      have O6 : Hid (OBox (wr.alloc (.cells #[.int .i64 o.d, .int .i64 o.a, .int .i64 o.b, .int .i64 o.c, .int .i64 o.e] 30)) wr.heap.size o) := Cells.new wr _ _
      clear ho hI
      go_upto_region 7 with fail
      clear c0 c1 c2 c3 c4
      generalize wr.alloc (.cells #[.int .i64 o.d, .int .i64 o.a, .int .i64 o.b, .int .i64 o.c, .int .i64 o.e] 30) = w6 at *
      generalize wr.heap.size = go at *
      obtain ⟨o0, o1, o2, o3, o4⟩ := OBox.cells O6.out
      rcases hs : (o.d == 0 && decide (1152921504606846976 < o.a))
      case true =>
        have e0 : (o.d == 0) = true := by simp only [Bool.and_eq_true] at hs; exact hs.1
        have e1 : decide (1152921504606846976 < o.a) = true := by simp only [Bool.and_eq_true] at hs; exact hs.2
        go_wp2_with fail
        go_ret
        exact ⟨rfl, I6.out.below⟩
      have HDA : Hid (o.d = 0 → o.a ≤ 1152921504606846976) := by
        show _ → _
        intro hd
        have : (o.d == 0) = true := by simpa using hd
        rw [this, Bool.true_and] at hs
        have := of_decide_eq_false hs
        omega
      go_cut [41] (fun s wx => s = .bool false ∧ wx = w6)
      case first =>
        rcases e0 : (o.d == 0)
        · go_wp2_with fail
          go_meet
          exact ⟨rfl, rfl⟩
        · have e1 : decide (1152921504606846976 < o.a) = false := by rw [e0, Bool.true_and] at hs; exact hs
          go_wp2_with fail
          go_meet
          exact ⟨rfl, rfl⟩
      case rest =>
        obtain ⟨rfl, hwc⟩ := hcut
        subst wc
        clear o0 o1 o2 o3 o4 hs
        have hbd := I6.out.bd
        have hlast := hbd.last
        have htl := hbd.len
        simp only at htl
        have HCP := fun w (h : RowL w B tl.length d tl) => Lib.hid (refCopy_any (last := la) (now := no) h (by omega))
        have HB := fun w (h : RowL w B tl.length d tl) => Lib.hid (body_any (last := la) (now := no) o h (by omega) (fun hok => I6.out.bd.wrapl (by omega) hok) (fun hok ht => I6.out.bd.wrapt hok ht))
        have HM := fun w (h : RowL w B tl.length d tl) => Lib.hid (model_any (last := la) (now := no) o h (by omega) (fun hok => I6.out.bd.wrapl (by omega) hok) (fun hok ht => I6.out.bd.wrapt hok ht))
        have HC1 := fun w (h : RowL w B tl.length d tl) => Lib.hid (check_any (last := la) (now := no) h (by omega))
        have HC2 := fun w (h : RowL w B tl.length d tl) => Lib.hid (refCheck_any (last := la) (now := no) h (by omega))
        have HO1 := fun w (h : RowL w B tl.length d tl) => Lib.hid (of_any (last := la) (now := no) o.b h (by omega))
        have HO2 := fun w (h : RowL w B tl.length d tl) => Lib.hid (refOf_any (last := la) (now := no) o.b h (by omega))
        have HX1 := fun w (h : RowL w B tl.length d tl) (hk : Row ci w K mk kc keys) => Lib.hid (next_any (last := la) (now := no) h (by omega) hk (by omega))
        have HX2 := fun w (h : RowL w B tl.length d tl) (hk : Row ci w K mk kc keys) => Lib.hid (refNext_any (last := la) (now := no) h (by omega) hk (by omega))
        have hol := of_len ⟨la, no, tl⟩ o.b
        simp only at hol
        have hlens := body_lens ⟨la, no, tl⟩ o
        have hbdn := fun he => body_bd hbd HDA.out he
        rcases hP : bodyP ⟨la, no, tl⟩ o with ⟨⟨lu, nu, ul⟩, xl, er⟩
        rw [hP] at HB HM hlens hbdn
        simp only at hlens hbdn
        have HBN := Lib.hid hbdn
        have hul : ul.length ≤ 1000 := by have := hlens.1; omega
        have hxl : xl.length ≤ 1000 := by have := hlens.2; omega
        generalize ofP ⟨la, no, tl⟩ o.b = ol at *
        obtain ⟨ec, hec⟩ : ∃ ec, errOf (okT ⟨la, no, tl⟩) = ec := ⟨_, rfl⟩
        rw [hec] at HC1 HC2
        obtain ⟨nx, hnx⟩ : ∃ nx, nextP ⟨la, no, tl⟩ keys = nx := ⟨_, rfl⟩
        rw [hnx] at HX1 HX2
        have hol2 : ol.length ≤ 1000 := by omega
        have htl2 : tl.length ≤ 1000 := by omega
        clear hP hlens hbdn hec hnx hol htl hlast hbd
        go_upto_region 9 with fail
        obtain ⟨m0, m1, m2⟩ := TBox.cells I6.out.box
        go_wp2_with fail
        refine (HCP w6 I6.out.row).out.mono ?_
        rintro e w7 ⟨⟨CB, cd, rfl, hO⟩, hb⟩
        have b8 : Below w6.heap.size w6 (w7.alloc (.cells #[.int .i64 la, .int .i64 no, .slice CB tl.length cd] 24)) := hb.alloc hb.size _
        have I8 := Lib.hid (I6.out.to b8)
        have O8 := Lib.hid (Cells.below O6.out b8)
        have W8 : Hid (TBox (w7.alloc (.cells #[.int .i64 la, .int .i64 no, .slice CB tl.length cd] 24)) w7.heap.size la no CB tl.length cd) := Cells.new _ _ _
        have RW8 : Hid (RowL (w7.alloc (.cells #[.int .i64 la, .int .i64 no, .slice CB tl.length cd] 24)) CB tl.length cd tl) := RowS.alloc (OwnsL.row hO (by omega)) _
        clear hb b8 hO I6 O6 m0 m1 m2 HCP
        go_upto_region 10 with fail
        generalize (w7.alloc (.cells #[.int .i64 la, .int .i64 no, .slice CB tl.length cd] 24)) = w8 at *
        generalize w7.heap.size = gw at *
        obtain ⟨m0, m1, m2⟩ := TBox.cells I8.out.box
        obtain ⟨o0, o1, o2, o3, o4⟩ := OBox.cells O8.out
        go_wp2_with fail
        refine (HB w8 I8.out.row).out.mono ?_
        rintro e w9 ⟨AU, cu, XA, xa, rfl, hU, hX, hb⟩
        simp only at hU
        have b9 : Below w8.heap.size w8 (w9.alloc (.cells #[.int .i64 lu, .int .i64 nu, .slice AU ul.length cu] 24)) := hb.alloc hb.size _
        have I10 := Lib.hid (I8.out.to b9)
        have O10 := Lib.hid (Cells.below O8.out b9)
        have W10 := Lib.hid (Cells.below W8.out b9)
        have RW10 := Lib.hid (RowS.below RW8.out b9)
        have U10 : Hid (TBox (w9.alloc (.cells #[.int .i64 lu, .int .i64 nu, .slice AU ul.length cu] 24)) w9.heap.size lu nu AU ul.length cu) := Cells.new _ _ _
        have RU10 : Hid (RowL (w9.alloc (.cells #[.int .i64 lu, .int .i64 nu, .slice AU ul.length cu] 24)) AU ul.length cu ul) := RowS.alloc hU _
        have RX10 : Hid (RowL (w9.alloc (.cells #[.int .i64 lu, .int .i64 nu, .slice AU ul.length cu] 24)) XA xl.length xa xl) := RowS.alloc hX _
        clear hb b9 hU hX I8 O8 W8 RW8 m0 m1 m2 o0 o1 o2 o3 o4 HB
        go_upto_region 11 with fail
        generalize (w9.alloc (.cells #[.int .i64 lu, .int .i64 nu, .slice AU ul.length cu] 24)) = w10 at *
        generalize w9.heap.size = gu at *
        obtain ⟨m0, m1, m2⟩ := TBox.cells I10.out.box
        obtain ⟨o0, o1, o2, o3, o4⟩ := OBox.cells O10.out
        go_wp2_with fail
        refine (HM w10 I10.out.row).out.mono ?_
        rintro e w11 ⟨AV, cv, YA, ya, rfl, hV, hY, hb⟩
        simp only at hV
        have b9 : Below w10.heap.size w10 (w11.alloc (.cells #[.int .i64 lu, .int .i64 nu, .slice AV ul.length cv] 24)) := hb.alloc hb.size _
        have I12 := Lib.hid (I10.out.to b9)
        have O12 := Lib.hid (Cells.below O10.out b9)
        have W12 := Lib.hid (Cells.below W10.out b9)
        have RW12 := Lib.hid (RowS.below RW10.out b9)
        have U12 := Lib.hid (Cells.below U10.out b9)
        have RU12 := Lib.hid (RowS.below RU10.out b9)
        have RX12 := Lib.hid (RowS.below RX10.out b9)
        have V12 : Hid (TBox (w11.alloc (.cells #[.int .i64 lu, .int .i64 nu, .slice AV ul.length cv] 24)) w11.heap.size lu nu AV ul.length cv) := Cells.new _ _ _
        have RV12 : Hid (RowL (w11.alloc (.cells #[.int .i64 lu, .int .i64 nu, .slice AV ul.length cv] 24)) AV ul.length cv ul) := RowS.alloc hV _
        have RY12 : Hid (RowL (w11.alloc (.cells #[.int .i64 lu, .int .i64 nu, .slice AV ul.length cv] 24)) YA xl.length ya xl) := RowS.alloc hY _
        clear hb b9 hV hY I10 O10 W10 RW10 U10 RU10 RX10 m0 m1 m2 o0 o1 o2 o3 o4 HM
        go_upto_region 12 with fail
        generalize (w11.alloc (.cells #[.int .i64 lu, .int .i64 nu, .slice AV ul.length cv] 24)) = w12 at *
        generalize w11.heap.size = gv at *
        have RK12 := Lib.hid (Row.below HK.out I12.out.below)
        go_cut [107] (fun s wx => s = .bool false ∧ Hid (Below w12.heap.size w12 wx))
        case first =>
          have HS := fun W (hb : Below w12.heap.size w12 W) => And.intro (TBox.cells (Cells.below I12.out.box hb)) (And.intro (TBox.cells (Cells.below W12.out hb)) (And.intro (TBox.cells (Cells.below U12.out hb)) (And.intro (TBox.cells (Cells.below V12.out hb)) (OBox.cells (Cells.below O12.out hb)).2.2.1)))
          have HSA := fun W (hb : Below w12.heap.size w12 W) => Lib.hid (same_any (last := lu) (now := nu) (RowS.below RU12.out hb) (RowS.below RV12.out hb) (by omega))
          have HSL := fun W (hb : Below w12.heap.size w12 W) => Lib.hid (sameLeases_any (RowS.below RX12.out hb) (RowS.below RY12.out hb) (by omega))
          have HSB := fun W (hb : Below w12.heap.size w12 W) => Lib.hid (same_any (last := la) (now := no) (n := tl.length) (RowS.below I12.out.row hb) (RowS.below RW12.out hb) (by omega))
          have HC1' := fun W (hb : Below w12.heap.size w12 W) => HC1 W (RowS.below I12.out.row hb)
          have HC2' := fun W (hb : Below w12.heap.size w12 W) => HC2 W (RowS.below I12.out.row hb)
          have HO1' := fun W (hb : Below w12.heap.size w12 W) => HO1 W (RowS.below I12.out.row hb)
          have HO2' := fun W (hb : Below w12.heap.size w12 W) => HO2 W (RowS.below I12.out.row hb)
          have HX1' := fun W (hb : Below w12.heap.size w12 W) => HX1 W (RowS.below I12.out.row hb) (Row.below RK12.out hb)
          have HX2' := fun W (hb : Below w12.heap.size w12 W) => HX2 W (RowS.below I12.out.row hb) (Row.below RK12.out hb)
          have hSI := fun (W : World) (D1 D2 : Option Addr) (k1 k2 : Nat) (h1 : Row ci W D1 ol.length k1 ol) (h2 : Row ci W D2 ol.length k2 ol) => Lib.hid (sameInts_any h1 h2 (by omega))
          have J0 : Hid (Below w12.heap.size w12 w12.drew) := (Below.refl _ w12).drew
          clear HC1 HC2 HO1 HO2 HX1 HX2
          refine wp_region_held_drew (S := fun W => (W.cell? ⟨w.heap.size, 0, none⟩ = some (.int .i64 la) ∧ W.cell? ⟨w.heap.size, 1, none⟩ = some (.int .i64 no) ∧ W.cell? ⟨w.heap.size, 2, none⟩ = some (.slice B tl.length d)) ∧ (W.cell? ⟨gw, 0, none⟩ = some (.int .i64 la) ∧ W.cell? ⟨gw, 1, none⟩ = some (.int .i64 no) ∧ W.cell? ⟨gw, 2, none⟩ = some (.slice CB tl.length cd)) ∧ (W.cell? ⟨gu, 0, none⟩ = some (.int .i64 lu) ∧ W.cell? ⟨gu, 1, none⟩ = some (.int .i64 nu) ∧ W.cell? ⟨gu, 2, none⟩ = some (.slice AU ul.length cu)) ∧ (W.cell? ⟨gv, 0, none⟩ = some (.int .i64 lu) ∧ W.cell? ⟨gv, 1, none⟩ = some (.int .i64 nu) ∧ W.cell? ⟨gv, 2, none⟩ = some (.slice AV ul.length cv)) ∧ W.cell? ⟨go, 2, none⟩ = some (.int .i64 o.b))
            (by kernel_rfl) (HS _ J0.out) (fun hHeld => ?_)
          generalize w12.drew = v0 at *
          (first | (refine Reg.take 0 (v := ?_) rfl (by kernel_rfl) (by kernel_rfl) (by kernel_rfl) (fun _ _ _ h => h) (Or.inl ⟨by rfl, ?_⟩) (by assumption) ?_; rotate_left; (focus ((intro W hSW); (try dsimp only at hSW); (try go_split_ands); go_simp; (try (with_reducible rfl)); done))) | (refine Reg.take 0 (v := undef) rfl (by kernel_rfl) (by kernel_rfl) (by kernel_rfl) (fun _ _ _ h => h) (Or.inr ⟨by rfl, rfl⟩) (by assumption) ?_))
          (try simp only [Act.put, List.setIfInBounds_toArray, List.set_cons_zero, List.set_cons_succ])
          (first | (refine Reg.take 1 (v := ?_) rfl (by kernel_rfl) (by kernel_rfl) (by kernel_rfl) (fun _ _ _ h => h) (Or.inl ⟨by rfl, ?_⟩) (by assumption) ?_; rotate_left; (focus ((intro W hSW); (try dsimp only at hSW); (try go_split_ands); go_simp; (try (with_reducible rfl)); done))) | (refine Reg.take 1 (v := undef) rfl (by kernel_rfl) (by kernel_rfl) (by kernel_rfl) (fun _ _ _ h => h) (Or.inr ⟨by rfl, rfl⟩) (by assumption) ?_))
          (try simp only [Act.put, List.setIfInBounds_toArray, List.set_cons_zero, List.set_cons_succ])
          refine Reg.step 2 rfl (by kernel_rfl) (by rfl) (fun K hK => ?_)
          go_simp
          refine (HSA v0 J0.out).out.mono ?_
          rintro e v1 ⟨rfl, hb⟩
          have J1 := Lib.hid (J0.out.trans (hb.mono J0.out.size))
          refine hK.out _ _ (HS _ J1.out) (fun hHeld => ?_)
          clear hK K
          (try simp only [Act.put, List.setIfInBounds_toArray, List.set_cons_zero, List.set_cons_succ])
          (first | (refine Reg.take 3 (v := ?_) rfl (by kernel_rfl) (by kernel_rfl) (by kernel_rfl) (fun _ _ _ h => h) (Or.inl ⟨by rfl, ?_⟩) (by assumption) ?_; rotate_left; (focus ((intro W hSW); (try dsimp only at hSW); (try go_split_ands); go_simp; (try (with_reducible rfl)); done))) | (refine Reg.take 3 (v := undef) rfl (by kernel_rfl) (by kernel_rfl) (by kernel_rfl) (fun _ _ _ h => h) (Or.inr ⟨by rfl, rfl⟩) (by assumption) ?_))
          (try simp only [Act.put, List.setIfInBounds_toArray, List.set_cons_zero, List.set_cons_succ])
          (first | (refine Reg.take 4 (v := ?_) rfl (by kernel_rfl) (by kernel_rfl) (by kernel_rfl) (fun _ _ _ h => h) (Or.inl ⟨by rfl, ?_⟩) (by assumption) ?_; rotate_left; (focus ((intro W hSW); (try dsimp only at hSW); (try go_split_ands); go_simp; (try (with_reducible rfl)); done))) | (refine Reg.take 4 (v := undef) rfl (by kernel_rfl) (by kernel_rfl) (by kernel_rfl) (fun _ _ _ h => h) (Or.inr ⟨by rfl, rfl⟩) (by assumption) ?_))
          (try simp only [Act.put, List.setIfInBounds_toArray, List.set_cons_zero, List.set_cons_succ])
          (first | (refine Reg.take 5 (v := ?_) rfl (by kernel_rfl) (by kernel_rfl) (by kernel_rfl) (fun _ _ _ h => h) (Or.inl ⟨by rfl, ?_⟩) (by assumption) ?_; rotate_left; (focus ((intro W hSW); (try dsimp only at hSW); (try go_split_ands); go_simp; (try (with_reducible rfl)); done))) | (refine Reg.take 5 (v := undef) rfl (by kernel_rfl) (by kernel_rfl) (by kernel_rfl) (fun _ _ _ h => h) (Or.inr ⟨by rfl, rfl⟩) (by assumption) ?_))
          (try simp only [Act.put, List.setIfInBounds_toArray, List.set_cons_zero, List.set_cons_succ])
          (first | (refine Reg.take 6 (v := ?_) rfl (by kernel_rfl) (by kernel_rfl) (by kernel_rfl) (fun _ _ _ h => h) (Or.inl ⟨by rfl, ?_⟩) (by assumption) ?_; rotate_left; (focus ((intro W hSW); (try dsimp only at hSW); (try go_split_ands); go_simp; (try (with_reducible rfl)); done))) | (refine Reg.take 6 (v := undef) rfl (by kernel_rfl) (by kernel_rfl) (by kernel_rfl) (fun _ _ _ h => h) (Or.inr ⟨by rfl, rfl⟩) (by assumption) ?_))
          (try simp only [Act.put, List.setIfInBounds_toArray, List.set_cons_zero, List.set_cons_succ])
          refine Reg.step 7 rfl (by kernel_rfl) (by rfl) (fun K hK => ?_)
          go_simp
          refine (HSL v1 J1.out).out.mono ?_
          rintro e v2 ⟨rfl, hb⟩
          have J2 := Lib.hid (J1.out.trans (hb.mono J1.out.size))
          refine hK.out _ _ (HS _ J2.out) (fun hHeld => ?_)
          clear hK K
          (try simp only [Act.put, List.setIfInBounds_toArray, List.set_cons_zero, List.set_cons_succ])
          (first | (refine Reg.take 8 (v := ?_) rfl (by kernel_rfl) (by kernel_rfl) (by kernel_rfl) (fun _ _ _ h => h) (Or.inl ⟨by rfl, ?_⟩) (by assumption) ?_; rotate_left; (focus ((intro W hSW); (try dsimp only at hSW); (try go_split_ands); go_simp; (try (with_reducible rfl)); done))) | (refine Reg.take 8 (v := undef) rfl (by kernel_rfl) (by kernel_rfl) (by kernel_rfl) (fun _ _ _ h => h) (Or.inr ⟨by rfl, rfl⟩) (by assumption) ?_))
          (try simp only [Act.put, List.setIfInBounds_toArray, List.set_cons_zero, List.set_cons_succ])
          (first | (refine Reg.take 9 (v := ?_) rfl (by kernel_rfl) (by kernel_rfl) (by kernel_rfl) (fun _ _ _ h => h) (Or.inl ⟨by rfl, ?_⟩) (by assumption) ?_; rotate_left; (focus ((intro W hSW); (try dsimp only at hSW); (try go_split_ands); go_simp; (try (with_reducible rfl)); done))) | (refine Reg.take 9 (v := undef) rfl (by kernel_rfl) (by kernel_rfl) (by kernel_rfl) (fun _ _ _ h => h) (Or.inr ⟨by rfl, rfl⟩) (by assumption) ?_))
          (try simp only [Act.put, List.setIfInBounds_toArray, List.set_cons_zero, List.set_cons_succ])
          (first | (refine Reg.take 10 (v := ?_) rfl (by kernel_rfl) (by kernel_rfl) (by kernel_rfl) (fun _ _ _ h => h) (Or.inl ⟨by rfl, ?_⟩) (by assumption) ?_; rotate_left; (focus ((intro W hSW); (try dsimp only at hSW); (try go_split_ands); go_simp; (try (with_reducible rfl)); done))) | (refine Reg.take 10 (v := undef) rfl (by kernel_rfl) (by kernel_rfl) (by kernel_rfl) (fun _ _ _ h => h) (Or.inr ⟨by rfl, rfl⟩) (by assumption) ?_))
          (try simp only [Act.put, List.setIfInBounds_toArray, List.set_cons_zero, List.set_cons_succ])
          (first | (refine Reg.take 11 (v := ?_) rfl (by kernel_rfl) (by kernel_rfl) (by kernel_rfl) (fun _ _ _ h => h) (Or.inl ⟨by rfl, ?_⟩) (by assumption) ?_; rotate_left; (focus ((intro W hSW); (try dsimp only at hSW); (try go_split_ands); go_simp; (try (with_reducible rfl)); done))) | (refine Reg.take 11 (v := undef) rfl (by kernel_rfl) (by kernel_rfl) (by kernel_rfl) (fun _ _ _ h => h) (Or.inr ⟨by rfl, rfl⟩) (by assumption) ?_))
          (try simp only [Act.put, List.setIfInBounds_toArray, List.set_cons_zero, List.set_cons_succ])
          (first | (refine Reg.take 12 (v := ?_) rfl (by kernel_rfl) (by kernel_rfl) (by kernel_rfl) (fun _ _ _ h => h) (Or.inl ⟨by rfl, ?_⟩) (by assumption) ?_; rotate_left; (focus ((intro W hSW); (try dsimp only at hSW); (try go_split_ands); go_simp; (try (with_reducible rfl)); done))) | (refine Reg.take 12 (v := undef) rfl (by kernel_rfl) (by kernel_rfl) (by kernel_rfl) (fun _ _ _ h => h) (Or.inr ⟨by rfl, rfl⟩) (by assumption) ?_))
          (try simp only [Act.put, List.setIfInBounds_toArray, List.set_cons_zero, List.set_cons_succ])
          (first | (refine Reg.take 13 (v := ?_) rfl (by kernel_rfl) (by kernel_rfl) (by kernel_rfl) (fun _ _ _ h => h) (Or.inl ⟨by rfl, ?_⟩) (by assumption) ?_; rotate_left; (focus ((intro W hSW); (try dsimp only at hSW); (try go_split_ands); go_simp; (try (with_reducible rfl)); done))) | (refine Reg.take 13 (v := undef) rfl (by kernel_rfl) (by kernel_rfl) (by kernel_rfl) (fun _ _ _ h => h) (Or.inr ⟨by rfl, rfl⟩) (by assumption) ?_))
          (try simp only [Act.put, List.setIfInBounds_toArray, List.set_cons_zero, List.set_cons_succ])
          (first | (refine Reg.take 14 (v := ?_) rfl (by kernel_rfl) (by kernel_rfl) (by kernel_rfl) (fun _ _ _ h => h) (Or.inl ⟨by rfl, ?_⟩) (by assumption) ?_; rotate_left; (focus ((intro W hSW); (try dsimp only at hSW); (try go_split_ands); go_simp; (try (with_reducible rfl)); done))) | (refine Reg.take 14 (v := undef) rfl (by kernel_rfl) (by kernel_rfl) (by kernel_rfl) (fun _ _ _ h => h) (Or.inr ⟨by rfl, rfl⟩) (by assumption) ?_))
          (try simp only [Act.put, List.setIfInBounds_toArray, List.set_cons_zero, List.set_cons_succ])
          (first | (refine Reg.take 15 (v := ?_) rfl (by kernel_rfl) (by kernel_rfl) (by kernel_rfl) (fun _ _ _ h => h) (Or.inl ⟨by rfl, ?_⟩) (by assumption) ?_; rotate_left; (focus ((intro W hSW); (try dsimp only at hSW); (try go_split_ands); go_simp; (try (with_reducible rfl)); done))) | (refine Reg.take 15 (v := undef) rfl (by kernel_rfl) (by kernel_rfl) (by kernel_rfl) (fun _ _ _ h => h) (Or.inr ⟨by rfl, rfl⟩) (by assumption) ?_))
          (try simp only [Act.put, List.setIfInBounds_toArray, List.set_cons_zero, List.set_cons_succ])
          (first | (refine Reg.take 16 (v := ?_) rfl (by kernel_rfl) (by kernel_rfl) (by kernel_rfl) (fun _ _ _ h => h) (Or.inl ⟨by rfl, ?_⟩) (by assumption) ?_; rotate_left; (focus ((intro W hSW); (try dsimp only at hSW); (try go_split_ands); go_simp; (try (with_reducible rfl)); done))) | (refine Reg.take 16 (v := undef) rfl (by kernel_rfl) (by kernel_rfl) (by kernel_rfl) (fun _ _ _ h => h) (Or.inr ⟨by rfl, rfl⟩) (by assumption) ?_))
          (try simp only [Act.put, List.setIfInBounds_toArray, List.set_cons_zero, List.set_cons_succ])
          (first | (refine Reg.take 17 (v := ?_) rfl (by kernel_rfl) (by kernel_rfl) (by kernel_rfl) (fun _ _ _ h => h) (Or.inl ⟨by rfl, ?_⟩) (by assumption) ?_; rotate_left; (focus ((intro W hSW); (try dsimp only at hSW); (try go_split_ands); go_simp; (try (with_reducible rfl)); done))) | (refine Reg.take 17 (v := undef) rfl (by kernel_rfl) (by kernel_rfl) (by kernel_rfl) (fun _ _ _ h => h) (Or.inr ⟨by rfl, rfl⟩) (by assumption) ?_))
          (try simp only [Act.put, List.setIfInBounds_toArray, List.set_cons_zero, List.set_cons_succ])
          refine Reg.step 18 rfl (by kernel_rfl) (by rfl) (fun K hK => ?_)
          go_simp
          refine (HSB v2 J2.out).out.mono ?_
          rintro e v3 ⟨rfl, hb⟩
          have J3 := Lib.hid (J2.out.trans (hb.mono J2.out.size))
          refine hK.out _ _ (HS _ J3.out) (fun hHeld => ?_)
          clear hK K
          (try simp only [Act.put, List.setIfInBounds_toArray, List.set_cons_zero, List.set_cons_succ])
          (first | (refine Reg.take 19 (v := ?_) rfl (by kernel_rfl) (by kernel_rfl) (by kernel_rfl) (fun _ _ _ h => h) (Or.inl ⟨by rfl, ?_⟩) (by assumption) ?_; rotate_left; (focus ((intro W hSW); (try dsimp only at hSW); (try go_split_ands); go_simp; (try (with_reducible rfl)); done))) | (refine Reg.take 19 (v := undef) rfl (by kernel_rfl) (by kernel_rfl) (by kernel_rfl) (fun _ _ _ h => h) (Or.inr ⟨by rfl, rfl⟩) (by assumption) ?_))
          (try simp only [Act.put, List.setIfInBounds_toArray, List.set_cons_zero, List.set_cons_succ])
          (first | (refine Reg.take 20 (v := ?_) rfl (by kernel_rfl) (by kernel_rfl) (by kernel_rfl) (fun _ _ _ h => h) (Or.inl ⟨by rfl, ?_⟩) (by assumption) ?_; rotate_left; (focus ((intro W hSW); (try dsimp only at hSW); (try go_split_ands); go_simp; (try (with_reducible rfl)); done))) | (refine Reg.take 20 (v := undef) rfl (by kernel_rfl) (by kernel_rfl) (by kernel_rfl) (fun _ _ _ h => h) (Or.inr ⟨by rfl, rfl⟩) (by assumption) ?_))
          (try simp only [Act.put, List.setIfInBounds_toArray, List.set_cons_zero, List.set_cons_succ])
          (first | (refine Reg.take 21 (v := ?_) rfl (by kernel_rfl) (by kernel_rfl) (by kernel_rfl) (fun _ _ _ h => h) (Or.inl ⟨by rfl, ?_⟩) (by assumption) ?_; rotate_left; (focus ((intro W hSW); (try dsimp only at hSW); (try go_split_ands); go_simp; (try (with_reducible rfl)); done))) | (refine Reg.take 21 (v := undef) rfl (by kernel_rfl) (by kernel_rfl) (by kernel_rfl) (fun _ _ _ h => h) (Or.inr ⟨by rfl, rfl⟩) (by assumption) ?_))
          (try simp only [Act.put, List.setIfInBounds_toArray, List.set_cons_zero, List.set_cons_succ])
          (first | (refine Reg.take 22 (v := ?_) rfl (by kernel_rfl) (by kernel_rfl) (by kernel_rfl) (fun _ _ _ h => h) (Or.inl ⟨by rfl, ?_⟩) (by assumption) ?_; rotate_left; (focus ((intro W hSW); (try dsimp only at hSW); (try go_split_ands); go_simp; (try (with_reducible rfl)); done))) | (refine Reg.take 22 (v := undef) rfl (by kernel_rfl) (by kernel_rfl) (by kernel_rfl) (fun _ _ _ h => h) (Or.inr ⟨by rfl, rfl⟩) (by assumption) ?_))
          (try simp only [Act.put, List.setIfInBounds_toArray, List.set_cons_zero, List.set_cons_succ])
          (first | (refine Reg.take 24 (v := ?_) rfl (by kernel_rfl) (by kernel_rfl) (by kernel_rfl) (fun _ _ _ h => h) (Or.inl ⟨by rfl, ?_⟩) (by assumption) ?_; rotate_left; (focus ((intro W hSW); (try dsimp only at hSW); (try go_split_ands); go_simp; (try (with_reducible rfl)); done))) | (refine Reg.take 24 (v := undef) rfl (by kernel_rfl) (by kernel_rfl) (by kernel_rfl) (fun _ _ _ h => h) (Or.inr ⟨by rfl, rfl⟩) (by assumption) ?_))
          (try simp only [Act.put, List.setIfInBounds_toArray, List.set_cons_zero, List.set_cons_succ])
          refine Reg.step 23 rfl (by kernel_rfl) (by rfl) (fun K hK => ?_)
          go_simp
          refine (HC1' v3 J3.out).out.mono ?_
          rintro e v4 ⟨rfl, hb⟩
          have J4 := Lib.hid (J3.out.trans (hb.mono J3.out.size))
          refine hK.out _ _ (HS _ J4.out) (fun hHeld => ?_)
          clear hK K
          (try simp only [Act.put, List.setIfInBounds_toArray, List.set_cons_zero, List.set_cons_succ])
          refine Reg.step 25 rfl (by kernel_rfl) (by rfl) (fun K hK => ?_)
          go_simp
          refine (HC2' v4 J4.out).out.mono ?_
          rintro e v5 ⟨rfl, hb⟩
          have J5 := Lib.hid (J4.out.trans (hb.mono J4.out.size))
          refine hK.out _ _ (HS _ J5.out) (fun hHeld => ?_)
          clear hK K
          (try simp only [Act.put, List.setIfInBounds_toArray, List.set_cons_zero, List.set_cons_succ])
          (first | (refine Reg.take 26 (v := ?_) rfl (by kernel_rfl) (by kernel_rfl) (by kernel_rfl) (fun _ _ _ h => h) (Or.inl ⟨by rfl, ?_⟩) (by assumption) ?_; rotate_left; (focus ((intro W hSW); (try dsimp only at hSW); (try go_split_ands); go_simp; (try (with_reducible rfl)); done))) | (refine Reg.take 26 (v := undef) rfl (by kernel_rfl) (by kernel_rfl) (by kernel_rfl) (fun _ _ _ h => h) (Or.inr ⟨by rfl, rfl⟩) (by assumption) ?_))
          (try simp only [Act.put, List.setIfInBounds_toArray, List.set_cons_zero, List.set_cons_succ])
          (first | (refine Reg.take 27 (v := ?_) rfl (by kernel_rfl) (by kernel_rfl) (by kernel_rfl) (fun _ _ _ h => h) (Or.inl ⟨by rfl, ?_⟩) (by assumption) ?_; rotate_left; (focus ((intro W hSW); (try dsimp only at hSW); (try go_split_ands); go_simp; (try (with_reducible rfl)); done))) | (refine Reg.take 27 (v := undef) rfl (by kernel_rfl) (by kernel_rfl) (by kernel_rfl) (fun _ _ _ h => h) (Or.inr ⟨by rfl, rfl⟩) (by assumption) ?_))
          (try simp only [Act.put, List.setIfInBounds_toArray, List.set_cons_zero, List.set_cons_succ])
          (first | (refine Reg.take 28 (v := ?_) rfl (by kernel_rfl) (by kernel_rfl) (by kernel_rfl) (fun _ _ _ h => h) (Or.inl ⟨by rfl, ?_⟩) (by assumption) ?_; rotate_left; (focus ((intro W hSW); (try dsimp only at hSW); (try go_split_ands); go_simp; (try (with_reducible rfl)); done))) | (refine Reg.take 28 (v := undef) rfl (by kernel_rfl) (by kernel_rfl) (by kernel_rfl) (fun _ _ _ h => h) (Or.inr ⟨by rfl, rfl⟩) (by assumption) ?_))
          (try simp only [Act.put, List.setIfInBounds_toArray, List.set_cons_zero, List.set_cons_succ])
          (first | (refine Reg.take 29 (v := ?_) rfl (by kernel_rfl) (by kernel_rfl) (by kernel_rfl) (fun _ _ _ h => h) (Or.inl ⟨by rfl, ?_⟩) (by assumption) ?_; rotate_left; (focus ((intro W hSW); (try dsimp only at hSW); (try go_split_ands); go_simp; (try (with_reducible rfl)); done))) | (refine Reg.take 29 (v := undef) rfl (by kernel_rfl) (by kernel_rfl) (by kernel_rfl) (fun _ _ _ h => h) (Or.inr ⟨by rfl, rfl⟩) (by assumption) ?_))
          (try simp only [Act.put, List.setIfInBounds_toArray, List.set_cons_zero, List.set_cons_succ])
          (first | (refine Reg.take 30 (v := ?_) rfl (by kernel_rfl) (by kernel_rfl) (by kernel_rfl) (fun _ _ _ h => h) (Or.inl ⟨by rfl, ?_⟩) (by assumption) ?_; rotate_left; (focus ((intro W hSW); (try dsimp only at hSW); (try go_split_ands); go_simp; (try (with_reducible rfl)); done))) | (refine Reg.take 30 (v := undef) rfl (by kernel_rfl) (by kernel_rfl) (by kernel_rfl) (fun _ _ _ h => h) (Or.inr ⟨by rfl, rfl⟩) (by assumption) ?_))
          (try simp only [Act.put, List.setIfInBounds_toArray, List.set_cons_zero, List.set_cons_succ])
          (first | (refine Reg.take 31 (v := ?_) rfl (by kernel_rfl) (by kernel_rfl) (by kernel_rfl) (fun _ _ _ h => h) (Or.inl ⟨by rfl, ?_⟩) (by assumption) ?_; rotate_left; (focus ((intro W hSW); (try dsimp only at hSW); (try go_split_ands); go_simp; (try (with_reducible rfl)); done))) | (refine Reg.take 31 (v := undef) rfl (by kernel_rfl) (by kernel_rfl) (by kernel_rfl) (fun _ _ _ h => h) (Or.inr ⟨by rfl, rfl⟩) (by assumption) ?_))
          (try simp only [Act.put, List.setIfInBounds_toArray, List.set_cons_zero, List.set_cons_succ])
          (first | (refine Reg.take 33 (v := ?_) rfl (by kernel_rfl) (by kernel_rfl) (by kernel_rfl) (fun _ _ _ h => h) (Or.inl ⟨by rfl, ?_⟩) (by assumption) ?_; rotate_left; (focus ((intro W hSW); (try dsimp only at hSW); (try go_split_ands); go_simp; (try (with_reducible rfl)); done))) | (refine Reg.take 33 (v := undef) rfl (by kernel_rfl) (by kernel_rfl) (by kernel_rfl) (fun _ _ _ h => h) (Or.inr ⟨by rfl, rfl⟩) (by assumption) ?_))
          (try simp only [Act.put, List.setIfInBounds_toArray, List.set_cons_zero, List.set_cons_succ])
          (first | (refine Reg.take 34 (v := ?_) rfl (by kernel_rfl) (by kernel_rfl) (by kernel_rfl) (fun _ _ _ h => h) (Or.inl ⟨by rfl, ?_⟩) (by assumption) ?_; rotate_left; (focus ((intro W hSW); (try dsimp only at hSW); (try go_split_ands); go_simp; (try (with_reducible rfl)); done))) | (refine Reg.take 34 (v := undef) rfl (by kernel_rfl) (by kernel_rfl) (by kernel_rfl) (fun _ _ _ h => h) (Or.inr ⟨by rfl, rfl⟩) (by assumption) ?_))
          (try simp only [Act.put, List.setIfInBounds_toArray, List.set_cons_zero, List.set_cons_succ])
          (first | (refine Reg.take 35 (v := ?_) rfl (by kernel_rfl) (by kernel_rfl) (by kernel_rfl) (fun _ _ _ h => h) (Or.inl ⟨by rfl, ?_⟩) (by assumption) ?_; rotate_left; (focus ((intro W hSW); (try dsimp only at hSW); (try go_split_ands); go_simp; (try (with_reducible rfl)); done))) | (refine Reg.take 35 (v := undef) rfl (by kernel_rfl) (by kernel_rfl) (by kernel_rfl) (fun _ _ _ h => h) (Or.inr ⟨by rfl, rfl⟩) (by assumption) ?_))
          (try simp only [Act.put, List.setIfInBounds_toArray, List.set_cons_zero, List.set_cons_succ])
          refine Reg.step 32 rfl (by kernel_rfl) (by rfl) (fun K hK => ?_)
          go_simp
          refine (HO1' v5 J5.out).out.mono ?_
          rintro e v6 ⟨D32, k32, rfl, hr, hb⟩
          have J6 := Lib.hid (J5.out.trans (hb.mono J5.out.size))
          have R32x6 := Lib.hid hr
          clear hr
          refine hK.out _ _ (HS _ J6.out) (fun hHeld => ?_)
          clear hK K
          (try simp only [Act.put, List.setIfInBounds_toArray, List.set_cons_zero, List.set_cons_succ])
          refine Reg.step 36 rfl (by kernel_rfl) (by rfl) (fun K hK => ?_)
          go_simp
          refine (HO2' v6 J6.out).out.mono ?_
          rintro e v7 ⟨D36, k36, rfl, hr, hb⟩
          have J7 := Lib.hid (J6.out.trans (hb.mono J6.out.size))
          have R32x7 := Lib.hid (Row.below R32x6.out hb)
          have R36x7 := Lib.hid hr
          clear hr
          refine hK.out _ _ (HS _ J7.out) (fun hHeld => ?_)
          clear hK K
          (try simp only [Act.put, List.setIfInBounds_toArray, List.set_cons_zero, List.set_cons_succ])
          refine Reg.step 37 rfl (by kernel_rfl) (by rfl) (fun K hK => ?_)
          go_simp
          refine (hSI v7 D32 D36 k32 k36 R32x7.out R36x7.out).out.mono ?_
          rintro e v8 ⟨rfl, hb⟩
          have J8 := Lib.hid (J7.out.trans (hb.mono J7.out.size))
          have R32x8 := Lib.hid (Row.below R32x7.out hb)
          have R36x8 := Lib.hid (Row.below R36x7.out hb)
          refine hK.out _ _ (HS _ J8.out) (fun hHeld => ?_)
          clear hK K
          (try simp only [Act.put, List.setIfInBounds_toArray, List.set_cons_zero, List.set_cons_succ])
          (first | (refine Reg.take 38 (v := ?_) rfl (by kernel_rfl) (by kernel_rfl) (by kernel_rfl) (fun _ _ _ h => h) (Or.inl ⟨by rfl, ?_⟩) (by assumption) ?_; rotate_left; (focus ((intro W hSW); (try dsimp only at hSW); (try go_split_ands); go_simp; (try (with_reducible rfl)); done))) | (refine Reg.take 38 (v := undef) rfl (by kernel_rfl) (by kernel_rfl) (by kernel_rfl) (fun _ _ _ h => h) (Or.inr ⟨by rfl, rfl⟩) (by assumption) ?_))
          (try simp only [Act.put, List.setIfInBounds_toArray, List.set_cons_zero, List.set_cons_succ])
          (first | (refine Reg.take 39 (v := ?_) rfl (by kernel_rfl) (by kernel_rfl) (by kernel_rfl) (fun _ _ _ h => h) (Or.inl ⟨by rfl, ?_⟩) (by assumption) ?_; rotate_left; (focus ((intro W hSW); (try dsimp only at hSW); (try go_split_ands); go_simp; (try (with_reducible rfl)); done))) | (refine Reg.take 39 (v := undef) rfl (by kernel_rfl) (by kernel_rfl) (by kernel_rfl) (fun _ _ _ h => h) (Or.inr ⟨by rfl, rfl⟩) (by assumption) ?_))
          (try simp only [Act.put, List.setIfInBounds_toArray, List.set_cons_zero, List.set_cons_succ])
          (first | (refine Reg.take 40 (v := ?_) rfl (by kernel_rfl) (by kernel_rfl) (by kernel_rfl) (fun _ _ _ h => h) (Or.inl ⟨by rfl, ?_⟩) (by assumption) ?_; rotate_left; (focus ((intro W hSW); (try dsimp only at hSW); (try go_split_ands); go_simp; (try (with_reducible rfl)); done))) | (refine Reg.take 40 (v := undef) rfl (by kernel_rfl) (by kernel_rfl) (by kernel_rfl) (fun _ _ _ h => h) (Or.inr ⟨by rfl, rfl⟩) (by assumption) ?_))
          (try simp only [Act.put, List.setIfInBounds_toArray, List.set_cons_zero, List.set_cons_succ])
          (first | (refine Reg.take 41 (v := ?_) rfl (by kernel_rfl) (by kernel_rfl) (by kernel_rfl) (fun _ _ _ h => h) (Or.inl ⟨by rfl, ?_⟩) (by assumption) ?_; rotate_left; (focus ((intro W hSW); (try dsimp only at hSW); (try go_split_ands); go_simp; (try (with_reducible rfl)); done))) | (refine Reg.take 41 (v := undef) rfl (by kernel_rfl) (by kernel_rfl) (by kernel_rfl) (fun _ _ _ h => h) (Or.inr ⟨by rfl, rfl⟩) (by assumption) ?_))
          (try simp only [Act.put, List.setIfInBounds_toArray, List.set_cons_zero, List.set_cons_succ])
          (first | (refine Reg.take 42 (v := ?_) rfl (by kernel_rfl) (by kernel_rfl) (by kernel_rfl) (fun _ _ _ h => h) (Or.inl ⟨by rfl, ?_⟩) (by assumption) ?_; rotate_left; (focus ((intro W hSW); (try dsimp only at hSW); (try go_split_ands); go_simp; (try (with_reducible rfl)); done))) | (refine Reg.take 42 (v := undef) rfl (by kernel_rfl) (by kernel_rfl) (by kernel_rfl) (fun _ _ _ h => h) (Or.inr ⟨by rfl, rfl⟩) (by assumption) ?_))
          (try simp only [Act.put, List.setIfInBounds_toArray, List.set_cons_zero, List.set_cons_succ])
          (first | (refine Reg.take 44 (v := ?_) rfl (by kernel_rfl) (by kernel_rfl) (by kernel_rfl) (fun _ _ _ h => h) (Or.inl ⟨by rfl, ?_⟩) (by assumption) ?_; rotate_left; (focus ((intro W hSW); (try dsimp only at hSW); (try go_split_ands); go_simp; (try (with_reducible rfl)); done))) | (refine Reg.take 44 (v := undef) rfl (by kernel_rfl) (by kernel_rfl) (by kernel_rfl) (fun _ _ _ h => h) (Or.inr ⟨by rfl, rfl⟩) (by assumption) ?_))
          (try simp only [Act.put, List.setIfInBounds_toArray, List.set_cons_zero, List.set_cons_succ])
          (first | (refine Reg.take 45 (v := ?_) rfl (by kernel_rfl) (by kernel_rfl) (by kernel_rfl) (fun _ _ _ h => h) (Or.inl ⟨by rfl, ?_⟩) (by assumption) ?_; rotate_left; (focus ((intro W hSW); (try dsimp only at hSW); (try go_split_ands); go_simp; (try (with_reducible rfl)); done))) | (refine Reg.take 45 (v := undef) rfl (by kernel_rfl) (by kernel_rfl) (by kernel_rfl) (fun _ _ _ h => h) (Or.inr ⟨by rfl, rfl⟩) (by assumption) ?_))
          (try simp only [Act.put, List.setIfInBounds_toArray, List.set_cons_zero, List.set_cons_succ])
          refine Reg.step 43 rfl (by kernel_rfl) (by rfl) (fun K hK => ?_)
          go_simp
          refine (HX1' v8 J8.out).out.mono ?_
          rintro e v9 ⟨rfl, hb⟩
          have J9 := Lib.hid (J8.out.trans (hb.mono J8.out.size))
          have R32x9 := Lib.hid (Row.below R32x8.out hb)
          have R36x9 := Lib.hid (Row.below R36x8.out hb)
          refine hK.out _ _ (HS _ J9.out) (fun hHeld => ?_)
          clear hK K
          (try simp only [Act.put, List.setIfInBounds_toArray, List.set_cons_zero, List.set_cons_succ])
          refine Reg.step 46 rfl (by kernel_rfl) (by rfl) (fun K hK => ?_)
          go_simp
          refine (HX2' v9 J9.out).out.mono ?_
          rintro e v10 ⟨rfl, hb⟩
          have J10 := Lib.hid (J9.out.trans (hb.mono J9.out.size))
          have R32x10 := Lib.hid (Row.below R32x9.out hb)
          have R36x10 := Lib.hid (Row.below R36x9.out hb)
          refine hK.out _ _ (HS _ J10.out) (fun hHeld => ?_)
          clear hK K
          (try simp only [Act.put, List.setIfInBounds_toArray, List.set_cons_zero, List.set_cons_succ])
          (first | (refine Reg.take 47 (v := ?_) rfl (by kernel_rfl) (by kernel_rfl) (by kernel_rfl) (fun _ _ _ h => h) (Or.inl ⟨by rfl, ?_⟩) (by assumption) ?_; rotate_left; (focus ((intro W hSW); (try dsimp only at hSW); (try go_split_ands); go_simp; (try (with_reducible rfl)); done))) | (refine Reg.take 47 (v := undef) rfl (by kernel_rfl) (by kernel_rfl) (by kernel_rfl) (fun _ _ _ h => h) (Or.inr ⟨by rfl, rfl⟩) (by assumption) ?_))
          (try simp only [Act.put, List.setIfInBounds_toArray, List.set_cons_zero, List.set_cons_succ])
          (first | (refine Reg.take 48 (v := ?_) rfl (by kernel_rfl) (by kernel_rfl) (by kernel_rfl) (fun _ _ _ h => h) (Or.inl ⟨by rfl, ?_⟩) (by assumption) ?_; rotate_left; (focus ((intro W hSW); (try dsimp only at hSW); (try go_split_ands); go_simp; (try (with_reducible rfl)); done))) | (refine Reg.take 48 (v := undef) rfl (by kernel_rfl) (by kernel_rfl) (by kernel_rfl) (fun _ _ _ h => h) (Or.inr ⟨by rfl, rfl⟩) (by assumption) ?_))
          (try simp only [Act.put, List.setIfInBounds_toArray, List.set_cons_zero, List.set_cons_succ])
          refine wpAnyH_done (by kernel_rfl) ?_ _
          go_wp2_with fail
          go_meet
          exact ⟨rfl, J10.out⟩
        case rest =>
          obtain ⟨rfl, hBc⟩ := hcut
          have I13 := Lib.hid (I12.out.to hBc.out)
          have U13 := Lib.hid (Cells.below U12.out hBc.out)
          have RU13 := Lib.hid (RowS.below RU12.out hBc.out)
          clear hBc I12 U12 RU12 O12 W12 RW12 V12 RV12 RX12 RY12 RK12 HC1 HC2 HO1 HO2 HX1 HX2
          rcases ee : (er == 0)
          · go_wp2_with fail
            go_roundg (m - j)
            case measure => omega
            case rel => exact ⟨j + 1, la, no, tl, B, d, by omega, by go_num, by omega, I13.out.up⟩
          · have I14 : Hid (TI w (((wc.setCell ⟨w.heap.size, 0, none⟩ (.int .i64 lu)).setCell ⟨w.heap.size, 1, none⟩ (.int .i64 nu)).setCell ⟨w.heap.size, 2, none⟩ (.slice AU ul.length cu)) w.heap.size ⟨lu, nu, ul⟩ AU cu (j + 1)) := TI.store (t' := ⟨lu, nu, ul⟩) I13.out RU13.out (HBN.out (by simpa using ee))
            obtain ⟨m0, m1, m2⟩ := TBox.cells I13.out.box
            obtain ⟨f0, f1, f2⟩ := TBox.frozen I13.out.box
            obtain ⟨q0, q1, q2⟩ := TBox.cells U13.out
            clear I13 HBN
            go_wp2_with fail
            go_roundg (m - j)
            case measure => omega
            case rel => exact ⟨j + 1, lu, nu, ul, AU, cu, by omega, by go_num, by omega, I14.out⟩
    · obtain rfl : j = m := by omega
      go_wp2_with fail
      go_ret
      exact ⟨rfl, hI.out.below⟩
end Lea
end Go.Proofs.Ytehknenlifdchaa
