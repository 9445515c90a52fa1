/-
  SEVERAL TEXTS IN ONE FILE: ZnsActC, ZnsActD, ZnsActs, ZnsDo.
-/
import Derived.Test.YtedandbkdjmfhaaGreatJ05
import Derived.Test.YtedandbkdjmfhaaGreatJ04
import Derived.Maps.OwnOps
set_option linter.unusedSimpArgs false
set_option linter.unusedVariables false
/-
  A WALK OVER zns'S ACT tear. (Written by gen_acts.py.)
-/
namespace Go.Proofs.YtedandbkdjmfhaaGreat
open Go.RowKit Mem Zon
namespace Zns

set_option maxRecDepth 100000 in
set_option maxHeartbeats 12800000 in
theorem tear_act {k : Dk} {xs : List Zv} {w : World} {i : Nat} {v : Zv} {x : Cx} (h : Desk k xs w) (hv : xs[i]? = some v) (hc : CmdAt w x) (hzi : x.c.zone = (i : Int)) :
    Calls Tryz.prog 47 #[.pointer (some ⟨k.g, 0, none⟩), cxv x] w (Acted k w (tearP k.cap k.op k.ac (xs.map Zv.z) i x.c)) := by
  have H0 := Lib.hid h
  have hi0 : (0 : Int) ≤ (i : Int) := by omega
  have hi1 : (i : Int) < (k.n : Int) := by have := (List.getElem?_eq_some_iff.1 hv).1; have := h.len; omega
  obtain ⟨L1, C1, N1⟩ := act_new w x i
  have H1 := Lib.hid (h.below L1.out)
  have HV := Lib.hid hv
  have HA := Lib.hid (atI_of hv)
  have hcell := fun W (h : Desk k xs W) (hb : CBox W w.heap.size x.c.d i x.c.epoch x.c.off x.c.n x.B x.c.b.length x.k) => And.intro (And.intro h.cells.1 h.cells.2.2.2.1) (And.intro (CBox.cells hb).2 (h.elem hv))
  have RB := Lib.hid hc.row
  have HC := fun w (h : Row cb w v.D v.z.data.length v.c v.z.data) (h2 : Row cb w x.B x.c.b.length x.k x.c.b) => Lib.hid (append_any (most := k.cap) h h2)
  have HT := fun w (h : Row cb w v.D v.z.data.length v.c v.z.data) (h2 : Row cb w x.B x.c.b.length x.k x.c.b) => Lib.hid (torn_any (most := k.cap) (keep := x.c.n) h h2)
  have HTC := fun w (h : Desk k xs w) => Lib.hid (toClose_any h hv)
  have HP := fun w (z : Zn) D c (h : Desk k xs w) (hr : Row cb w D z.data.length c z.data) (hlo : Lo k.g D) => Lib.hid (putOpen_any z D c h hv hr hlo)
  have HZL1 : Hid ((appRes v.z k.cap x.c.b).data.length ≤ 140737488351232) := by
    have := appRes_small v.z k.cap x.c.b
    show _ ≤ _
    omega
  have HZL2 : Hid ((tornZ v.z k.cap x.c.b x.c.n).data.length ≤ 140737488351232) := by
    have := tornZ_small v.z k.cap x.c.b x.c.n
    show _ ≤ _
    omega
  clear h hv hc
  unfold cxv
  rw [hzi]
  have HPL := Lib.hid (show (bif appErr v.z k.cap x.c.b.length == 0 then
    (bif (toCl k.op k.ac (xs.map Zv.z) v.z).2 == 0 then
      (bif tornErr v.z k.cap x.c.b x.c.n == 0 then
        (bif x.c.n == 0 then (xs.map Zv.z, fail_ 0) else ((putO k.op k.ac (xs.map Zv.z) i (tornZ v.z k.cap x.c.b x.c.n)).1, fail_ (putO k.op k.ac (xs.map Zv.z) i (tornZ v.z k.cap x.c.b x.c.n)).2))
      else (xs.map Zv.z, fail_ (tornErr v.z k.cap x.c.b x.c.n)))
    else (xs.map Zv.z, fail_ (toCl k.op k.ac (xs.map Zv.z) v.z).2))
  else (xs.map Zv.z, fail_ (appErr v.z k.cap x.c.b.length))) = tearP k.cap k.op k.ac (xs.map Zv.z) i x.c by unfold tearP; rw [HA.out])
  generalize tearP k.cap k.op k.ac (xs.map Zv.z) i x.c = rr at *
  generalize appErr v.z k.cap x.c.b.length = er at *
  generalize appAt v.z k.cap x.c.b.length = at_ at *
  generalize tornErr v.z k.cap x.c.b x.c.n = te at *
  generalize (toCl k.op k.ac (xs.map Zv.z) v.z).1 = oc at *
  generalize (toCl k.op k.ac (xs.map Zv.z) v.z).2 = ce at *
  generalize tornZ v.z k.cap x.c.b x.c.n = zt at *
  generalize appRes v.z k.cap x.c.b = zz at *
  unfold zv GaveZ PutO at *
  go_enter Tryz.func47, Tryz.ntmps47
  go_upto_region 1 with fail
  generalize (w.alloc (.cells #[.int .i64 x.c.d, .int .i64 (i : Int), .int .i64 x.c.epoch, .int .i64 x.c.off, .int .i64 x.c.n, .slice x.B x.c.b.length x.k] 43)).alloc (.cells #[.int .i64 0, .int .i64 0, .slice none 0 0] 39) = w1 at *
  go_cut [7] (fun t wx => t = .int .i64 er ∧ Hid (Below w1.heap.size w1 wx))
  case first =>
    have HZL := HZL1
    have H2 : Hid (Desk k xs w1.drew) := H1.out.below (Below.refl _ w1).drew
    have C2 : Hid (CBox w1.drew w.heap.size x.c.d i x.c.epoch x.c.off x.c.n x.B x.c.b.length x.k) := C1
    have L2 : Hid (Below w1.heap.size w1 w1.drew) := (Below.refl _ w1).drew
    refine wp_region_held_drew (S := fun W => (W.cell? ⟨k.g, 0, none⟩ = some (.int .i64 k.cap) ∧ W.cell? ⟨k.g, 3, none⟩ = some (.slice (some ⟨k.q, k.o, none⟩) k.n k.c)) ∧ (W.cell? ⟨w.heap.size, 1, none⟩ = some (.int .i64 (i : Int)) ∧ W.cell? ⟨w.heap.size, 2, none⟩ = some (.int .i64 x.c.epoch) ∧ W.cell? ⟨w.heap.size, 3, none⟩ = some (.int .i64 x.c.off) ∧ W.cell? ⟨w.heap.size, 4, none⟩ = some (.int .i64 x.c.n) ∧ W.cell? ⟨w.heap.size, 5, none⟩ = some (.slice x.B x.c.b.length x.k)) ∧ (W.cell? ⟨k.q, k.o + i * 3, none⟩ = some (.int .i64 v.z.st) ∧ W.cell? ⟨k.q, k.o + i * 3 + 1, none⟩ = some (.int .i64 v.z.fc) ∧ W.cell? ⟨k.q, k.o + i * 3 + 2, none⟩ = some (.slice v.D v.z.data.length v.c)))
      (by kernel_rfl) (hcell _ H2.out C2.out) (fun hHeld => ?_)
    generalize w1.drew = w2 at *
    refine Reg.tk 0 rfl ?_
    refine Reg.tk 1 rfl ?_
    refine Reg.tk 2 rfl ?_
    refine Reg.tk 3 rfl ?_
    refine Reg.tk 4 rfl ?_
    refine Reg.tk 5 rfl ?_
    refine Reg.tk 6 rfl ?_
    refine Reg.tk 7 rfl ?_
    refine Reg.tk 8 rfl ?_
    refine Reg.tk 9 rfl ?_
    refine Reg.tk 10 rfl ?_
    refine Reg.tk 11 rfl ?_
    refine Reg.tk 12 rfl ?_
    refine Reg.tk 13 rfl ?_
    refine Reg.tk 14 rfl ?_
    refine Reg.tk 15 rfl ?_
    refine Reg.step2 16 21 rfl rfl (by kernel_rfl) (by rfl) (by rfl) (fun K hK => ?_) (fun K hK => ?_)
    · go_simp
      refine (HC w2 (H2.out.data_at HV.out) ((RB.out.below L1.out).below L2.out)).out.mono ?_
      rintro e w3 ⟨X, q, rfl, hX, hb⟩
      have LO := Lib.hid (lo_own hX (Nat.le_of_lt H2.out.g_lt))
      unfold zv
      have RX := Lib.hid hX
      have H3 := Lib.hid (H2.out.below hb)
      have C3 := Lib.hid (CBox.below C2.out hb)
      have L3 := Lib.hid (L2.out.trans (hb.mono L2.out.size))
      clear hX hb H2 C2 L2
      refine hK.out _ _ (hcell _ H3.out C3.out) (fun hHeld2 => ?_)
      clear hK K
      (try simp only [Act.put, List.setIfInBounds_toArray, List.set_cons_zero, List.set_cons_succ])
      refine Reg.tk 17 rfl ?_
      refine Reg.tk 18 rfl ?_
      refine Reg.tk 19 rfl ?_
      refine Reg.tk 20 rfl ?_
      refine Reg.step 21 rfl (by kernel_rfl) (by rfl) (fun K hK => ?_)
      go_simp
      have b4 : Below w3.heap.size w3 (w3.alloc (.cells #[.int .i64 0, .int .i64 0, .slice none 0 0] 54)) := (Below.refl _ w3).alloc (Nat.le_refl _) _
      refine hK.out _ _ (hcell _ (H3.out.below b4) (CBox.below C3.out b4)) (fun hHeld2 => ?_)
      clear hK K b4
      (try simp only [Act.put, List.setIfInBounds_toArray, List.set_cons_zero, List.set_cons_succ])
      refine Reg.step 22 rfl (by kernel_rfl) (by rfl) (fun K hK => ?_)
      go_simp
      have b4 : Below w3.heap.size w3 (w3.alloc (.cells #[.int .i64 zz.st, .int .i64 zz.fc, .slice X zz.data.length q] 54)) := (Below.refl _ w3).alloc (Nat.le_refl _) _
      have Z4 : Hid (Box (w3.alloc (.cells #[.int .i64 zz.st, .int .i64 zz.fc, .slice X zz.data.length q] 54)) w3.heap.size zz X q) := Box.new w3 zz X q
      have R4 := Lib.hid (Row.below (gave_row RX.out HZL.out).1 b4)
      have L4 := Lib.hid (L3.out.trans (b4.mono L3.out.size))
      refine hK.out _ _ (hcell _ (H3.out.below b4) (CBox.below C3.out b4)) (fun hHeld2 => ?_)
      clear hK K b4
      (try simp only [Act.put, List.setIfInBounds_toArray, List.set_cons_zero, List.set_cons_succ])
      refine Reg.tk 23 rfl ?_
      refine Reg.tk 24 rfl ?_
      refine wpAnyH_done (by kernel_rfl) ?_ _
      go_wp2_with fail
      go_meet
      exact ⟨rfl, L4.out⟩
    · go_simp
      have b3 : Below w2.heap.size w2 (w2.alloc (.cells #[.int .i64 0, .int .i64 0, .slice none 0 0] 54)) := (Below.refl _ w2).alloc (Nat.le_refl _) _
      have Y3 : Hid (Box (w2.alloc (.cells #[.int .i64 0, .int .i64 0, .slice none 0 0] 54)) w2.heap.size nilZ none 0) := Box.new w2 nilZ none 0
      have G3 : Hid (w1.heap.size ≤ w2.heap.size) := L2.out.size
      have H3 := Lib.hid (H2.out.below b3)
      have C3 := Lib.hid (CBox.below C2.out b3)
      have L3 := Lib.hid (L2.out.trans (b3.mono L2.out.size))
      refine hK.out _ _ (hcell _ H3.out C3.out) (fun hHeld2 => ?_)
      have hg2 : Hid (k.g < w2.heap.size ∧ k.q < w2.heap.size ∧ w.heap.size < w2.heap.size) := ⟨H2.out.g_lt, H2.out.q_lt, Cells.lt C2.out⟩
      clear hK K b3 H2 C2 L2
      (try simp only [Act.put, List.setIfInBounds_toArray, List.set_cons_zero, List.set_cons_succ])
      generalize w2.alloc (.cells #[.int .i64 0, .int .i64 0, .slice none 0 0] 54) = w3 at *
      generalize w2.heap.size = g2 at *
      refine Reg.step 16 rfl (by kernel_rfl) (by rfl) (fun K hK => ?_)
      go_simp
      refine (HC w3 (H3.out.data_at HV.out) ((RB.out.below L1.out).below L3.out)).out.mono ?_
      rintro e w4 ⟨X, q, rfl, hX, hb⟩
      have LO := Lib.hid (lo_own hX (Nat.le_of_lt H3.out.g_lt))
      unfold zv
      have R4 := Lib.hid (gave_row hX HZL.out).1
      have H4 := Lib.hid (H3.out.below hb)
      have C4 := Lib.hid (CBox.below C3.out hb)
      have L4 := Lib.hid (L3.out.trans (hb.mono L3.out.size))
      have Y4 := Lib.hid (Y3.out.below hb)
      clear hX hb H3 C3 L3 Y3
      refine hK.out _ _ (hcell _ H4.out C4.out) (fun hHeld2 => ?_)
      clear hK K
      (try simp only [Act.put, List.setIfInBounds_toArray, List.set_cons_zero, List.set_cons_succ])
      refine Reg.tk 17 rfl ?_
      refine Reg.tk 18 rfl ?_
      refine Reg.tk 19 rfl ?_
      refine Reg.tk 20 rfl ?_
      refine Reg.step 22 rfl (by kernel_rfl) (by rfl) (fun K hK => ?_)
      obtain ⟨f0, f1, f2⟩ := Y4.out.frozen
      obtain ⟨n0, n1, n2⟩ := Y4.out.cells
      go_simp
      have L5 := Lib.hid (below3 (g := g2) L4.out G3.out (.int .i64 zz.st) (.int .i64 zz.fc) (.slice X zz.data.length q))
      have Z5 := Lib.hid (Box.store Y4.out zz X q)
      have R5 := Lib.hid (Box.row3 Y4.out R4.out zz.st zz.fc X zz.data.length q)
      have H5 := Lib.hid (H1.out.below L5.out)
      have C5 := Lib.hid (CBox.below C1.out L5.out)
      clear n0 n1 n2 f0 f1 f2
      refine hK.out _ _ (hcell _ H5.out C5.out) (fun hHeld2 => ?_)
      clear hK K
      (try simp only [Act.put, List.setIfInBounds_toArray, List.set_cons_zero, List.set_cons_succ])
      refine Reg.tk 23 rfl ?_
      refine Reg.tk 24 rfl ?_
      refine wpAnyH_done (by kernel_rfl) ?_ _
      go_wp2_with fail
      go_meet
      exact ⟨rfl, L5.out⟩
  case rest =>
    obtain ⟨rfl, hP⟩ := hcut
    have H2 := Lib.hid (H1.out.below hP.out)
    have N2 := Lib.hid (EBox.below N1.out hP.out)
    have L2 := Lib.hid (L1.out.trans (hP.out.mono L1.out.size))
    have B2 := Lib.hid (But.of_below (q := k.q) L2.out)
    have C2 := Lib.hid (CBox.below C1.out hP.out)
    clear hP C1 H1 L1 N1 HC HZL1 zz
    generalize wc = w2 at *
    rcases e1 : (er == 0)
    · rw [e1, cond_false] at HPL
      have e2 : (er != 0) = true := by rw [bne, e1]; rfl
      obtain ⟨n0, n1, n2⟩ := N2.out.cells
      obtain ⟨f0, f1, f2⟩ := N2.out.frozen
      go_wp2_with fail
      refine bodyPost_ret_by (results_cell_row rfl _ _ (w.heap.size + 1) _ _ _ _ rfl (EBox.store N2.out er 0 none 0 0) Tryz.underlying39 rfl (by kernel_rfl)) rfl ?_
      rw [← HPL.out]
      exact acted_end H0.out H2.out N2.out (by omega) B2.out ⟨er, 0, []⟩ none 0 (Away.nil _ _) rfl rfl

    · rw [e1, cond_true] at HPL
      obtain rfl : er = 0 := beq_iff_eq.1 e1
      obtain ⟨y0, y1, y2, y3, y4, y5⟩ := CBox.cells C2.out
      go_wp2_with fail
      refine (HTC w2 H2.out).out.mono ?_
      rintro e w3 ⟨rfl, hb⟩
      have H3 := Lib.hid (H2.out.below hb)
      have N3 := Lib.hid (EBox.below N2.out hb)
      have L3 := Lib.hid (L2.out.trans (hb.mono L2.out.size))
      have B3 := Lib.hid (But.of_below (q := k.q) L3.out)
      have C3 := Lib.hid (CBox.below C2.out hb)
      clear hb H2 N2 L2 B2 C2 y0 y1 y2 y3 y4 y5 HTC
      rcases e3 : (ce == 0)
      · rw [e3, cond_false] at HPL
        have e4 : (ce != 0) = true := by rw [bne, e3]; rfl
        obtain ⟨n0, n1, n2⟩ := N3.out.cells
        obtain ⟨f0, f1, f2⟩ := N3.out.frozen
        go_wp2_with fail
        refine bodyPost_ret_by (results_cell_row rfl _ _ (w.heap.size + 1) _ _ _ _ rfl (EBox.store N3.out ce 0 none 0 0) Tryz.underlying39 rfl (by kernel_rfl)) rfl ?_
        rw [← HPL.out]
        exact acted_end H0.out H3.out N3.out (by omega) B3.out ⟨ce, 0, []⟩ none 0 (Away.nil _ _) rfl rfl

      · rw [e3, cond_true] at HPL
        have e4 : (ce != 0) = false := by rw [bne, e3]; rfl
        go_upto_region 7 with fail
        go_cut [10, 11] (fun s t wx => ∃ gz X q, s = .pointer (some ⟨gz, 0, none⟩) ∧ t = .int .i64 te ∧ Hid (Box wx gz zt X q ∧ Row cb wx X zt.data.length q zt.data ∧ Below w3.heap.size w3 wx ∧ Lo k.g X))
        case first =>
          have HZL := HZL2
          generalize hzz : zt = zz at *
          clear hzz zt
          have HQ := H3
          have CQ := C3
          have LQ := L3
          clear H3 C3 L3
          generalize w3 = wq at *
          have H2 : Hid (Desk k xs wq.drew) := HQ.out.below (Below.refl _ wq).drew
          have C2 : Hid (CBox wq.drew w.heap.size x.c.d i x.c.epoch x.c.off x.c.n x.B x.c.b.length x.k) := CQ
          have L2 : Hid (Below wq.heap.size wq wq.drew) := (Below.refl _ wq).drew
          refine wp_region_held_drew (S := fun W => (W.cell? ⟨k.g, 0, none⟩ = some (.int .i64 k.cap) ∧ W.cell? ⟨k.g, 3, none⟩ = some (.slice (some ⟨k.q, k.o, none⟩) k.n k.c)) ∧ (W.cell? ⟨w.heap.size, 1, none⟩ = some (.int .i64 (i : Int)) ∧ W.cell? ⟨w.heap.size, 2, none⟩ = some (.int .i64 x.c.epoch) ∧ W.cell? ⟨w.heap.size, 3, none⟩ = some (.int .i64 x.c.off) ∧ W.cell? ⟨w.heap.size, 4, none⟩ = some (.int .i64 x.c.n) ∧ W.cell? ⟨w.heap.size, 5, none⟩ = some (.slice x.B x.c.b.length x.k)) ∧ (W.cell? ⟨k.q, k.o + i * 3, none⟩ = some (.int .i64 v.z.st) ∧ W.cell? ⟨k.q, k.o + i * 3 + 1, none⟩ = some (.int .i64 v.z.fc) ∧ W.cell? ⟨k.q, k.o + i * 3 + 2, none⟩ = some (.slice v.D v.z.data.length v.c)))
            (by kernel_rfl) (hcell _ H2.out C2.out) (fun hHeld => ?_)
          generalize wq.drew = w2 at *
          refine Reg.tk 0 rfl ?_
          refine Reg.tk 1 rfl ?_
          refine Reg.tk 2 rfl ?_
          refine Reg.tk 3 rfl ?_
          refine Reg.tk 4 rfl ?_
          refine Reg.tk 5 rfl ?_
          refine Reg.tk 6 rfl ?_
          refine Reg.tk 7 rfl ?_
          refine Reg.tk 8 rfl ?_
          refine Reg.tk 9 rfl ?_
          refine Reg.tk 10 rfl ?_
          refine Reg.tk 11 rfl ?_
          refine Reg.tk 12 rfl ?_
          refine Reg.tk 13 rfl ?_
          refine Reg.tk 14 rfl ?_
          refine Reg.tk 15 rfl ?_
          refine Reg.tk 16 rfl ?_
          refine Reg.tk 17 rfl ?_
          refine Reg.step2 18 22 rfl rfl (by kernel_rfl) (by rfl) (by rfl) (fun K hK => ?_) (fun K hK => ?_)
          · go_simp
            refine (HT w2 (H2.out.data_at HV.out) ((RB.out.below LQ.out).below L2.out)).out.mono ?_
            rintro e w3 ⟨X, q, rfl, hX, hb⟩
            have LO := Lib.hid (lo_own hX (Nat.le_of_lt H2.out.g_lt))
            unfold zv
            have RX := Lib.hid hX
            have H3 := Lib.hid (H2.out.below hb)
            have C3 := Lib.hid (CBox.below C2.out hb)
            have L3 := Lib.hid (L2.out.trans (hb.mono L2.out.size))
            clear hX hb H2 C2 L2
            refine hK.out _ _ (hcell _ H3.out C3.out) (fun hHeld2 => ?_)
            clear hK K
            (try simp only [Act.put, List.setIfInBounds_toArray, List.set_cons_zero, List.set_cons_succ])
            refine Reg.tk 19 rfl ?_
            refine Reg.tk 20 rfl ?_
            refine Reg.tk 21 rfl ?_
            refine Reg.step 22 rfl (by kernel_rfl) (by rfl) (fun K hK => ?_)
            go_simp
            have b4 : Below w3.heap.size w3 (w3.alloc (.cells #[.int .i64 0, .int .i64 0, .slice none 0 0] 54)) := (Below.refl _ w3).alloc (Nat.le_refl _) _
            refine hK.out _ _ (hcell _ (H3.out.below b4) (CBox.below C3.out b4)) (fun hHeld2 => ?_)
            clear hK K b4
            (try simp only [Act.put, List.setIfInBounds_toArray, List.set_cons_zero, List.set_cons_succ])
            refine Reg.step 23 rfl (by kernel_rfl) (by rfl) (fun K hK => ?_)
            go_simp
            have b4 : Below w3.heap.size w3 (w3.alloc (.cells #[.int .i64 zz.st, .int .i64 zz.fc, .slice X zz.data.length q] 54)) := (Below.refl _ w3).alloc (Nat.le_refl _) _
            have Z4 : Hid (Box (w3.alloc (.cells #[.int .i64 zz.st, .int .i64 zz.fc, .slice X zz.data.length q] 54)) w3.heap.size zz X q) := Box.new w3 zz X q
            have R4 := Lib.hid (Row.below (gave_row RX.out HZL.out).1 b4)
            have L4 := Lib.hid (L3.out.trans (b4.mono L3.out.size))
            refine hK.out _ _ (hcell _ (H3.out.below b4) (CBox.below C3.out b4)) (fun hHeld2 => ?_)
            clear hK K b4
            (try simp only [Act.put, List.setIfInBounds_toArray, List.set_cons_zero, List.set_cons_succ])
            refine Reg.tk 24 rfl ?_
            refine wpAnyH_done (by kernel_rfl) ?_ _
            go_wp2_with fail
            go_meet
            exact ⟨_, X, q, rfl, rfl, Z4.out, R4.out, L4.out, LO.out⟩
          · go_simp
            have b3 : Below w2.heap.size w2 (w2.alloc (.cells #[.int .i64 0, .int .i64 0, .slice none 0 0] 54)) := (Below.refl _ w2).alloc (Nat.le_refl _) _
            have Y3 : Hid (Box (w2.alloc (.cells #[.int .i64 0, .int .i64 0, .slice none 0 0] 54)) w2.heap.size nilZ none 0) := Box.new w2 nilZ none 0
            have G3 : Hid (wq.heap.size ≤ w2.heap.size) := L2.out.size
            have H3 := Lib.hid (H2.out.below b3)
            have C3 := Lib.hid (CBox.below C2.out b3)
            have L3 := Lib.hid (L2.out.trans (b3.mono L2.out.size))
            refine hK.out _ _ (hcell _ H3.out C3.out) (fun hHeld2 => ?_)
            have hg2 : Hid (k.g < w2.heap.size ∧ k.q < w2.heap.size ∧ w.heap.size < w2.heap.size) := ⟨H2.out.g_lt, H2.out.q_lt, Cells.lt C2.out⟩
            clear hK K b3 H2 C2 L2
            (try simp only [Act.put, List.setIfInBounds_toArray, List.set_cons_zero, List.set_cons_succ])
            generalize w2.alloc (.cells #[.int .i64 0, .int .i64 0, .slice none 0 0] 54) = w3 at *
            generalize w2.heap.size = g2 at *
            refine Reg.step 18 rfl (by kernel_rfl) (by rfl) (fun K hK => ?_)
            go_simp
            refine (HT w3 (H3.out.data_at HV.out) ((RB.out.below LQ.out).below L3.out)).out.mono ?_
            rintro e w4 ⟨X, q, rfl, hX, hb⟩
            have LO := Lib.hid (lo_own hX (Nat.le_of_lt H3.out.g_lt))
            unfold zv
            have R4 := Lib.hid (gave_row hX HZL.out).1
            have H4 := Lib.hid (H3.out.below hb)
            have C4 := Lib.hid (CBox.below C3.out hb)
            have L4 := Lib.hid (L3.out.trans (hb.mono L3.out.size))
            have Y4 := Lib.hid (Y3.out.below hb)
            clear hX hb H3 C3 L3 Y3
            refine hK.out _ _ (hcell _ H4.out C4.out) (fun hHeld2 => ?_)
            clear hK K
            (try simp only [Act.put, List.setIfInBounds_toArray, List.set_cons_zero, List.set_cons_succ])
            refine Reg.tk 19 rfl ?_
            refine Reg.tk 20 rfl ?_
            refine Reg.tk 21 rfl ?_
            refine Reg.step 23 rfl (by kernel_rfl) (by rfl) (fun K hK => ?_)
            obtain ⟨f0, f1, f2⟩ := Y4.out.frozen
            obtain ⟨n0, n1, n2⟩ := Y4.out.cells
            go_simp
            have L5 := Lib.hid (below3 (g := g2) L4.out G3.out (.int .i64 zz.st) (.int .i64 zz.fc) (.slice X zz.data.length q))
            have Z5 := Lib.hid (Box.store Y4.out zz X q)
            have R5 := Lib.hid (Box.row3 Y4.out R4.out zz.st zz.fc X zz.data.length q)
            have H5 := Lib.hid (HQ.out.below L5.out)
            have C5 := Lib.hid (CBox.below CQ.out L5.out)
            clear n0 n1 n2 f0 f1 f2
            refine hK.out _ _ (hcell _ H5.out C5.out) (fun hHeld2 => ?_)
            clear hK K
            (try simp only [Act.put, List.setIfInBounds_toArray, List.set_cons_zero, List.set_cons_succ])
            refine Reg.tk 24 rfl ?_
            refine wpAnyH_done (by kernel_rfl) ?_ _
            go_wp2_with fail
            go_meet
            exact ⟨_, X, q, rfl, rfl, Z5.out, R5.out, L5.out, LO.out⟩
        case rest =>
          obtain ⟨gz, X, q, rfl, rfl, hP⟩ := hcut
          have Z4 := Lib.hid hP.out.1
          have R4 := Lib.hid hP.out.2.1
          have LO2 := Lib.hid hP.out.2.2.2
          have H4 := Lib.hid (H3.out.below hP.out.2.2.1)
          have N4 := Lib.hid (EBox.below N3.out hP.out.2.2.1)
          have L4 := Lib.hid (L3.out.trans (hP.out.2.2.1.mono L3.out.size))
          have B4 := Lib.hid (But.of_below (q := k.q) L4.out)
          have C4 := Lib.hid (CBox.below C3.out hP.out.2.2.1)
          clear hP C3 H3 L3 N3 B3 hcell HT
          generalize wc = w4 at *
          obtain ⟨c0, c1, c2⟩ := Z4.out.cells
          obtain ⟨y0, y1, y2, y3, y4, y5⟩ := CBox.cells C4.out
          rcases e5 : (te == 0)
          · rw [e5, cond_false] at HPL
            have e6 : (te != 0) = true := by rw [bne, e5]; rfl
            obtain ⟨n0, n1, n2⟩ := N4.out.cells
            obtain ⟨f0, f1, f2⟩ := N4.out.frozen
            go_wp2_with fail
            refine bodyPost_ret_by (results_cell_row rfl _ _ (w.heap.size + 1) _ _ _ _ rfl (EBox.store N4.out te 0 none 0 0) Tryz.underlying39 rfl (by kernel_rfl)) rfl ?_
            rw [← HPL.out]
            exact acted_end H0.out H4.out N4.out (by omega) B4.out ⟨te, 0, []⟩ none 0 (Away.nil _ _) rfl rfl

          · rw [e5, cond_true] at HPL
            obtain rfl : te = 0 := beq_iff_eq.1 e5
            rcases e7 : (x.c.n == 0)
            · rw [e7, cond_false] at HPL
              go_wp2_with fail
              refine (HP w4 zt X q H4.out R4.out LO2.out).out.mono ?_
              rintro e w5 ⟨xs', rfl, hD, hz, hB⟩
              have N5 := Lib.hid (EBox.but N4.out hB (by have := H0.out.q_lt; omega))
              have D5 := Lib.hid hD
              have B5 := Lib.hid (But.trans B4.out hB)
              have M5 := Lib.hid hz
              clear hB hD hz c0 c1 c2 y0 y1 y2 y3 y4 y5 HP
              obtain ⟨n0, n1, n2⟩ := N5.out.cells
              obtain ⟨f0, f1, f2⟩ := N5.out.frozen
              go_wp2_with fail
              refine bodyPost_ret_by (results_cell_row rfl _ _ (w.heap.size + 1) _ _ _ _ rfl (EBox.store N5.out (putO k.op k.ac (xs.map Zv.z) i zt).2 0 none 0 0) Tryz.underlying39 rfl (by kernel_rfl)) rfl ?_
              rw [← HPL.out]
              exact acted_end H0.out D5.out N5.out (by omega) B5.out ⟨(putO k.op k.ac (xs.map Zv.z) i zt).2, 0, []⟩ none 0 (Away.nil _ _) M5.out rfl

            · rw [e7, cond_true] at HPL
              obtain ⟨n0, n1, n2⟩ := N4.out.cells
              obtain ⟨f0, f1, f2⟩ := N4.out.frozen
              go_wp2_with fail
              refine bodyPost_ret_by (results_cell_row rfl _ _ (w.heap.size + 1) _ _ _ _ rfl (EBox.store N4.out 0 0 none 0 0) Tryz.underlying39 rfl (by kernel_rfl)) rfl ?_
              rw [← HPL.out]
              exact acted_end H0.out H4.out N4.out (by omega) B4.out ⟨0, 0, []⟩ none 0 (Away.nil _ _) rfl rfl

end Zns
end Go.Proofs.YtedandbkdjmfhaaGreat
/-
  WALKS OVER zns'S ACTS: read, fence. (Written by gen_acts.py.)
-/
namespace Go.Proofs.YtedandbkdjmfhaaGreat
open Go.RowKit Mem Zon
namespace Zns

set_option maxRecDepth 100000 in
set_option maxHeartbeats 6400000 in
theorem read_act {k : Dk} {xs : List Zv} {w : World} {i : Nat} {v : Zv} {x : Cx} (h : Desk k xs w) (hv : xs[i]? = some v) (hc : CmdAt w x) (hzi : x.c.zone = (i : Int)) :
    Calls Tryz.prog 48 #[.pointer (some ⟨k.g, 0, none⟩), cxv x] w (Acted k w (readP (xs.map Zv.z) i x.c)) := by
  have H0 := Lib.hid h
  have hi0 : (0 : Int) ≤ (i : Int) := by omega
  have hi1 : (i : Int) < (k.n : Int) := by have := (List.getElem?_eq_some_iff.1 hv).1; have := h.len; omega
  obtain ⟨L1, C1, N1⟩ := act_new w x i
  have H1 := Lib.hid (h.below L1.out)
  have HV := Lib.hid hv
  have HA := Lib.hid (atI_of hv)
  have hcell := fun W (h : Desk k xs W) (hb : CBox W w.heap.size x.c.d i x.c.epoch x.c.off x.c.n x.B x.c.b.length x.k) => And.intro (And.intro h.cells.1 h.cells.2.2.2.1) (And.intro (CBox.cells hb).2 (h.elem hv))
  have hoff := hc.off
  have HC := fun w (h : Row cb w v.D v.z.data.length v.c v.z.data) => Lib.hid (read_any x.c.off x.c.n hoff h)
  have HRL : Hid ((readL v.z x.c.off x.c.n).length ≤ 140737488351232) := by
    show _ ≤ _
    have := (h.data_at hv).big
    unfold readL
    rcases readB v.z x.c.off x.c.n
    · exact Nat.zero_le _
    · simp only [cond_true]; rw [List.length_take, List.length_drop]; omega
  clear h hv hc hoff
  unfold cxv
  rw [hzi]
  have HPL := Lib.hid (show (xs.map Zv.z, (⟨errOf (readB v.z x.c.off x.c.n), 0, readL v.z x.c.off x.c.n⟩ : Dn)) = readP (xs.map Zv.z) i x.c by unfold readP; rw [HA.out])
  generalize readP (xs.map Zv.z) i x.c = rr at *
  generalize errOf (readB v.z x.c.off x.c.n) = er at *
  generalize readL v.z x.c.off x.c.n = rl at *
  unfold zv GaveE at *
  go_enter Tryz.func48, Tryz.ntmps48
  go_upto_region 1 with fail
  generalize (w.alloc (.cells #[.int .i64 x.c.d, .int .i64 (i : Int), .int .i64 x.c.epoch, .int .i64 x.c.off, .int .i64 x.c.n, .slice x.B x.c.b.length x.k] 43)).alloc (.cells #[.int .i64 0, .int .i64 0, .slice none 0 0] 39) = w1 at *
  have H2 : Hid (Desk k xs w1.drew) := H1.out.below (Below.refl _ w1).drew
  have C2 : Hid (CBox w1.drew w.heap.size x.c.d i x.c.epoch x.c.off x.c.n x.B x.c.b.length x.k) := C1
  have L2 : Hid (Below w.heap.size w w1.drew) := L1.out.drew
  have N2 : Hid (EBox w1.drew (w.heap.size + 1) 0 0 none 0 0) := N1
  clear H1 C1 L1 N1
  refine wp_region_held_drew (S := fun W => (W.cell? ⟨k.g, 0, none⟩ = some (.int .i64 k.cap) ∧ W.cell? ⟨k.g, 3, none⟩ = some (.slice (some ⟨k.q, k.o, none⟩) k.n k.c)) ∧ (W.cell? ⟨w.heap.size, 1, none⟩ = some (.int .i64 (i : Int)) ∧ W.cell? ⟨w.heap.size, 2, none⟩ = some (.int .i64 x.c.epoch) ∧ W.cell? ⟨w.heap.size, 3, none⟩ = some (.int .i64 x.c.off) ∧ W.cell? ⟨w.heap.size, 4, none⟩ = some (.int .i64 x.c.n) ∧ W.cell? ⟨w.heap.size, 5, none⟩ = some (.slice x.B x.c.b.length x.k)) ∧ (W.cell? ⟨k.q, k.o + i * 3, none⟩ = some (.int .i64 v.z.st) ∧ W.cell? ⟨k.q, k.o + i * 3 + 1, none⟩ = some (.int .i64 v.z.fc) ∧ W.cell? ⟨k.q, k.o + i * 3 + 2, none⟩ = some (.slice v.D v.z.data.length v.c)))
    (by kernel_rfl) (hcell _ H2.out C2.out) (fun hHeld => ?_)
  generalize w1.drew = w2 at *
  refine Reg.tk 0 rfl ?_
  refine Reg.tk 1 rfl ?_
  refine Reg.tk 2 rfl ?_
  refine Reg.tk 3 rfl ?_
  refine Reg.tk 4 rfl ?_
  refine Reg.tk 5 rfl ?_
  refine Reg.tk 6 rfl ?_
  refine Reg.tk 7 rfl ?_
  refine Reg.tk 8 rfl ?_
  refine Reg.tk 9 rfl ?_
  refine Reg.tk 10 rfl ?_
  refine Reg.tk 11 rfl ?_
  refine Reg.tk 12 rfl ?_
  refine Reg.step 13 rfl (by kernel_rfl) (by rfl) (fun K hK => ?_)
  go_simp
  refine (HC w2 (H2.out.data_at HV.out)).out.mono ?_
  rintro e w3 ⟨X, m, q, rfl, hX, hb⟩
  obtain rfl : m = rl.length := hX.len.symm
  have H3 := Lib.hid (H2.out.below hb)
  have C3 := Lib.hid (CBox.below C2.out hb)
  have N3 := Lib.hid (EBox.below N2.out hb)
  have L3 := Lib.hid (L2.out.trans (hb.mono L2.out.size))
  have R3 : Hid (Away k.q w3 X rl.length q rl) := ⟨(gave_row hX HRL.out).1, fun b o e h0 => by
    subst e
    have hq := H2.out.q_lt
    rcases hX.2 with ⟨-, hn⟩ | ⟨g, cap, cur, hs, hbg, -⟩
    · omega
    · injection hs with e1
      injection e1 with e1
      injection e1 with e1
      omega⟩
  clear hX hb H2 C2 L2 N2
  refine hK.out _ _ (hcell _ H3.out C3.out) (fun hHeld2 => ?_)
  clear hK K
  (try simp only [Act.put, List.setIfInBounds_toArray, List.set_cons_zero, List.set_cons_succ])
  refine Reg.tk 14 rfl ?_
  refine Reg.tk 15 rfl ?_
  refine Reg.tk 16 rfl ?_
  refine Reg.tk 17 rfl ?_
  refine Reg.tk 18 rfl ?_
  refine wpAnyH_done (by kernel_rfl) ?_ _
  obtain ⟨n0, n1, n2⟩ := N3.out.cells
  obtain ⟨f0, f1, f2⟩ := N3.out.frozen
  go_wp2_with fail
  refine bodyPost_ret_by (results_cell_row rfl _ _ (w.heap.size + 1) _ _ _ _ rfl (EBox.store N3.out er 0 X rl.length q) Tryz.underlying39 rfl (by kernel_rfl)) rfl ?_
  rw [← HPL.out]
  exact acted_end H0.out H3.out N3.out (by omega) (But.of_below L3.out) ⟨er, 0, rl⟩ X q R3.out rfl rfl

set_option maxRecDepth 100000 in
set_option maxHeartbeats 6400000 in
theorem fence_act {k : Dk} {xs : List Zv} {w : World} {i : Nat} {v : Zv} {x : Cx} (h : Desk k xs w) (hv : xs[i]? = some v) (hzi : x.c.zone = (i : Int)) :
    Calls Tryz.prog 53 #[.pointer (some ⟨k.g, 0, none⟩), cxv x] w (Acted k w (fenceP (xs.map Zv.z) i x.c)) := by
  have H0 := Lib.hid h
  have hi0 : (0 : Int) ≤ (i : Int) := by omega
  have hi1 : (i : Int) < (k.n : Int) := by have := (List.getElem?_eq_some_iff.1 hv).1; have := h.len; omega
  obtain ⟨L1, C1, N1⟩ := act_new w x i
  have H1 := Lib.hid (h.below L1.out)
  have HV := Lib.hid hv
  have HA := Lib.hid (atI_of hv)
  have hcell := fun W (h : Desk k xs W) (hb : CBox W w.heap.size x.c.d i x.c.epoch x.c.off x.c.n x.B x.c.b.length x.k) => And.intro (And.intro h.cells.1 h.cells.2.2.2.1) (And.intro (CBox.cells hb).2 (h.elem hv))
  clear h hv
  have HR := fun W (h : Desk k xs W) => Lib.hid (h.data_at HV.out)
  unfold cxv
  rw [hzi]
  have HPL := Lib.hid (show (bif decide (x.c.epoch ≤ v.z.fc) then (xs.map Zv.z, fail_ 42) else ((xs.set i ⟨⟨v.z.st, x.c.epoch, v.z.data⟩, v.D, v.c⟩).map Zv.z, fail_ 0)) = fenceP (xs.map Zv.z) i x.c by unfold fenceP; rw [HA.out, map_set])
  generalize fenceP (xs.map Zv.z) i x.c = rr at *
  rcases e1 : decide (x.c.epoch ≤ v.z.fc)
  all_goals
    rw [e1] at HPL
    go_enter Tryz.func53, Tryz.ntmps53
    go_upto_region 1 with fail
    generalize (w.alloc (.cells #[.int .i64 x.c.d, .int .i64 (i : Int), .int .i64 x.c.epoch, .int .i64 x.c.off, .int .i64 x.c.n, .slice x.B x.c.b.length x.k] 43)).alloc (.cells #[.int .i64 0, .int .i64 0, .slice none 0 0] 39) = w1 at *
    have H2 : Hid (Desk k xs w1.drew) := H1.out.below (Below.refl _ w1).drew
    have C2 : Hid (CBox w1.drew w.heap.size x.c.d i x.c.epoch x.c.off x.c.n x.B x.c.b.length x.k) := C1
    have L2 : Hid (Below w.heap.size w w1.drew) := L1.out.drew
    have N2 : Hid (EBox w1.drew (w.heap.size + 1) 0 0 none 0 0) := N1
    clear H1 C1 L1 N1
    refine wp_region_held_drew (S := fun W => (W.cell? ⟨k.g, 0, none⟩ = some (.int .i64 k.cap) ∧ W.cell? ⟨k.g, 3, none⟩ = some (.slice (some ⟨k.q, k.o, none⟩) k.n k.c)) ∧ (W.cell? ⟨w.heap.size, 1, none⟩ = some (.int .i64 (i : Int)) ∧ W.cell? ⟨w.heap.size, 2, none⟩ = some (.int .i64 x.c.epoch) ∧ W.cell? ⟨w.heap.size, 3, none⟩ = some (.int .i64 x.c.off) ∧ W.cell? ⟨w.heap.size, 4, none⟩ = some (.int .i64 x.c.n) ∧ W.cell? ⟨w.heap.size, 5, none⟩ = some (.slice x.B x.c.b.length x.k)) ∧ (W.cell? ⟨k.q, k.o + i * 3, none⟩ = some (.int .i64 v.z.st) ∧ W.cell? ⟨k.q, k.o + i * 3 + 1, none⟩ = some (.int .i64 v.z.fc) ∧ W.cell? ⟨k.q, k.o + i * 3 + 2, none⟩ = some (.slice v.D v.z.data.length v.c)))
      (by kernel_rfl) (hcell _ H2.out C2.out) (fun hHeld => ?_)
    generalize w1.drew = w2 at *
    refine Reg.tk 0 rfl ?_
    refine Reg.tk 1 rfl ?_
    refine Reg.tk 2 rfl ?_
    refine Reg.tk 3 rfl ?_
    refine Reg.tk 4 rfl ?_
    refine Reg.tk 5 rfl ?_
    refine Reg.tk 6 rfl ?_
    refine Reg.tk 7 rfl ?_
    refine Reg.tk 8 rfl ?_
    refine Reg.tk 9 rfl ?_
    refine Reg.tk 10 rfl ?_
    refine Reg.tk 11 rfl ?_
    refine Reg.tk 12 rfl ?_
    refine wpAnyH_done (by kernel_rfl) ?_ _
    clear hHeld
  · go_upto_region 3 with fail
    have H3 : Hid (Desk k xs w2.drew) := H2.out.below (Below.refl _ w2).drew
    have C3 : Hid (CBox w2.drew w.heap.size x.c.d i x.c.epoch x.c.off x.c.n x.B x.c.b.length x.k) := C2
    have L3 : Hid (Below w.heap.size w w2.drew) := L2.out.drew
    have N3 : Hid (EBox w2.drew (w.heap.size + 1) 0 0 none 0 0) := N2
    clear H2 C2 L2 N2
    refine wp_region_held_drew (S := fun W => (W.cell? ⟨k.g, 0, none⟩ = some (.int .i64 k.cap) ∧ W.cell? ⟨k.g, 3, none⟩ = some (.slice (some ⟨k.q, k.o, none⟩) k.n k.c)) ∧ (W.cell? ⟨w.heap.size, 1, none⟩ = some (.int .i64 (i : Int)) ∧ W.cell? ⟨w.heap.size, 2, none⟩ = some (.int .i64 x.c.epoch) ∧ W.cell? ⟨w.heap.size, 3, none⟩ = some (.int .i64 x.c.off) ∧ W.cell? ⟨w.heap.size, 4, none⟩ = some (.int .i64 x.c.n) ∧ W.cell? ⟨w.heap.size, 5, none⟩ = some (.slice x.B x.c.b.length x.k)))
      (by kernel_rfl) (by obtain ⟨a, b, -⟩ := hcell _ H3.out C3.out; exact ⟨a, b⟩) (fun hHeld => ?_)
    generalize w2.drew = w3 at *
    refine Reg.tk 0 rfl ?_
    refine Reg.tk 1 rfl ?_
    refine Reg.tk 2 rfl ?_
    refine Reg.tk 3 rfl ?_
    refine Reg.tk 4 rfl ?_
    refine Reg.tk 5 rfl ?_
    refine Reg.tk 6 rfl ?_
    refine Reg.tk 7 rfl ?_
    refine Reg.tk 8 rfl ?_
    refine Reg.tk 9 rfl ?_
    refine Reg.tk 10 rfl ?_
    refine Reg.step 11 rfl (by kernel_rfl) (by rfl) (fun K hK => ?_)
    obtain ⟨z0, z1, z2⟩ := H3.out.elem HV.out
    have g1 := H3.out.frozen (k.o + i * 3 + 1)
    go_simp
    have H4 := Lib.hid (H3.out.set1 (x' := ⟨⟨v.z.st, x.c.epoch, v.z.data⟩, v.D, v.c⟩) (v := .int .i64 x.c.epoch) HV.out (j := 1) (by omega) rfl (int_not _) rfl (Row.setNot (HR _ H3.out).out z1 (int_not _) _) (H3.out.low v (List.mem_of_getElem? HV.out)))
    have C4 : Hid (CBox (w3.setCell ⟨k.q, k.o + i * 3 + 1, none⟩ (.int .i64 x.c.epoch)) w.heap.size x.c.d i x.c.epoch x.c.off x.c.n x.B x.c.b.length x.k) := Cells.set_other C3.out (by have := H0.out.q_lt; omega) _ _
    have N4 : Hid (EBox (w3.setCell ⟨k.q, k.o + i * 3 + 1, none⟩ (.int .i64 x.c.epoch)) (w.heap.size + 1) 0 0 none 0 0) := Cells.set_other N3.out (by have := H0.out.q_lt; omega) _ _
    have B4 := Lib.hid (But.trans (But.of_below (q := k.q) L3.out) (But.set1 w3 k.q (k.o + i * 3 + 1) (.int .i64 x.c.epoch)))
    clear z0 z1 z2 g1
    refine hK.out _ _ ⟨⟨H4.out.cells.1, H4.out.cells.2.2.2.1⟩, (CBox.cells C4.out).2⟩ (fun hHeld2 => ?_)
    clear hK K
    (try simp only [Act.put, List.setIfInBounds_toArray, List.set_cons_zero, List.set_cons_succ])
    refine wpAnyH_done (by kernel_rfl) ?_ _
    clear hHeld hHeld2
    generalize w3.setCell ⟨k.q, k.o + i * 3 + 1, none⟩ (.int .i64 x.c.epoch) = w4 at *
    obtain ⟨n0, n1, n2⟩ := N4.out.cells
    obtain ⟨f0, f1, f2⟩ := N4.out.frozen
    go_wp2_with fail
    refine bodyPost_ret_by (results_cell_row rfl _ _ (w.heap.size + 1) _ _ _ _ rfl (EBox.store N4.out 0 0 none 0 0) Tryz.underlying39 rfl (by kernel_rfl)) rfl ?_
    rw [← HPL.out]
    exact acted_end H0.out H4.out N4.out (by omega) B4.out ⟨0, 0, []⟩ none 0 (Away.nil _ _) rfl rfl
  · have B2 := Lib.hid (But.of_below (q := k.q) L2.out)
    obtain ⟨n0, n1, n2⟩ := N2.out.cells
    obtain ⟨f0, f1, f2⟩ := N2.out.frozen
    go_wp2_with fail
    refine bodyPost_ret_by (results_cell_row rfl _ _ (w.heap.size + 1) _ _ _ _ rfl (EBox.store N2.out 42 0 none 0 0) Tryz.underlying39 rfl (by kernel_rfl)) rfl ?_
    rw [← HPL.out]
    exact acted_end H0.out H2.out N2.out (by omega) B2.out ⟨42, 0, []⟩ none 0 (Away.nil _ _) rfl rfl
end Zns
end Go.Proofs.YtedandbkdjmfhaaGreat
/-
  WALKS: the map of acts (acts), and what is looked up there.
-/
namespace Go.Proofs.YtedandbkdjmfhaaGreat
open Go.RowKit Go.MapKept Mem Zon
namespace Zns

def ent (g : Nat) (k : Int) (f born : Nat) : MapEntry := ⟨.int .i64 k, .func (.func f) #[.pointer (some ⟨g, 0, none⟩)] #[], born⟩
def actEs (g : Nat) : Array MapEntry :=
  #[ent g 1 46 0, ent g 8 47 1, ent g 2 48 2, ent g 3 49 3,
    ent g 4 50 4, ent g 5 51 5, ent g 6 52 6, ent g 7 53 7]
def Acts (w : World) (r g : Nat) : Prop := w.heap[r]? = some (.map (actEs g) 8)
theorem Acts.below {w w' : World} {r g : Nat} (h : Acts w r g) (hb : Below w.heap.size w w') : Acts w' r g := (hb.block r (Array.getElem?_eq_some_iff.1 h).1).trans h
theorem Acts.but {w w' : World} {r g q : Nat} (h : Acts w r g) (hb : But q w w') (hn : r ≠ q) : Acts w' r g := (hb.block (Array.getElem?_eq_some_iff.1 h).1 hn).trans h

/-- A new key is laid into a map of the call's own. -/
theorem wpList_insert_new {P : Program} {w : World} {ops : Array Oper} {rest : List Oper} {o : Oper} {a : Act} {Q : Exit → Act → World → Prop}
    (hg : o.guard = none) (m x v : Operand) (t : TypeId) (hop : o.op = Op.insert t m x v)
    {k e : TypeId} (ht : P.underlying t = some (.map k e)) (hk : P.underlying k = some (.int .i64)) {b B : Nat} (hB : B ≤ b) {es : Array MapEntry} {clock : Nat}
    (hm : a.eval m = .map (some b)) (hb : w.heap[b]? = some (.map es clock)) {n : Int} (hx : a.eval x = .int .i64 n) (hnew : Instr.findNow (.int .i64) (.int .i64 n) es.toList 0 = some none)
    (hK : ∀ w', w'.heap[b]? = some (.map (es.push ⟨.int .i64 n, a.eval v, clock⟩) (clock + 1)) → Below B w w' → wpList P ops Q rest (a.put o.dst undef) w') :
    wpList P ops Q (o :: rest) a w := by
  refine wpList_plain hg fun K' hK' => ?_
  have hkey : IsKey (.int .i64) (.int .i64 n) := rfl
  have hr : (Instr.mapUpdate t (.map (some b)) (.int .i64 n) (a.eval v)).run P w = .ok () { w with heap := w.heap.setIfInBounds b (.map (es.push ⟨.int .i64 n, a.eval v, clock⟩) (clock + 1)) } := by
    simp [Instr.mapUpdate, run_underlying ht, MapKept.run_getObj_map (P := P) hb, MapKept.run_checkKey (P := P) (w := w) hk hkey, MapKept.run_findKey (P := P) (w := w) hk hnew, MapKept.run_setObj_map (P := P) _ hb, Result.andThen]
  unfold Oper.wp
  simp [execOp, hop, hm, hx, hr, Result.andThen]
  have h2 := heap_set hb (o' := .map (es.push ⟨.int .i64 n, a.eval v, clock⟩) (clock + 1))
  exact hK' _ _ (hK _ h2.1 ⟨rfl, rfl, rfl, by simp, fun i hi => h2.2 i (by omega)⟩)

set_option maxRecDepth 100000 in
set_option maxHeartbeats 3200000 in
theorem acts_any (g : Nat) (w : World) :
    Calls Tryz.prog 31 #[.pointer (some ⟨g, 0, none⟩)] w fun e w' => e = .returned (.map (some w.heap.size)) ∧ Acts w' w.heap.size g ∧ Below w.heap.size w w' := by
  have hmm := @run_makeMap Tryz.prog
  have hmf : ∀ (fn : Fn) (first cap : Array Value) (w : World), (Instr.makeFunc fn first cap).run Tryz.prog w = .ok (.func fn first cap) w := fun _ _ _ _ => rfl
  have h0 : (w.alloc (.map #[] 0)).heap[w.heap.size]? = some (.map #[] 0) := heap_alloc_new w _
  have hb0 : Below w.heap.size w (w.alloc (.map #[] 0)) := (Below.refl _ w).alloc (Nat.le_refl _) _
  go_enter Tryz.func31, Tryz.ntmps31
  go_wp2_with (refine wpList_insert_new rfl _ _ _ 87 rfl Tryz.underlying87 Tryz.underlying3 (Nat.le_refl w.heap.size) rfl (by assumption) rfl (by rfl) ?_
               intro w' h1 h2
               have hb0 := hb0.trans h2
               clear h2)
  go_ret
  refine ⟨rfl, ?_, by assumption⟩
  show _ = _
  assumption

/-- The act of a kind of commands. -/
def actF (d : Int) : Nat :=
  bif d == 1 then 46 else bif d == 8 then 47 else bif d == 2 then 48 else bif d == 3 then 49
  else bif d == 4 then 50 else bif d == 5 then 51 else bif d == 6 then 52 else 53
theorem known_of {d : Int} (h : knownB d = true) : d = 1 ∨ d = 8 ∨ d = 2 ∨ d = 3 ∨ d = 4 ∨ d = 5 ∨ d = 6 ∨ d = 7 := by
  unfold knownB at h
  simp only [Bool.and_eq_true, decide_eq_true_eq] at h
  omega
theorem run_lookup_new {w : World} {r g : Nat} {d : Int} (h : Acts w r g) (hk : knownB d = false) : (Instr.lookup 87 (.map (some r)) (.int .i64 d) true).run Tryz.prog w = .ok (.tuple #[.nilFunc, .bool false]) w := by
  have hkey : IsKey (.int .i64) (.int .i64 d) := rfl
  have hf : Instr.findNow (.int .i64) (.int .i64 d) (actEs g).toList 0 = some none := by
    unfold knownB at hk
    simp only [Bool.and_eq_false_iff, decide_eq_false_iff_not] at hk
    have h1 : (d == 1) = false := beq_eq_false_iff_ne.2 (by omega)
    have h2 : (d == 2) = false := beq_eq_false_iff_ne.2 (by omega)
    have h3 : (d == 3) = false := beq_eq_false_iff_ne.2 (by omega)
    have h4 : (d == 4) = false := beq_eq_false_iff_ne.2 (by omega)
    have h5 : (d == 5) = false := beq_eq_false_iff_ne.2 (by omega)
    have h6 : (d == 6) = false := beq_eq_false_iff_ne.2 (by omega)
    have h7 : (d == 7) = false := beq_eq_false_iff_ne.2 (by omega)
    have h8 : (d == 8) = false := beq_eq_false_iff_ne.2 (by omega)
    simp [actEs, ent, Instr.findNow, Instr.sameNow, h1, h2, h3, h4, h5, h6, h7, h8]
  have hz : (zeroValue 108).run Tryz.prog w = .ok .nilFunc w := by kernel_rfl
  simp [Instr.lookup, run_underlying Tryz.underlying87, MapKept.run_getObj_map (P := Tryz.prog) h, MapKept.run_checkKey (P := Tryz.prog) (w := w) Tryz.underlying3 hkey, MapKept.run_findKey (P := Tryz.prog) (w := w) Tryz.underlying3 hf, hz, Result.andThen]
theorem run_lookup_act {w : World} {r g : Nat} {d : Int} (h : Acts w r g) (hk : knownB d = true) : (Instr.lookup 87 (.map (some r)) (.int .i64 d) true).run Tryz.prog w = .ok (.tuple #[.func (.func (actF d)) #[.pointer (some ⟨g, 0, none⟩)] #[], .bool true]) w := by
  have hkey : IsKey (.int .i64) (.int .i64 d) := rfl
  have hf : ∃ j, Instr.findNow (.int .i64) (.int .i64 d) (actEs g).toList 0 = some (some (j, .func (.func (actF d)) #[.pointer (some ⟨g, 0, none⟩)] #[])) := by
    rcases known_of hk with rfl | rfl | rfl | rfl | rfl | rfl | rfl | rfl
    all_goals exact ⟨_, rfl⟩
  obtain ⟨j, hf⟩ := hf
  simp [Instr.lookup, run_underlying Tryz.underlying87, MapKept.run_getObj_map (P := Tryz.prog) h, MapKept.run_checkKey (P := Tryz.prog) (w := w) Tryz.underlying3 hkey, MapKept.run_findKey (P := Tryz.prog) (w := w) Tryz.underlying3 hf, Result.andThen]
end Zns
end Go.Proofs.YtedandbkdjmfhaaGreat
/-
  A WALK OVER (*desk).do: a command by the act of its kind. (Written by gen_do.py.)
-/
namespace Go.Proofs.YtedandbkdjmfhaaGreat
open Go.RowKit Mem Zon
namespace Zns

set_option maxRecDepth 100000 in
set_option maxHeartbeats 6400000 in
/-- A desk whose device may not be. -/
theorem do_bad {w : World} {g r : Nat} {x : Cx} (hm : ∃ cs, Cells w g 91 cs ∧ cs[4]? = some (.bool false)) (ha : Acts w r g) :
    Calls Tryz.prog 32 #[.pointer (some ⟨g, 0, none⟩), cxv x, .map (some r)] w fun e w' => e = .returned (.agg #[.int .i64 1, .int .i64 0, .slice none 0 0]) ∧ Below w.heap.size w w' := by
  obtain ⟨cs, hc, h4⟩ := hm
  obtain ⟨L1, C1, N1⟩ := act_new w x x.c.zone
  have hlk : ∃ u b, (Instr.lookup 87 (.map (some r)) (.int .i64 x.c.d) true).run Tryz.prog ((w.alloc (.cells #[.int .i64 x.c.d, .int .i64 x.c.zone, .int .i64 x.c.epoch, .int .i64 x.c.off, .int .i64 x.c.n, .slice x.B x.c.b.length x.k] 43)).alloc (.cells #[.int .i64 0, .int .i64 0, .slice none 0 0] 39)) = .ok (.tuple #[u, .bool b]) ((w.alloc (.cells #[.int .i64 x.c.d, .int .i64 x.c.zone, .int .i64 x.c.epoch, .int .i64 x.c.off, .int .i64 x.c.n, .slice x.B x.c.b.length x.k] 43)).alloc (.cells #[.int .i64 0, .int .i64 0, .slice none 0 0] 39)) := by
    rcases e : knownB x.c.d
    · exact ⟨_, _, run_lookup_new (ha.below L1.out) e⟩
    · exact ⟨_, _, run_lookup_act (ha.below L1.out) e⟩
  obtain ⟨u, b, hlk⟩ := hlk
  have m4 : ((w.alloc (.cells #[.int .i64 x.c.d, .int .i64 x.c.zone, .int .i64 x.c.epoch, .int .i64 x.c.off, .int .i64 x.c.n, .slice x.B x.c.b.length x.k] 43)).alloc (.cells #[.int .i64 0, .int .i64 0, .slice none 0 0] 39)).cell? ⟨g, 4, none⟩ = some (.bool false) := (Cells.cell (Cells.below hc L1.out) 4).trans h4
  unfold cxv
  go_enter Tryz.func32, Tryz.ntmps32
  go_upto_region 1 with fail
  generalize (w.alloc (.cells #[.int .i64 x.c.d, .int .i64 x.c.zone, .int .i64 x.c.epoch, .int .i64 x.c.off, .int .i64 x.c.n, .slice x.B x.c.b.length x.k] 43)).alloc (.cells #[.int .i64 0, .int .i64 0, .slice none 0 0] 39) = w1 at *
  obtain ⟨y0, y1, y2, y3, y4, y5⟩ := CBox.cells C1.out
  obtain ⟨n0, n1, n2⟩ := N1.out.cells
  obtain ⟨f0, f1, f2⟩ := N1.out.frozen
  go_wp2_with fail
  refine bodyPost_ret_by (results_cell_row rfl _ _ (w.heap.size + 1) _ _ _ _ rfl (EBox.store N1.out 1 0 none 0 0) Tryz.underlying39 rfl (by kernel_rfl)) rfl ?_
  exact ⟨rfl, below3 L1.out (by omega) _ _ _⟩

set_option maxRecDepth 100000 in
set_option maxHeartbeats 6400000 in
theorem do_arg {k : Dk} {xs : List Zv} {w : World} {r : Nat} {x : Cx} (h : Desk k xs w) (ha : Acts w r k.g) (hbad : knownB x.c.d = false ∨ x.c.zone < 0 ∨ (k.n : Int) ≤ x.c.zone) :
    Calls Tryz.prog 32 #[.pointer (some ⟨k.g, 0, none⟩), cxv x, .map (some r)] w (Acted k w (stepP k.cap k.op k.ac (xs.map Zv.z) x.c)) := by
  have H0 := Lib.hid h
  have HA := Lib.hid ha
  have hln : (xs.map Zv.z).length = k.n := by rw [List.length_map]; exact h.len
  have HPL := Lib.hid (show stepP k.cap k.op k.ac (xs.map Zv.z) x.c = (xs.map Zv.z, fail_ 1) by
    have : (!knownB x.c.d || (decide (x.c.zone < 0) || decide (((xs.map Zv.z).length : Int) ≤ x.c.zone))) = true := by
      rw [hln]
      simpa using hbad
    unfold stepP
    rw [this]; rfl)
  obtain ⟨L1, C1, N1⟩ := act_new w x x.c.zone
  have H1 := Lib.hid (h.below L1.out)
  have hkn := fun h => run_lookup_new (d := x.c.d) (ha.below L1.out) h
  have hka := fun h => run_lookup_act (d := x.c.d) (ha.below L1.out) h
  clear h ha hln
  unfold cxv
  rcases e1 : knownB x.c.d
  · have hlk := hkn e1
    clear hkn hka hbad
    go_enter Tryz.func32, Tryz.ntmps32
    go_upto_region 1 with fail
    generalize (w.alloc (.cells #[.int .i64 x.c.d, .int .i64 x.c.zone, .int .i64 x.c.epoch, .int .i64 x.c.off, .int .i64 x.c.n, .slice x.B x.c.b.length x.k] 43)).alloc (.cells #[.int .i64 0, .int .i64 0, .slice none 0 0] 39) = w1 at *
    obtain ⟨y0, y1, y2, y3, y4, y5⟩ := CBox.cells C1.out
    obtain ⟨d0, d1, d2, d3, d4⟩ := H1.out.cells
    have B1 := Lib.hid (But.of_below (q := k.q) L1.out)
    obtain ⟨n0, n1, n2⟩ := N1.out.cells
    obtain ⟨f0, f1, f2⟩ := N1.out.frozen
    go_wp2_with fail
    refine bodyPost_ret_by (results_cell_row rfl _ _ (w.heap.size + 1) _ _ _ _ rfl (EBox.store N1.out 1 0 none 0 0) Tryz.underlying39 rfl (by kernel_rfl)) rfl ?_
    rw [HPL.out]
    exact acted_end H0.out H1.out N1.out (by omega) B1.out (fail_ 1) none 0 (Away.nil _ _) rfl rfl
  · have hlk := hka e1
    clear hkn hka
    generalize actF x.c.d = fa at *
    rcases e2 : decide (x.c.zone < 0)
    · have e3 : decide ((k.n : Int) ≤ x.c.zone) = true := by
        rcases hbad with h | h | h
        · rw [h] at e1; cases e1
        · have := of_decide_eq_false e2; omega
        · exact decide_eq_true h
      clear hbad
      go_enter Tryz.func32, Tryz.ntmps32
      go_upto_region 1 with fail
      generalize (w.alloc (.cells #[.int .i64 x.c.d, .int .i64 x.c.zone, .int .i64 x.c.epoch, .int .i64 x.c.off, .int .i64 x.c.n, .slice x.B x.c.b.length x.k] 43)).alloc (.cells #[.int .i64 0, .int .i64 0, .slice none 0 0] 39) = w1 at *
      obtain ⟨y0, y1, y2, y3, y4, y5⟩ := CBox.cells C1.out
      obtain ⟨d0, d1, d2, d3, d4⟩ := H1.out.cells
      go_upto_region 5 with fail
      have H2 : Hid (Desk k xs w1.drew) := H1.out.below (Below.refl _ w1).drew
      have C2 : Hid (CBox w1.drew w.heap.size x.c.d x.c.zone x.c.epoch x.c.off x.c.n x.B x.c.b.length x.k) := C1
      have L2 : Hid (Below w.heap.size w w1.drew) := L1.out.drew
      have N2 : Hid (EBox w1.drew (w.heap.size + 1) 0 0 none 0 0) := N1
      clear H1 C1 L1 N1 hlk y0 y1 y2 y3 y4 y5 d0 d1 d2 d3 d4
      refine wp_region_held_drew (S := fun W => (W.cell? ⟨k.g, 3, none⟩ = some (.slice (some ⟨k.q, k.o, none⟩) k.n k.c)) ∧ (W.cell? ⟨w.heap.size, 0, none⟩ = some (.int .i64 x.c.d) ∧ W.cell? ⟨w.heap.size, 1, none⟩ = some (.int .i64 x.c.zone) ∧ W.cell? ⟨w.heap.size, 2, none⟩ = some (.int .i64 x.c.epoch) ∧ W.cell? ⟨w.heap.size, 3, none⟩ = some (.int .i64 x.c.off) ∧ W.cell? ⟨w.heap.size, 4, none⟩ = some (.int .i64 x.c.n) ∧ W.cell? ⟨w.heap.size, 5, none⟩ = some (.slice x.B x.c.b.length x.k)))
        (by kernel_rfl) ⟨H2.out.cells.2.2.2.1, CBox.cells C2.out⟩ (fun hHeld => ?_)
      generalize w1.drew = w2 at *
      refine Reg.tk 0 rfl ?_
      refine Reg.tk 1 rfl ?_
      refine Reg.tk 2 rfl ?_
      refine Reg.tk 3 rfl ?_
      refine Reg.tk 4 rfl ?_
      refine Reg.tk 5 rfl ?_
      refine Reg.tk 6 rfl ?_
      refine Reg.tk 7 rfl ?_
      refine Reg.tk 8 rfl ?_
      refine Reg.tk 9 rfl ?_
      refine wpAnyH_done (by kernel_rfl) ?_ _
      clear hHeld
      have B2 := Lib.hid (But.of_below (q := k.q) L2.out)
      obtain ⟨n0, n1, n2⟩ := N2.out.cells
      obtain ⟨f0, f1, f2⟩ := N2.out.frozen
      go_wp2_with fail
      refine bodyPost_ret_by (results_cell_row rfl _ _ (w.heap.size + 1) _ _ _ _ rfl (EBox.store N2.out 1 0 none 0 0) Tryz.underlying39 rfl (by kernel_rfl)) rfl ?_
      rw [HPL.out]
      exact acted_end H0.out H2.out N2.out (by omega) B2.out (fail_ 1) none 0 (Away.nil _ _) rfl rfl
    · clear hbad
      go_enter Tryz.func32, Tryz.ntmps32
      go_upto_region 1 with fail
      generalize (w.alloc (.cells #[.int .i64 x.c.d, .int .i64 x.c.zone, .int .i64 x.c.epoch, .int .i64 x.c.off, .int .i64 x.c.n, .slice x.B x.c.b.length x.k] 43)).alloc (.cells #[.int .i64 0, .int .i64 0, .slice none 0 0] 39) = w1 at *
      obtain ⟨y0, y1, y2, y3, y4, y5⟩ := CBox.cells C1.out
      obtain ⟨d0, d1, d2, d3, d4⟩ := H1.out.cells
      have B1 := Lib.hid (But.of_below (q := k.q) L1.out)
      obtain ⟨n0, n1, n2⟩ := N1.out.cells
      obtain ⟨f0, f1, f2⟩ := N1.out.frozen
      go_wp2_with fail
      refine bodyPost_ret_by (results_cell_row rfl _ _ (w.heap.size + 1) _ _ _ _ rfl (EBox.store N1.out 1 0 none 0 0) Tryz.underlying39 rfl (by kernel_rfl)) rfl ?_
      rw [HPL.out]
      exact acted_end H0.out H1.out N1.out (by omega) B1.out (fail_ 1) none 0 (Away.nil _ _) rfl rfl

set_option maxRecDepth 100000 in
set_option maxHeartbeats 6400000 in
theorem do_fence {k : Dk} {xs : List Zv} {w : World} {r : Nat} {x : Cx} (h : Desk k xs w) (ha : Acts w r k.g) {i : Nat} {v : Zv} (hk : knownB x.c.d = true) (hv : xs[i]? = some v) (hzi : x.c.zone = (i : Int)) (h7 : x.c.d ≠ 7) (hep : x.c.epoch ≠ v.z.fc) :
    Calls Tryz.prog 32 #[.pointer (some ⟨k.g, 0, none⟩), cxv x, .map (some r)] w (Acted k w (stepP k.cap k.op k.ac (xs.map Zv.z) x.c)) := by
  have H0 := Lib.hid h
  have HA := Lib.hid ha
  have hln : (xs.map Zv.z).length = k.n := by rw [List.length_map]; exact h.len
  have hlt : (i : Int) < (k.n : Int) := by have := (List.getElem?_eq_some_iff.1 hv).1; have := h.len; omega
  have hi0 : (0 : Int) ≤ (i : Int) := by omega
  have HV := Lib.hid hv
  have hzd : decide ((i : Int) < 0) = false := decide_eq_false (by omega)
  have hzn : decide ((k.n : Int) ≤ (i : Int)) = false := decide_eq_false (by omega)
  obtain ⟨L1, C1, N1⟩ := act_new w x (i : Int)
  have H1 := Lib.hid (h.below L1.out)
  have hlk := run_lookup_act (d := x.c.d) (ha.below L1.out) hk
  have hst : stepP k.cap k.op k.ac (xs.map Zv.z) x.c = (bif !(x.c.d == 7) && !(x.c.epoch == v.z.fc) then (xs.map Zv.z, fail_ 42) else actP k.cap k.op k.ac (xs.map Zv.z) i x.c) := by
    have hcond : (!knownB x.c.d || (decide (x.c.zone < 0) || decide (((xs.map Zv.z).length : Int) ≤ x.c.zone))) = false := by
      rw [hln, hk, hzi, hzd, hzn]; rfl
    have hat := atI_of hv
    unfold stepP
    rw [hcond, hzi, Int.toNat_natCast, hat]
    rfl
  have HPL := Lib.hid (show stepP k.cap k.op k.ac (xs.map Zv.z) x.c = (xs.map Zv.z, fail_ 42) by rw [hst, beq_eq_false_iff_ne.2 h7, beq_eq_false_iff_ne.2 hep]; rfl)
  have e7 : (x.c.d != 7) = true := bne_iff_ne.2 h7
  have ee : (x.c.epoch != v.z.fc) = true := bne_iff_ne.2 hep
  clear h ha hln hst hv h7 hep hk
  generalize actF x.c.d = fa at *
  unfold cxv
  rw [hzi]
  go_enter Tryz.func32, Tryz.ntmps32
  go_upto_region 1 with fail
  generalize (w.alloc (.cells #[.int .i64 x.c.d, .int .i64 (i : Int), .int .i64 x.c.epoch, .int .i64 x.c.off, .int .i64 x.c.n, .slice x.B x.c.b.length x.k] 43)).alloc (.cells #[.int .i64 0, .int .i64 0, .slice none 0 0] 39) = w1 at *
  obtain ⟨y0, y1, y2, y3, y4, y5⟩ := CBox.cells C1.out
  obtain ⟨d0, d1, d2, d3, d4⟩ := H1.out.cells
  go_upto_region 5 with fail
  have H2 : Hid (Desk k xs w1.drew) := H1.out.below (Below.refl _ w1).drew
  have C2 : Hid (CBox w1.drew w.heap.size x.c.d i x.c.epoch x.c.off x.c.n x.B x.c.b.length x.k) := C1
  have L2 : Hid (Below w.heap.size w w1.drew) := L1.out.drew
  have N2 : Hid (EBox w1.drew (w.heap.size + 1) 0 0 none 0 0) := N1
  clear H1 C1 L1 N1 hlk y0 y1 y2 y3 y4 y5 d0 d1 d2 d3 d4
  refine wp_region_held_drew (S := fun W => (W.cell? ⟨k.g, 3, none⟩ = some (.slice (some ⟨k.q, k.o, none⟩) k.n k.c)) ∧ (W.cell? ⟨w.heap.size, 0, none⟩ = some (.int .i64 x.c.d) ∧ W.cell? ⟨w.heap.size, 1, none⟩ = some (.int .i64 (i : Int)) ∧ W.cell? ⟨w.heap.size, 2, none⟩ = some (.int .i64 x.c.epoch) ∧ W.cell? ⟨w.heap.size, 3, none⟩ = some (.int .i64 x.c.off) ∧ W.cell? ⟨w.heap.size, 4, none⟩ = some (.int .i64 x.c.n) ∧ W.cell? ⟨w.heap.size, 5, none⟩ = some (.slice x.B x.c.b.length x.k)))
    (by kernel_rfl) ⟨H2.out.cells.2.2.2.1, CBox.cells C2.out⟩ (fun hHeld => ?_)
  generalize w1.drew = w2 at *
  refine Reg.tk 0 rfl ?_
  refine Reg.tk 1 rfl ?_
  refine Reg.tk 2 rfl ?_
  refine Reg.tk 3 rfl ?_
  refine Reg.tk 4 rfl ?_
  refine Reg.tk 5 rfl ?_
  refine Reg.tk 6 rfl ?_
  refine Reg.tk 7 rfl ?_
  refine Reg.tk 8 rfl ?_
  refine Reg.tk 9 rfl ?_
  refine wpAnyH_done (by kernel_rfl) ?_ _
  clear hHeld
  go_upto_region 7 with fail
  have H3 : Hid (Desk k xs w2.drew) := H2.out.below (Below.refl _ w2).drew
  have C3 : Hid (CBox w2.drew w.heap.size x.c.d i x.c.epoch x.c.off x.c.n x.B x.c.b.length x.k) := C2
  have L3 : Hid (Below w.heap.size w w2.drew) := L2.out.drew
  have N3 : Hid (EBox w2.drew (w.heap.size + 1) 0 0 none 0 0) := N2
  clear H2 C2 L2 N2
  refine wp_region_held_drew (S := fun W => (W.cell? ⟨k.g, 3, none⟩ = some (.slice (some ⟨k.q, k.o, none⟩) k.n k.c)) ∧ (W.cell? ⟨w.heap.size, 0, none⟩ = some (.int .i64 x.c.d) ∧ W.cell? ⟨w.heap.size, 1, none⟩ = some (.int .i64 (i : Int)) ∧ W.cell? ⟨w.heap.size, 2, none⟩ = some (.int .i64 x.c.epoch) ∧ W.cell? ⟨w.heap.size, 3, none⟩ = some (.int .i64 x.c.off) ∧ W.cell? ⟨w.heap.size, 4, none⟩ = some (.int .i64 x.c.n) ∧ W.cell? ⟨w.heap.size, 5, none⟩ = some (.slice x.B x.c.b.length x.k)) ∧ (W.cell? ⟨k.q, k.o + i * 3, none⟩ = some (.int .i64 v.z.st) ∧ W.cell? ⟨k.q, k.o + i * 3 + 1, none⟩ = some (.int .i64 v.z.fc) ∧ W.cell? ⟨k.q, k.o + i * 3 + 2, none⟩ = some (.slice v.D v.z.data.length v.c)))
    (by kernel_rfl) ⟨H3.out.cells.2.2.2.1, CBox.cells C3.out, H3.out.elem HV.out⟩ (fun hHeld => ?_)
  generalize w2.drew = w3 at *
  refine Reg.tk 0 rfl ?_
  refine Reg.tk 1 rfl ?_
  refine Reg.tk 2 rfl ?_
  refine Reg.tk 3 rfl ?_
  refine Reg.tk 4 rfl ?_
  refine Reg.tk 5 rfl ?_
  refine Reg.tk 6 rfl ?_
  refine Reg.tk 7 rfl ?_
  refine Reg.tk 8 rfl ?_
  refine Reg.tk 9 rfl ?_
  refine Reg.tk 10 rfl ?_
  refine Reg.tk 11 rfl ?_
  refine Reg.tk 12 rfl ?_
  refine Reg.tk 13 rfl ?_
  refine Reg.tk 14 rfl ?_
  refine Reg.tk 15 rfl ?_
  refine Reg.tk 16 rfl ?_
  refine Reg.tk 17 rfl ?_
  refine Reg.tk 18 rfl ?_
  refine wpAnyH_done (by kernel_rfl) ?_ _
  clear hHeld
  have B3 := Lib.hid (But.of_below (q := k.q) L3.out)
  obtain ⟨n0, n1, n2⟩ := N3.out.cells
  obtain ⟨f0, f1, f2⟩ := N3.out.frozen
  go_wp2_with fail
  refine bodyPost_ret_by (results_cell_row rfl _ _ (w.heap.size + 1) _ _ _ _ rfl (EBox.store N3.out 42 0 none 0 0) Tryz.underlying39 rfl (by kernel_rfl)) rfl ?_
  rw [HPL.out]
  exact acted_end H0.out H3.out N3.out (by omega) B3.out (fail_ 42) none 0 (Away.nil _ _) rfl rfl

end Zns
end Go.Proofs.YtedandbkdjmfhaaGreat
