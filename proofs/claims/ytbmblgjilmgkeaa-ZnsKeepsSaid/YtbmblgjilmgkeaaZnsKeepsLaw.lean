/-
  THE STATEMENT ZnsKeeps: of a device that may be one that may be is told; a command changes its own zone alone, but that one other may be closed; the arguments stay as they were. For every input. (Written by gen_laws.py.)
-/
import Derived.Test.YtbmblgjilmgkeaaZnsLawK
namespace Go.Proofs.Ytbmblgjilmgkeaa
open Go.ChangeShapes Go.WideShapes Go.ChangeAt Go.RowKit Mem Zon
namespace Zns

set_option maxRecDepth 100000 in
set_option maxHeartbeats 25600000 in
theorem znsKeeps_walk {d : Dx} {L : Option Addr} {m lc : Nat} {cs : List Cx} {w : World} (h : DevAt w d) (hl : RowS cellsC 6 w L m lc cs) (hcs : ∀ x ∈ cs, CmdAt w x) :
    Calls Try.prog 5 #[dxv d, .slice L m lc] w fun e w' => e = .returned (.bool true) ∧ Below w.heap.size w w' := by
  have HR := Lib.hid h
  have HL := Lib.hid hl
  have HCS := Lib.hid hcs
  have HF := fun w (h : DevAt w d) (hl : RowS cellsC 6 w L m lc cs) => Lib.hid (few_any h hl)
  have HCk := fun w (h : DevAt w d) => Lib.hid (refCheck_dev h)
  have HDo := fun X x w (h : DevAt w X) (hn : X.n ≤ 1000) (hc : CmdAt w x) (hok : okD X.p = true) => Lib.hid (do_law h hn hc hok)
  have HCY := fun Y w (h : DevAt w Y) => Lib.hid (refCheck_dev h)
  have HSZ := fun (x y : Zn) A B c d w (h1 : Row cb w A x.data.length c x.data) (h2 : Row cb w B y.data.length d y.data) => Lib.hid (same_any h1 h2)
  have HSE := fun (x y : Zn) A B c d w (h1 : Row cb w A x.data.length c x.data) (h2 : Row cb w B y.data.length d y.data) (e : x = y) => Lib.hid (same_eq h1 h2 e)
  have HSm := fun X Y w (h1 : DevAt w X) (h2 : DevAt w Y) (e : X.p = Y.p) => Lib.hid (refSame_eq h1 h2 e)
  have L1 : Hid (Below w.heap.size w (w.alloc (.cells #[.int .i64 d.cap, .int .i64 d.op, .int .i64 d.ac, .slice d.A d.n d.c] 25))) := (Below.refl _ w).alloc (Nat.le_refl _) _
  have B1 := Lib.hid (DBox.new w d)
  clear h hl hcs
  unfold dxv cxv at *
  unfold zv at HSZ HSE
  go_enter Try.func5, Try.ntmps5
  go_upto_region 1 with fail
  generalize w.alloc (.cells #[.int .i64 d.cap, .int .i64 d.op, .int .i64 d.ac, .slice d.A d.n d.c] 25) = w1 at *
  go_wp2_with fail
  refine (live_any w1).mono ?_
  rintro e w2 ⟨rfl, hb⟩
  have L2 := Lib.hid (L1.out.trans (hb.mono L1.out.size))
  have B2 := Lib.hid (B1.out.below hb)
  clear hb L1 B1
  obtain ⟨m0, m1, m2, m3⟩ := B2.out.cells
  go_wp2_with fail
  refine (HF w2 (HR.out.below L2.out) (RowS.below HL.out L2.out)).out.mono ?_
  rintro e w3 ⟨⟨b, rfl, hfew⟩, hb⟩
  have HFW := Lib.hid hfew
  have L3 := Lib.hid (L2.out.trans (hb.mono L2.out.size))
  have B3 := Lib.hid (B2.out.below hb)
  clear hb hfew L2 B2 m0 m1 m2 m3 HF
  obtain ⟨m0, m1, m2, m3⟩ := B3.out.cells
  rcases b
  · go_wp2_with fail
    go_ret
    exact ⟨rfl, L3.out⟩
  obtain ⟨hn, hm⟩ := HFW.out rfl
  have hCk := HCk w3 (HR.out.below L3.out)
  rcases hok : okD d.p
  · rw [hok] at hCk
    unfold errOf at hCk
    simp only [cond_false] at hCk
    clear hok
    go_wp2_with fail
    refine hCk.out.mono ?_
    rintro e w4 ⟨rfl, hb⟩
    have L4 := Lib.hid (L3.out.trans (hb.mono L3.out.size))
    clear hb
    go_wp2_with fail
    go_ret
    exact ⟨rfl, L4.out⟩
  rw [hok] at hCk
  have HOK := Lib.hid hok
  unfold errOf at hCk
  simp only [cond_true] at hCk
  clear hok
  go_wp2_with fail
  refine hCk.out.mono ?_
  rintro e w4 ⟨rfl, hb⟩
  have L4 := Lib.hid (L3.out.trans (hb.mono L3.out.size))
  have B4 := Lib.hid (B3.out.below hb)
  clear hb L3 B3 m0 m1 m2 m3 HCk hCk HFW
  obtain ⟨m0, m1, m2, m3⟩ := B4.out.cells
  have I5 : Hid (XI w w4.heap.size d (w4.alloc (.cells #[.int .i64 d.cap, .int .i64 d.op, .int .i64 d.ac, .slice d.A d.n d.c] 25))) := XI.start L4.out HR.out HOK.out (by omega)
  go_upto_region 5 with fail
  clear m0 m1 m2 m3 L4 B4
  generalize w4.alloc (.cells #[.int .i64 d.cap, .int .i64 d.op, .int .i64 d.ac, .slice d.A d.n d.c] 25) = w5 at *
  generalize w4.heap.size = gx at *
  go_wp2_with fail
  go_loopw [29] (fun i wr => ∃ (j : Nat) (X : Dx), i = .int .i64 j ∧ j ≤ m ∧ Hid (XI w gx X wr)) (fun i _ => m - (intOf i).toNat)
  case atStart => exact ⟨0, d, rfl, by omega, I5.out⟩
  case round =>
    obtain ⟨j, X, rfl, hj, hI⟩ := hrel
    by_cases hlt : j < m
    · clear I5
      obtain ⟨x, hx⟩ := HL.out.get hlt
      obtain ⟨b, oo, rfl, c0, c1, c2, c3, c4, c5⟩ := cmd_cells HL.out hx hI.out.below
      have HXC := Lib.hid (HCS.out x (List.mem_of_getElem? hx))
      have hk0 : (0 : Int) ≤ (j : Int) := by omega
      have hk1 : (j : Int) < (m : Int) := by omega
      have b6 : Below wr.heap.size wr (wr.alloc (.cells #[.int .i64 x.c.d, .int .i64 x.c.zone, .int .i64 x.c.epoch, .int .i64 x.c.off, .int .i64 x.c.n, .slice x.B x.c.b.length x.k] 36)) := (Below.refl _ wr).alloc (Nat.le_refl _) _
      have I6 := Lib.hid (hI.out.to b6)
      have C6 : Hid (CBox (wr.alloc (.cells #[.int .i64 x.c.d, .int .i64 x.c.zone, .int .i64 x.c.epoch, .int .i64 x.c.off, .int .i64 x.c.n, .slice x.B x.c.b.length x.k] 36)) wr.heap.size x.c.d x.c.zone x.c.epoch x.c.off x.c.n x.B x.c.b.length x.k) := Cells.new wr _ _
      clear hx b6 hI
      go_upto_region 8 with fail
      clear c0 c1 c2 c3 c4 c5
      generalize wr.alloc (.cells #[.int .i64 x.c.d, .int .i64 x.c.zone, .int .i64 x.c.epoch, .int .i64 x.c.off, .int .i64 x.c.n, .slice x.B x.c.b.length x.k] 36) = w6 at *
      generalize wr.heap.size = gc at *
      obtain ⟨y0, y1, y2, y3, y4, y5⟩ := CBox.cells C6.out
      obtain ⟨m0, m1, m2, m3⟩ := I6.out.box.cells
      go_wp2_with fail
      refine (HDo X x w6 I6.out.dev I6.out.small (HXC.out.below I6.out.below) I6.out.ok).out.mono ?_
      rintro e w7 ⟨Y, p, rfl, hdY, hdp, hY1, hY2, hYn, hb, hYa⟩
      have S7 := Lib.hid (st_of I6.out.ok hY1 hY2)
      have YN := Lib.hid hYn
      have YA : Hid (∀ q o, Y.A = some ⟨q, o, none⟩ → gx < q) := by
        show ∀ _, _
        intro q o e
        have h1 := hYa q o e
        have h2 := I6.out.box.lt
        omega
      have b7 : Below w7.heap.size w7 ((w7.alloc (.cells #[.int .i64 Y.cap, .int .i64 Y.op, .int .i64 Y.ac, .slice Y.A Y.n Y.c] 25)).alloc (.cells #[.int .i64 p.p.e, .int .i64 p.p.at_, .slice p.B p.p.b.length p.k] 38)) := ((Below.refl w7.heap.size w7).alloc (Nat.le_refl _) _).alloc (by simp) _
      have I8 := Lib.hid ((I6.out.to hb).to b7)
      have C8 := Lib.hid (CBox.below (CBox.below C6.out hb) b7)
      have Y8 : Hid (DBox ((w7.alloc (.cells #[.int .i64 Y.cap, .int .i64 Y.op, .int .i64 Y.ac, .slice Y.A Y.n Y.c] 25)).alloc (.cells #[.int .i64 p.p.e, .int .i64 p.p.at_, .slice p.B p.p.b.length p.k] 38)) w7.heap.size Y) := heap_alloc2_old w7 _ _
      have P8 : Hid (EBox ((w7.alloc (.cells #[.int .i64 Y.cap, .int .i64 Y.op, .int .i64 Y.ac, .slice Y.A Y.n Y.c] 25)).alloc (.cells #[.int .i64 p.p.e, .int .i64 p.p.at_, .slice p.B p.p.b.length p.k] 38)) (w7.heap.size + 1) p.p.e p.p.at_ p.B p.p.b.length p.k) := heap_alloc2_new w7 _ _
      have DY8 := Lib.hid (hdY.below b7)
      have DP8 := Lib.hid (hdp.below b7)
      clear hdY hdp hY1 hY2 hYn hb hYa b7 m0 m1 m2 m3 y0 y1 y2 y3 y4 y5 I6 C6
      go_upto_region 9 with fail
      generalize (w7.alloc (.cells #[.int .i64 Y.cap, .int .i64 Y.op, .int .i64 Y.ac, .slice Y.A Y.n Y.c] 25)).alloc (.cells #[.int .i64 p.p.e, .int .i64 p.p.at_, .slice p.B p.p.b.length p.k] 38) = w8 at *
      generalize w7.heap.size + 1 = gp at *
      generalize w7.heap.size = gy at *
      obtain ⟨k0, k1, k2, k3⟩ := Y8.out.cells
      have hCY := HCY Y w8 DY8.out
      rw [S7.out.ok] at hCY
      unfold errOf at hCY
      simp only [cond_true] at hCY
      go_wp2_with fail
      refine hCY.out.mono ?_
      rintro e w9 ⟨rfl, hb⟩
      have I9 := Lib.hid (I8.out.to hb)
      have Y9 := Lib.hid (Y8.out.below hb)
      have P9 := Lib.hid (EBox.below P8.out hb)
      have C9 := Lib.hid (CBox.below C8.out hb)
      have DY9 := Lib.hid (DY8.out.below hb)
      clear hb k0 k1 k2 k3 hCY I8 Y8 P8 C8 DY8 DP8
      obtain ⟨k0, k1, k2, k3⟩ := Y9.out.cells
      obtain ⟨o, hoth⟩ := S7.out.oth I9.out.ok
      have HOTH := Lib.hid hoth
      clear hoth
      have hys : Y.n ≤ 1000 := by rw [YN.out]; exact I9.out.small
      go_wp2_with fail
      clear k0 k1 k2 k3
      go_loopw [11, 45] (fun s i wr => ∃ a q : Nat, i = .int .i64 a ∧ s = .int .i64 q ∧ a ≤ Y.n ∧ q ≤ 1 ∧ Hid (XI w gx X wr ∧ DBox wr gy Y ∧ DevAt wr Y ∧ EBox wr gp p.p.e p.p.at_ p.B p.p.b.length p.k ∧ CBox wr gc x.c.d x.c.zone x.c.epoch x.c.off x.c.n x.B x.c.b.length x.k ∧ (q = 1 → p.p.e = 0 ∧ ∃ k, k < a ∧ o = some k))) (fun _ i _ => Y.n - (intOf i).toNat)
      case atStart => exact ⟨0, 0, rfl, rfl, by omega, by omega, I9.out, Y9.out, DY9.out, P9.out, C9.out, fun h => by cases h⟩
      case round =>
        clear I9 Y9 DY9 P9 C9
        obtain ⟨a, q, rfl, rfl, ha, hq, hJ⟩ := hrel
        have JX := Lib.hid hJ.out.1
        have JB := Lib.hid hJ.out.2.1
        have JY := Lib.hid hJ.out.2.2.1
        have JP := Lib.hid hJ.out.2.2.2.1
        have JC := Lib.hid hJ.out.2.2.2.2.1
        have HQ := Lib.hid hJ.out.2.2.2.2.2
        clear hJ
        by_cases hla : a < Y.n
        · have hYN := YN.out
          obtain ⟨xv, hxv⟩ := JX.out.dev.row.get (i := a) (by omega)
          obtain ⟨yw, hyw⟩ := JY.out.row.get hla
          have ha0 : (0 : Int) ≤ (a : Int) := by omega
          have ha1 : (a : Int) < (X.n : Int) := by omega
          have ha2 : (a : Int) < (Y.n : Int) := by omega
          have HOA := Lib.hid (HOTH.out a xv yw)
          have HXV := Lib.hid hxv
          have HYW := Lib.hid hyw
          have KX : Hid (XI w gx X wr.drew) := JX.out.to (Below.refl _ wr).drew
          have KB : Hid (DBox wr.drew gy Y) := JB
          have KY : Hid (DevAt wr.drew Y) := JY.out.below (Below.refl _ wr).drew
          have KP : Hid (EBox wr.drew gp p.p.e p.p.at_ p.B p.p.b.length p.k) := JP
          have KC : Hid (CBox wr.drew gc x.c.d x.c.zone x.c.epoch x.c.off x.c.n x.B x.c.b.length x.k) := JC
          obtain ⟨xb1, xo1, hXA1, -, -, -, -⟩ := zone_cells JX.out.dev hxv (Below.refl _ wr)
          obtain ⟨yb1, yo1, hYA1, -, -, -, -⟩ := zone_cells JY.out hyw (Below.refl _ wr)
          have HXA := Lib.hid hXA1
          have HYA := Lib.hid hYA1
          have hcell : ∀ W : World, XI w gx X W → DBox W gy Y → DevAt W Y → CBox W gc x.c.d x.c.zone x.c.epoch x.c.off x.c.n x.B x.c.b.length x.k → W.cell? ⟨gc, 1, none⟩ = some (.int .i64 x.c.zone) ∧ (W.cell? ⟨gx, 3, none⟩ = some (.slice (some ⟨xb1, xo1, none⟩) X.n X.c) ∧ W.cell? ⟨gy, 3, none⟩ = some (.slice (some ⟨yb1, yo1, none⟩) Y.n Y.c)) ∧ (W.cell? ⟨xb1, xo1 + a * 3, none⟩ = some (.int .i64 xv.z.st) ∧ W.cell? ⟨xb1, xo1 + a * 3 + 1, none⟩ = some (.int .i64 xv.z.fc) ∧ W.cell? ⟨xb1, xo1 + a * 3 + 2, none⟩ = some (.slice xv.D xv.z.data.length xv.c)) ∧ (W.cell? ⟨yb1, yo1 + a * 3, none⟩ = some (.int .i64 yw.z.st) ∧ W.cell? ⟨yb1, yo1 + a * 3 + 1, none⟩ = some (.int .i64 yw.z.fc) ∧ W.cell? ⟨yb1, yo1 + a * 3 + 2, none⟩ = some (.slice yw.D yw.z.data.length yw.c)) := by
            intro W h1 h2 h3 h4
            obtain ⟨b1, o1, e1, -, r0, r1, r2⟩ := zone_cells h1.dev HXV.out (Below.refl _ W)
            obtain ⟨b2, o2, e2, -, s0, s1, s2⟩ := zone_cells h3 HYW.out (Below.refl _ W)
            rw [HXA.out] at e1
            rw [HYA.out] at e2
            injection e1 with e1
            injection e1 with e1 e1'
            injection e2 with e2
            injection e2 with e2 e2'
            subst e1 e1' e2 e2'
            have n3 := h1.box.cells.2.2.2
            have q3 := h2.cells.2.2.2
            rw [HXA.out] at n3
            rw [HYA.out] at q3
            exact ⟨(CBox.cells h4).2.1, ⟨n3, q3⟩, ⟨r0, r1, r2⟩, ⟨s0, s1, s2⟩⟩
          clear hxv hyw hXA1 hYA1 hYN
          go_upto_region 15 with fail
          rcases hiz : ((a : Int) == x.c.zone)
          · have hiz' : (a : Int) ≠ x.c.zone := beq_eq_false_iff_ne.1 hiz
            refine wp_region_held_drew (S := fun W => W.cell? ⟨gc, 1, none⟩ = some (.int .i64 x.c.zone) ∧ (W.cell? ⟨gx, 3, none⟩ = some (.slice (some ⟨xb1, xo1, none⟩) X.n X.c) ∧ W.cell? ⟨gy, 3, none⟩ = some (.slice (some ⟨yb1, yo1, none⟩) Y.n Y.c)) ∧ (W.cell? ⟨xb1, xo1 + a * 3, none⟩ = some (.int .i64 xv.z.st) ∧ W.cell? ⟨xb1, xo1 + a * 3 + 1, none⟩ = some (.int .i64 xv.z.fc) ∧ W.cell? ⟨xb1, xo1 + a * 3 + 2, none⟩ = some (.slice xv.D xv.z.data.length xv.c)) ∧ (W.cell? ⟨yb1, yo1 + a * 3, none⟩ = some (.int .i64 yw.z.st) ∧ W.cell? ⟨yb1, yo1 + a * 3 + 1, none⟩ = some (.int .i64 yw.z.fc) ∧ W.cell? ⟨yb1, yo1 + a * 3 + 2, none⟩ = some (.slice yw.D yw.z.data.length yw.c)))
              (by kernel_rfl) (hcell _ KX.out KB.out KY.out KC.out) (fun hHeld => ?_)
            generalize wr.drew = w12 at *
            (first | (refine Reg.take 0 (v := ?_) rfl (by kernel_rfl) (by kernel_rfl) (by kernel_rfl) (fun _ _ _ h => h) (Or.inl ⟨by rfl, ?_⟩) (by assumption) ?_; rotate_left; (focus ((intro W hSW); (try dsimp only at hSW); (try go_split_ands); go_simp; (try (with_reducible rfl)); done))) | (refine Reg.take 0 (v := undef) rfl (by kernel_rfl) (by kernel_rfl) (by kernel_rfl) (fun _ _ _ h => h) (Or.inr ⟨by rfl, rfl⟩) (by assumption) ?_))
            (try simp only [Act.put, List.setIfInBounds_toArray, List.set_cons_zero, List.set_cons_succ])
            (first | (refine Reg.take 1 (v := ?_) rfl (by kernel_rfl) (by kernel_rfl) (by kernel_rfl) (fun _ _ _ h => h) (Or.inl ⟨by rfl, ?_⟩) (by assumption) ?_; rotate_left; (focus ((intro W hSW); (try dsimp only at hSW); (try go_split_ands); go_simp; (try (with_reducible rfl)); done))) | (refine Reg.take 1 (v := undef) rfl (by kernel_rfl) (by kernel_rfl) (by kernel_rfl) (fun _ _ _ h => h) (Or.inr ⟨by rfl, rfl⟩) (by assumption) ?_))
            (try simp only [Act.put, List.setIfInBounds_toArray, List.set_cons_zero, List.set_cons_succ])
            (first | (refine Reg.take 2 (v := ?_) rfl (by kernel_rfl) (by kernel_rfl) (by kernel_rfl) (fun _ _ _ h => h) (Or.inl ⟨by rfl, ?_⟩) (by assumption) ?_; rotate_left; (focus ((intro W hSW); (try dsimp only at hSW); (try go_split_ands); go_simp; (try (with_reducible rfl)); done))) | (refine Reg.take 2 (v := undef) rfl (by kernel_rfl) (by kernel_rfl) (by kernel_rfl) (fun _ _ _ h => h) (Or.inr ⟨by rfl, rfl⟩) (by assumption) ?_))
            (try simp only [Act.put, List.setIfInBounds_toArray, List.set_cons_zero, List.set_cons_succ])
            (first | (refine Reg.take 3 (v := ?_) rfl (by kernel_rfl) (by kernel_rfl) (by kernel_rfl) (fun _ _ _ h => h) (Or.inl ⟨by rfl, ?_⟩) (by assumption) ?_; rotate_left; (focus ((intro W hSW); (try dsimp only at hSW); (try go_split_ands); go_simp; (try (with_reducible rfl)); done))) | (refine Reg.take 3 (v := undef) rfl (by kernel_rfl) (by kernel_rfl) (by kernel_rfl) (fun _ _ _ h => h) (Or.inr ⟨by rfl, rfl⟩) (by assumption) ?_))
            (try simp only [Act.put, List.setIfInBounds_toArray, List.set_cons_zero, List.set_cons_succ])
            (first | (refine Reg.take 4 (v := ?_) rfl (by kernel_rfl) (by kernel_rfl) (by kernel_rfl) (fun _ _ _ h => h) (Or.inl ⟨by rfl, ?_⟩) (by assumption) ?_; rotate_left; (focus ((intro W hSW); (try dsimp only at hSW); (try go_split_ands); go_simp; (try (with_reducible rfl)); done))) | (refine Reg.take 4 (v := undef) rfl (by kernel_rfl) (by kernel_rfl) (by kernel_rfl) (fun _ _ _ h => h) (Or.inr ⟨by rfl, rfl⟩) (by assumption) ?_))
            (try simp only [Act.put, List.setIfInBounds_toArray, List.set_cons_zero, List.set_cons_succ])
            (first | (refine Reg.take 5 (v := ?_) rfl (by kernel_rfl) (by kernel_rfl) (by kernel_rfl) (fun _ _ _ h => h) (Or.inl ⟨by rfl, ?_⟩) (by assumption) ?_; rotate_left; (focus ((intro W hSW); (try dsimp only at hSW); (try go_split_ands); go_simp; (try (with_reducible rfl)); done))) | (refine Reg.take 5 (v := undef) rfl (by kernel_rfl) (by kernel_rfl) (by kernel_rfl) (fun _ _ _ h => h) (Or.inr ⟨by rfl, rfl⟩) (by assumption) ?_))
            (try simp only [Act.put, List.setIfInBounds_toArray, List.set_cons_zero, List.set_cons_succ])
            (first | (refine Reg.take 6 (v := ?_) rfl (by kernel_rfl) (by kernel_rfl) (by kernel_rfl) (fun _ _ _ h => h) (Or.inl ⟨by rfl, ?_⟩) (by assumption) ?_; rotate_left; (focus ((intro W hSW); (try dsimp only at hSW); (try go_split_ands); go_simp; (try (with_reducible rfl)); done))) | (refine Reg.take 6 (v := undef) rfl (by kernel_rfl) (by kernel_rfl) (by kernel_rfl) (fun _ _ _ h => h) (Or.inr ⟨by rfl, rfl⟩) (by assumption) ?_))
            (try simp only [Act.put, List.setIfInBounds_toArray, List.set_cons_zero, List.set_cons_succ])
            (first | (refine Reg.take 7 (v := ?_) rfl (by kernel_rfl) (by kernel_rfl) (by kernel_rfl) (fun _ _ _ h => h) (Or.inl ⟨by rfl, ?_⟩) (by assumption) ?_; rotate_left; (focus ((intro W hSW); (try dsimp only at hSW); (try go_split_ands); go_simp; (try (with_reducible rfl)); done))) | (refine Reg.take 7 (v := undef) rfl (by kernel_rfl) (by kernel_rfl) (by kernel_rfl) (fun _ _ _ h => h) (Or.inr ⟨by rfl, rfl⟩) (by assumption) ?_))
            (try simp only [Act.put, List.setIfInBounds_toArray, List.set_cons_zero, List.set_cons_succ])
            (first | (refine Reg.take 8 (v := ?_) rfl (by kernel_rfl) (by kernel_rfl) (by kernel_rfl) (fun _ _ _ h => h) (Or.inl ⟨by rfl, ?_⟩) (by assumption) ?_; rotate_left; (focus ((intro W hSW); (try dsimp only at hSW); (try go_split_ands); go_simp; (try (with_reducible rfl)); done))) | (refine Reg.take 8 (v := undef) rfl (by kernel_rfl) (by kernel_rfl) (by kernel_rfl) (fun _ _ _ h => h) (Or.inr ⟨by rfl, rfl⟩) (by assumption) ?_))
            (try simp only [Act.put, List.setIfInBounds_toArray, List.set_cons_zero, List.set_cons_succ])
            (first | (refine Reg.take 9 (v := ?_) rfl (by kernel_rfl) (by kernel_rfl) (by kernel_rfl) (fun _ _ _ h => h) (Or.inl ⟨by rfl, ?_⟩) (by assumption) ?_; rotate_left; (focus ((intro W hSW); (try dsimp only at hSW); (try go_split_ands); go_simp; (try (with_reducible rfl)); done))) | (refine Reg.take 9 (v := undef) rfl (by kernel_rfl) (by kernel_rfl) (by kernel_rfl) (fun _ _ _ h => h) (Or.inr ⟨by rfl, rfl⟩) (by assumption) ?_))
            (try simp only [Act.put, List.setIfInBounds_toArray, List.set_cons_zero, List.set_cons_succ])
            (first | (refine Reg.take 10 (v := ?_) rfl (by kernel_rfl) (by kernel_rfl) (by kernel_rfl) (fun _ _ _ h => h) (Or.inl ⟨by rfl, ?_⟩) (by assumption) ?_; rotate_left; (focus ((intro W hSW); (try dsimp only at hSW); (try go_split_ands); go_simp; (try (with_reducible rfl)); done))) | (refine Reg.take 10 (v := undef) rfl (by kernel_rfl) (by kernel_rfl) (by kernel_rfl) (fun _ _ _ h => h) (Or.inr ⟨by rfl, rfl⟩) (by assumption) ?_))
            (try simp only [Act.put, List.setIfInBounds_toArray, List.set_cons_zero, List.set_cons_succ])
            (first | (refine Reg.take 11 (v := ?_) rfl (by kernel_rfl) (by kernel_rfl) (by kernel_rfl) (fun _ _ _ h => h) (Or.inl ⟨by rfl, ?_⟩) (by assumption) ?_; rotate_left; (focus ((intro W hSW); (try dsimp only at hSW); (try go_split_ands); go_simp; (try (with_reducible rfl)); done))) | (refine Reg.take 11 (v := undef) rfl (by kernel_rfl) (by kernel_rfl) (by kernel_rfl) (fun _ _ _ h => h) (Or.inr ⟨by rfl, rfl⟩) (by assumption) ?_))
            (try simp only [Act.put, List.setIfInBounds_toArray, List.set_cons_zero, List.set_cons_succ])
            (first | (refine Reg.take 12 (v := ?_) rfl (by kernel_rfl) (by kernel_rfl) (by kernel_rfl) (fun _ _ _ h => h) (Or.inl ⟨by rfl, ?_⟩) (by assumption) ?_; rotate_left; (focus ((intro W hSW); (try dsimp only at hSW); (try go_split_ands); go_simp; (try (with_reducible rfl)); done))) | (refine Reg.take 12 (v := undef) rfl (by kernel_rfl) (by kernel_rfl) (by kernel_rfl) (fun _ _ _ h => h) (Or.inr ⟨by rfl, rfl⟩) (by assumption) ?_))
            (try simp only [Act.put, List.setIfInBounds_toArray, List.set_cons_zero, List.set_cons_succ])
            (first | (refine Reg.take 13 (v := ?_) rfl (by kernel_rfl) (by kernel_rfl) (by kernel_rfl) (fun _ _ _ h => h) (Or.inl ⟨by rfl, ?_⟩) (by assumption) ?_; rotate_left; (focus ((intro W hSW); (try dsimp only at hSW); (try go_split_ands); go_simp; (try (with_reducible rfl)); done))) | (refine Reg.take 13 (v := undef) rfl (by kernel_rfl) (by kernel_rfl) (by kernel_rfl) (fun _ _ _ h => h) (Or.inr ⟨by rfl, rfl⟩) (by assumption) ?_))
            (try simp only [Act.put, List.setIfInBounds_toArray, List.set_cons_zero, List.set_cons_succ])
            (first | (refine Reg.take 14 (v := ?_) rfl (by kernel_rfl) (by kernel_rfl) (by kernel_rfl) (fun _ _ _ h => h) (Or.inl ⟨by rfl, ?_⟩) (by assumption) ?_; rotate_left; (focus ((intro W hSW); (try dsimp only at hSW); (try go_split_ands); go_simp; (try (with_reducible rfl)); done))) | (refine Reg.take 14 (v := undef) rfl (by kernel_rfl) (by kernel_rfl) (by kernel_rfl) (fun _ _ _ h => h) (Or.inr ⟨by rfl, rfl⟩) (by assumption) ?_))
            (try simp only [Act.put, List.setIfInBounds_toArray, List.set_cons_zero, List.set_cons_succ])
            refine Reg.step 15 rfl (by kernel_rfl) (by rfl) (fun K hK => ?_)
            go_simp
            refine (HSZ xv.z yw.z xv.D yw.D xv.c yw.c w12 (KX.out.dev.data xv (List.mem_of_getElem? HXV.out)) (KY.out.data yw (List.mem_of_getElem? HYW.out))).out.mono ?_
            rintro e w13 ⟨rfl, hb⟩
            have MX := Lib.hid (KX.out.to hb)
            have MB := Lib.hid (KB.out.below hb)
            have MY := Lib.hid (KY.out.below hb)
            have MP := Lib.hid (EBox.below KP.out hb)
            have MC := Lib.hid (CBox.below KC.out hb)
            clear hb KX KB KY KP KC JX JB JY JP JC
            refine hK.out _ _ (hcell _ MX.out MB.out MY.out MC.out) (fun hHeld2 => ?_)
            clear hK K
            (try simp only [Act.put, List.setIfInBounds_toArray, List.set_cons_zero, List.set_cons_succ])
            have hoth := HOA.out HXV.out HYW.out hiz'
            rcases hoth with ⟨ho1, ho2⟩ | ⟨ho1, ho2, ho3, ho4, ho5⟩
            · rw [(sameZ_iff _ _).2 ho2]
              clear ho1 ho2
              (first | (refine Reg.take 16 (v := ?_) rfl (by kernel_rfl) (by kernel_rfl) (by kernel_rfl) (fun _ _ _ h => h) (Or.inl ⟨by rfl, ?_⟩) (by assumption) ?_; rotate_left; (focus ((intro W hSW); (try dsimp only at hSW); (try go_split_ands); go_simp; (try (with_reducible rfl)); done))) | (refine Reg.take 16 (v := undef) rfl (by kernel_rfl) (by kernel_rfl) (by kernel_rfl) (fun _ _ _ h => h) (Or.inr ⟨by rfl, rfl⟩) (by assumption) ?_))
              (try simp only [Act.put, List.setIfInBounds_toArray, List.set_cons_zero, List.set_cons_succ])
              refine wpAnyH_done (by kernel_rfl) ?_ _
              clear hHeld hHeld2 hcell hiz'
              go_wp2_with fail
              go_roundw
              case rel => exact ⟨a + 1, q, by go_num, rfl, by omega, hq, MX.out, MB.out, MY.out, MP.out, MC.out, fun h => by obtain ⟨h1, k, h2, h3⟩ := HQ.out h; exact ⟨h1, k, by omega, h3⟩⟩
              case measure => simp [intOf]; omega
            · have hsz : sameZ xv.z yw.z = false := sameZ_not (fun e => by rw [ho5] at e; have := congrArg Zn.st e; rw [ho3] at this; exact absurd this (by show ¬ ((1 : Int) = 3); decide))
              rw [hsz]
              have HZ := Lib.hid (And.intro ho1 ho2)
              have H5 := Lib.hid ho5
              have hst1 : (xv.z.st != 1) = false := by rw [ho3]; rfl
              have hCl := fun w (h : Row cb w xv.D xv.z.data.length xv.c xv.z.data) => Lib.hid (refClose_imp h ho3 ho4)
              have hq0 : q = 0 := by
                rcases Nat.eq_zero_or_pos q with h | h
                · exact h
                · obtain ⟨-, k, h2, h3⟩ := HQ.out (by omega)
                  rw [ho1] at h3
                  injection h3 with h3
                  omega
              subst hq0
              unfold zv GaveZ at hCl
              unfold zv at hCl
              clear hsz ho1 ho2 ho3 ho4 ho5
              (first | (refine Reg.take 16 (v := ?_) rfl (by kernel_rfl) (by kernel_rfl) (by kernel_rfl) (fun _ _ _ h => h) (Or.inl ⟨by rfl, ?_⟩) (by assumption) ?_; rotate_left; (focus ((intro W hSW); (try dsimp only at hSW); (try go_split_ands); go_simp; (try (with_reducible rfl)); done))) | (refine Reg.take 16 (v := undef) rfl (by kernel_rfl) (by kernel_rfl) (by kernel_rfl) (fun _ _ _ h => h) (Or.inr ⟨by rfl, rfl⟩) (by assumption) ?_))
              (try simp only [Act.put, List.setIfInBounds_toArray, List.set_cons_zero, List.set_cons_succ])
              refine wpAnyH_done (by kernel_rfl) ?_ _
              obtain ⟨j0, ⟨j1, j2⟩, ⟨j3, j4, j5⟩, ⟨j6, j7, j8⟩⟩ := hcell _ MX.out MB.out MY.out MC.out
              clear hHeld hHeld2 hiz'
              go_wp2_with fail
              refine (hCl w13 (MX.out.dev.data xv (List.mem_of_getElem? HXV.out))).out.mono ?_
              rintro e w14 ⟨Z, zc, rfl, hZ, hb⟩
              unfold inZ at hZ ⊢
              dsimp only at hZ ⊢
              have b5 : Below w14.heap.size w14 (w14.alloc (.cells #[.int .i64 3, .int .i64 xv.z.fc, .slice Z xv.z.data.length zc] 42)) := (Below.refl _ w14).alloc (Nat.le_refl _) _
              have b35 := hb.trans (b5.mono hb.size)
              have NX := Lib.hid (MX.out.to b35)
              have NB := Lib.hid (MB.out.below b35)
              have NY := Lib.hid (MY.out.below b35)
              have NP := Lib.hid (EBox.below MP.out b35)
              have NC := Lib.hid (CBox.below MC.out b35)
              have NZ : Hid (Box (w14.alloc (.cells #[.int .i64 3, .int .i64 xv.z.fc, .slice Z xv.z.data.length zc] 42)) w14.heap.size ⟨3, xv.z.fc, xv.z.data⟩ Z zc) := Box.new w14 ⟨3, xv.z.fc, xv.z.data⟩ Z zc
              have NR : Hid (Row cb (w14.alloc (.cells #[.int .i64 3, .int .i64 xv.z.fc, .slice Z xv.z.data.length zc] 42)) Z xv.z.data.length zc xv.z.data) := Row.below (gave_row hZ (MX.out.dev.data xv (List.mem_of_getElem? HXV.out)).big).1 b5
              clear hZ hb b5 b35 MX MB MY MP MC j0 j1 j2 j3 j4 j5 j6 j7 j8 hCl
              go_upto_region 17 with fail
              generalize w14.alloc (.cells #[.int .i64 3, .int .i64 xv.z.fc, .slice Z xv.z.data.length zc] 42) = w15 at *
              generalize w14.heap.size = gz at *
              have OX : Hid (XI w gx X w15.drew) := NX.out.to (Below.refl _ w15).drew
              have OB : Hid (DBox w15.drew gy Y) := NB
              have OY : Hid (DevAt w15.drew Y) := NY.out.below (Below.refl _ w15).drew
              have OP : Hid (EBox w15.drew gp p.p.e p.p.at_ p.B p.p.b.length p.k) := NP
              have OC : Hid (CBox w15.drew gc x.c.d x.c.zone x.c.epoch x.c.off x.c.n x.B x.c.b.length x.k) := NC
              have OZ : Hid (Box w15.drew gz ⟨3, xv.z.fc, xv.z.data⟩ Z zc) := NZ
              have OR : Hid (Row cb w15.drew Z xv.z.data.length zc xv.z.data) := NR.out.drew
              clear NX NB NY NP NC NZ NR
              refine wp_region_held_drew (S := fun W => (W.cell? ⟨gz, 0, none⟩ = some (.int .i64 3) ∧ W.cell? ⟨gz, 1, none⟩ = some (.int .i64 xv.z.fc) ∧ W.cell? ⟨gz, 2, none⟩ = some (.slice Z xv.z.data.length zc)) ∧ W.cell? ⟨gc, 1, none⟩ = some (.int .i64 x.c.zone) ∧ (W.cell? ⟨gx, 3, none⟩ = some (.slice (some ⟨xb1, xo1, none⟩) X.n X.c) ∧ W.cell? ⟨gy, 3, none⟩ = some (.slice (some ⟨yb1, yo1, none⟩) Y.n Y.c)) ∧ (W.cell? ⟨xb1, xo1 + a * 3, none⟩ = some (.int .i64 xv.z.st) ∧ W.cell? ⟨xb1, xo1 + a * 3 + 1, none⟩ = some (.int .i64 xv.z.fc) ∧ W.cell? ⟨xb1, xo1 + a * 3 + 2, none⟩ = some (.slice xv.D xv.z.data.length xv.c)) ∧ (W.cell? ⟨yb1, yo1 + a * 3, none⟩ = some (.int .i64 yw.z.st) ∧ W.cell? ⟨yb1, yo1 + a * 3 + 1, none⟩ = some (.int .i64 yw.z.fc) ∧ W.cell? ⟨yb1, yo1 + a * 3 + 2, none⟩ = some (.slice yw.D yw.z.data.length yw.c)))
                (by kernel_rfl) ⟨OZ.out.cells, hcell _ OX.out OB.out OY.out OC.out⟩ (fun hHeld => ?_)
              generalize w15.drew = w16 at *
              (first | (refine Reg.take 0 (v := ?_) rfl (by kernel_rfl) (by kernel_rfl) (by kernel_rfl) (fun _ _ _ h => h) (Or.inl ⟨by rfl, ?_⟩) (by assumption) ?_; rotate_left; (focus ((intro W hSW); (try dsimp only at hSW); (try go_split_ands); go_simp; (try (with_reducible rfl)); done))) | (refine Reg.take 0 (v := undef) rfl (by kernel_rfl) (by kernel_rfl) (by kernel_rfl) (fun _ _ _ h => h) (Or.inr ⟨by rfl, rfl⟩) (by assumption) ?_))
              (try simp only [Act.put, List.setIfInBounds_toArray, List.set_cons_zero, List.set_cons_succ])
              (first | (refine Reg.take 1 (v := ?_) rfl (by kernel_rfl) (by kernel_rfl) (by kernel_rfl) (fun _ _ _ h => h) (Or.inl ⟨by rfl, ?_⟩) (by assumption) ?_; rotate_left; (focus ((intro W hSW); (try dsimp only at hSW); (try go_split_ands); go_simp; (try (with_reducible rfl)); done))) | (refine Reg.take 1 (v := undef) rfl (by kernel_rfl) (by kernel_rfl) (by kernel_rfl) (fun _ _ _ h => h) (Or.inr ⟨by rfl, rfl⟩) (by assumption) ?_))
              (try simp only [Act.put, List.setIfInBounds_toArray, List.set_cons_zero, List.set_cons_succ])
              (first | (refine Reg.take 2 (v := ?_) rfl (by kernel_rfl) (by kernel_rfl) (by kernel_rfl) (fun _ _ _ h => h) (Or.inl ⟨by rfl, ?_⟩) (by assumption) ?_; rotate_left; (focus ((intro W hSW); (try dsimp only at hSW); (try go_split_ands); go_simp; (try (with_reducible rfl)); done))) | (refine Reg.take 2 (v := undef) rfl (by kernel_rfl) (by kernel_rfl) (by kernel_rfl) (fun _ _ _ h => h) (Or.inr ⟨by rfl, rfl⟩) (by assumption) ?_))
              (try simp only [Act.put, List.setIfInBounds_toArray, List.set_cons_zero, List.set_cons_succ])
              (first | (refine Reg.take 3 (v := ?_) rfl (by kernel_rfl) (by kernel_rfl) (by kernel_rfl) (fun _ _ _ h => h) (Or.inl ⟨by rfl, ?_⟩) (by assumption) ?_; rotate_left; (focus ((intro W hSW); (try dsimp only at hSW); (try go_split_ands); go_simp; (try (with_reducible rfl)); done))) | (refine Reg.take 3 (v := undef) rfl (by kernel_rfl) (by kernel_rfl) (by kernel_rfl) (fun _ _ _ h => h) (Or.inr ⟨by rfl, rfl⟩) (by assumption) ?_))
              (try simp only [Act.put, List.setIfInBounds_toArray, List.set_cons_zero, List.set_cons_succ])
              (first | (refine Reg.take 4 (v := ?_) rfl (by kernel_rfl) (by kernel_rfl) (by kernel_rfl) (fun _ _ _ h => h) (Or.inl ⟨by rfl, ?_⟩) (by assumption) ?_; rotate_left; (focus ((intro W hSW); (try dsimp only at hSW); (try go_split_ands); go_simp; (try (with_reducible rfl)); done))) | (refine Reg.take 4 (v := undef) rfl (by kernel_rfl) (by kernel_rfl) (by kernel_rfl) (fun _ _ _ h => h) (Or.inr ⟨by rfl, rfl⟩) (by assumption) ?_))
              (try simp only [Act.put, List.setIfInBounds_toArray, List.set_cons_zero, List.set_cons_succ])
              (first | (refine Reg.take 5 (v := ?_) rfl (by kernel_rfl) (by kernel_rfl) (by kernel_rfl) (fun _ _ _ h => h) (Or.inl ⟨by rfl, ?_⟩) (by assumption) ?_; rotate_left; (focus ((intro W hSW); (try dsimp only at hSW); (try go_split_ands); go_simp; (try (with_reducible rfl)); done))) | (refine Reg.take 5 (v := undef) rfl (by kernel_rfl) (by kernel_rfl) (by kernel_rfl) (fun _ _ _ h => h) (Or.inr ⟨by rfl, rfl⟩) (by assumption) ?_))
              (try simp only [Act.put, List.setIfInBounds_toArray, List.set_cons_zero, List.set_cons_succ])
              (first | (refine Reg.take 6 (v := ?_) rfl (by kernel_rfl) (by kernel_rfl) (by kernel_rfl) (fun _ _ _ h => h) (Or.inl ⟨by rfl, ?_⟩) (by assumption) ?_; rotate_left; (focus ((intro W hSW); (try dsimp only at hSW); (try go_split_ands); go_simp; (try (with_reducible rfl)); done))) | (refine Reg.take 6 (v := undef) rfl (by kernel_rfl) (by kernel_rfl) (by kernel_rfl) (fun _ _ _ h => h) (Or.inr ⟨by rfl, rfl⟩) (by assumption) ?_))
              (try simp only [Act.put, List.setIfInBounds_toArray, List.set_cons_zero, List.set_cons_succ])
              (first | (refine Reg.take 7 (v := ?_) rfl (by kernel_rfl) (by kernel_rfl) (by kernel_rfl) (fun _ _ _ h => h) (Or.inl ⟨by rfl, ?_⟩) (by assumption) ?_; rotate_left; (focus ((intro W hSW); (try dsimp only at hSW); (try go_split_ands); go_simp; (try (with_reducible rfl)); done))) | (refine Reg.take 7 (v := undef) rfl (by kernel_rfl) (by kernel_rfl) (by kernel_rfl) (fun _ _ _ h => h) (Or.inr ⟨by rfl, rfl⟩) (by assumption) ?_))
              (try simp only [Act.put, List.setIfInBounds_toArray, List.set_cons_zero, List.set_cons_succ])
              (first | (refine Reg.take 8 (v := ?_) rfl (by kernel_rfl) (by kernel_rfl) (by kernel_rfl) (fun _ _ _ h => h) (Or.inl ⟨by rfl, ?_⟩) (by assumption) ?_; rotate_left; (focus ((intro W hSW); (try dsimp only at hSW); (try go_split_ands); go_simp; (try (with_reducible rfl)); done))) | (refine Reg.take 8 (v := undef) rfl (by kernel_rfl) (by kernel_rfl) (by kernel_rfl) (fun _ _ _ h => h) (Or.inr ⟨by rfl, rfl⟩) (by assumption) ?_))
              (try simp only [Act.put, List.setIfInBounds_toArray, List.set_cons_zero, List.set_cons_succ])
              (first | (refine Reg.take 9 (v := ?_) rfl (by kernel_rfl) (by kernel_rfl) (by kernel_rfl) (fun _ _ _ h => h) (Or.inl ⟨by rfl, ?_⟩) (by assumption) ?_; rotate_left; (focus ((intro W hSW); (try dsimp only at hSW); (try go_split_ands); go_simp; (try (with_reducible rfl)); done))) | (refine Reg.take 9 (v := undef) rfl (by kernel_rfl) (by kernel_rfl) (by kernel_rfl) (fun _ _ _ h => h) (Or.inr ⟨by rfl, rfl⟩) (by assumption) ?_))
              (try simp only [Act.put, List.setIfInBounds_toArray, List.set_cons_zero, List.set_cons_succ])
              (first | (refine Reg.take 10 (v := ?_) rfl (by kernel_rfl) (by kernel_rfl) (by kernel_rfl) (fun _ _ _ h => h) (Or.inl ⟨by rfl, ?_⟩) (by assumption) ?_; rotate_left; (focus ((intro W hSW); (try dsimp only at hSW); (try go_split_ands); go_simp; (try (with_reducible rfl)); done))) | (refine Reg.take 10 (v := undef) rfl (by kernel_rfl) (by kernel_rfl) (by kernel_rfl) (fun _ _ _ h => h) (Or.inr ⟨by rfl, rfl⟩) (by assumption) ?_))
              (try simp only [Act.put, List.setIfInBounds_toArray, List.set_cons_zero, List.set_cons_succ])
              (first | (refine Reg.take 11 (v := ?_) rfl (by kernel_rfl) (by kernel_rfl) (by kernel_rfl) (fun _ _ _ h => h) (Or.inl ⟨by rfl, ?_⟩) (by assumption) ?_; rotate_left; (focus ((intro W hSW); (try dsimp only at hSW); (try go_split_ands); go_simp; (try (with_reducible rfl)); done))) | (refine Reg.take 11 (v := undef) rfl (by kernel_rfl) (by kernel_rfl) (by kernel_rfl) (fun _ _ _ h => h) (Or.inr ⟨by rfl, rfl⟩) (by assumption) ?_))
              (try simp only [Act.put, List.setIfInBounds_toArray, List.set_cons_zero, List.set_cons_succ])
              (first | (refine Reg.take 12 (v := ?_) rfl (by kernel_rfl) (by kernel_rfl) (by kernel_rfl) (fun _ _ _ h => h) (Or.inl ⟨by rfl, ?_⟩) (by assumption) ?_; rotate_left; (focus ((intro W hSW); (try dsimp only at hSW); (try go_split_ands); go_simp; (try (with_reducible rfl)); done))) | (refine Reg.take 12 (v := undef) rfl (by kernel_rfl) (by kernel_rfl) (by kernel_rfl) (fun _ _ _ h => h) (Or.inr ⟨by rfl, rfl⟩) (by assumption) ?_))
              (try simp only [Act.put, List.setIfInBounds_toArray, List.set_cons_zero, List.set_cons_succ])
              (first | (refine Reg.take 13 (v := ?_) rfl (by kernel_rfl) (by kernel_rfl) (by kernel_rfl) (fun _ _ _ h => h) (Or.inl ⟨by rfl, ?_⟩) (by assumption) ?_; rotate_left; (focus ((intro W hSW); (try dsimp only at hSW); (try go_split_ands); go_simp; (try (with_reducible rfl)); done))) | (refine Reg.take 13 (v := undef) rfl (by kernel_rfl) (by kernel_rfl) (by kernel_rfl) (fun _ _ _ h => h) (Or.inr ⟨by rfl, rfl⟩) (by assumption) ?_))
              (try simp only [Act.put, List.setIfInBounds_toArray, List.set_cons_zero, List.set_cons_succ])
              (first | (refine Reg.take 14 (v := ?_) rfl (by kernel_rfl) (by kernel_rfl) (by kernel_rfl) (fun _ _ _ h => h) (Or.inl ⟨by rfl, ?_⟩) (by assumption) ?_; rotate_left; (focus ((intro W hSW); (try dsimp only at hSW); (try go_split_ands); go_simp; (try (with_reducible rfl)); done))) | (refine Reg.take 14 (v := undef) rfl (by kernel_rfl) (by kernel_rfl) (by kernel_rfl) (fun _ _ _ h => h) (Or.inr ⟨by rfl, rfl⟩) (by assumption) ?_))
              (try simp only [Act.put, List.setIfInBounds_toArray, List.set_cons_zero, List.set_cons_succ])
              (first | (refine Reg.take 15 (v := ?_) rfl (by kernel_rfl) (by kernel_rfl) (by kernel_rfl) (fun _ _ _ h => h) (Or.inl ⟨by rfl, ?_⟩) (by assumption) ?_; rotate_left; (focus ((intro W hSW); (try dsimp only at hSW); (try go_split_ands); go_simp; (try (with_reducible rfl)); done))) | (refine Reg.take 15 (v := undef) rfl (by kernel_rfl) (by kernel_rfl) (by kernel_rfl) (fun _ _ _ h => h) (Or.inr ⟨by rfl, rfl⟩) (by assumption) ?_))
              (try simp only [Act.put, List.setIfInBounds_toArray, List.set_cons_zero, List.set_cons_succ])
              (first | (refine Reg.take 16 (v := ?_) rfl (by kernel_rfl) (by kernel_rfl) (by kernel_rfl) (fun _ _ _ h => h) (Or.inl ⟨by rfl, ?_⟩) (by assumption) ?_; rotate_left; (focus ((intro W hSW); (try dsimp only at hSW); (try go_split_ands); go_simp; (try (with_reducible rfl)); done))) | (refine Reg.take 16 (v := undef) rfl (by kernel_rfl) (by kernel_rfl) (by kernel_rfl) (fun _ _ _ h => h) (Or.inr ⟨by rfl, rfl⟩) (by assumption) ?_))
              (try simp only [Act.put, List.setIfInBounds_toArray, List.set_cons_zero, List.set_cons_succ])
              (first | (refine Reg.take 17 (v := ?_) rfl (by kernel_rfl) (by kernel_rfl) (by kernel_rfl) (fun _ _ _ h => h) (Or.inl ⟨by rfl, ?_⟩) (by assumption) ?_; rotate_left; (focus ((intro W hSW); (try dsimp only at hSW); (try go_split_ands); go_simp; (try (with_reducible rfl)); done))) | (refine Reg.take 17 (v := undef) rfl (by kernel_rfl) (by kernel_rfl) (by kernel_rfl) (fun _ _ _ h => h) (Or.inr ⟨by rfl, rfl⟩) (by assumption) ?_))
              (try simp only [Act.put, List.setIfInBounds_toArray, List.set_cons_zero, List.set_cons_succ])
              refine Reg.step 18 rfl (by kernel_rfl) (by rfl) (fun K hK => ?_)
              go_simp
              refine (HSE ⟨3, xv.z.fc, xv.z.data⟩ yw.z Z yw.D zc yw.c w16 OR.out (OY.out.data yw (List.mem_of_getElem? HYW.out)) H5.out.symm).out.mono ?_
              rintro e w17 ⟨rfl, hb⟩
              have MX := Lib.hid (OX.out.to hb)
              have MB := Lib.hid (OB.out.below hb)
              have MY := Lib.hid (OY.out.below hb)
              have MP := Lib.hid (EBox.below OP.out hb)
              have MC := Lib.hid (CBox.below OC.out hb)
              refine hK.out _ _ ⟨(OZ.out.below hb).cells, hcell _ MX.out MB.out MY.out MC.out⟩ (fun hHeld2 => ?_)
              clear hK K hb OX OB OY OP OC OZ OR
              (try simp only [Act.put, List.setIfInBounds_toArray, List.set_cons_zero, List.set_cons_succ])
              (first | (refine Reg.take 19 (v := ?_) rfl (by kernel_rfl) (by kernel_rfl) (by kernel_rfl) (fun _ _ _ h => h) (Or.inl ⟨by rfl, ?_⟩) (by assumption) ?_; rotate_left; (focus ((intro W hSW); (try dsimp only at hSW); (try go_split_ands); go_simp; (try (with_reducible rfl)); done))) | (refine Reg.take 19 (v := undef) rfl (by kernel_rfl) (by kernel_rfl) (by kernel_rfl) (fun _ _ _ h => h) (Or.inr ⟨by rfl, rfl⟩) (by assumption) ?_))
              (try simp only [Act.put, List.setIfInBounds_toArray, List.set_cons_zero, List.set_cons_succ])
              (first | (refine Reg.take 20 (v := ?_) rfl (by kernel_rfl) (by kernel_rfl) (by kernel_rfl) (fun _ _ _ h => h) (Or.inl ⟨by rfl, ?_⟩) (by assumption) ?_; rotate_left; (focus ((intro W hSW); (try dsimp only at hSW); (try go_split_ands); go_simp; (try (with_reducible rfl)); done))) | (refine Reg.take 20 (v := undef) rfl (by kernel_rfl) (by kernel_rfl) (by kernel_rfl) (fun _ _ _ h => h) (Or.inr ⟨by rfl, rfl⟩) (by assumption) ?_))
              (try simp only [Act.put, List.setIfInBounds_toArray, List.set_cons_zero, List.set_cons_succ])
              refine wpAnyH_done (by kernel_rfl) ?_ _
              clear hHeld hHeld2 hcell
              go_wp2_with fail
              go_roundw
              case rel => exact ⟨a + 1, 1, by go_num, by go_num, by omega, by omega, MX.out, MB.out, MY.out, MP.out, MC.out, fun _ => ⟨HZ.out.2, a, by omega, HZ.out.1⟩⟩
              case measure => simp [intOf]; omega
          · refine wp_region_held_drew (S := fun W => W.cell? ⟨gc, 1, none⟩ = some (.int .i64 x.c.zone) ∧ (W.cell? ⟨gx, 3, none⟩ = some (.slice (some ⟨xb1, xo1, none⟩) X.n X.c) ∧ W.cell? ⟨gy, 3, none⟩ = some (.slice (some ⟨yb1, yo1, none⟩) Y.n Y.c)) ∧ (W.cell? ⟨xb1, xo1 + a * 3, none⟩ = some (.int .i64 xv.z.st) ∧ W.cell? ⟨xb1, xo1 + a * 3 + 1, none⟩ = some (.int .i64 xv.z.fc) ∧ W.cell? ⟨xb1, xo1 + a * 3 + 2, none⟩ = some (.slice xv.D xv.z.data.length xv.c)) ∧ (W.cell? ⟨yb1, yo1 + a * 3, none⟩ = some (.int .i64 yw.z.st) ∧ W.cell? ⟨yb1, yo1 + a * 3 + 1, none⟩ = some (.int .i64 yw.z.fc) ∧ W.cell? ⟨yb1, yo1 + a * 3 + 2, none⟩ = some (.slice yw.D yw.z.data.length yw.c)))
              (by kernel_rfl) (hcell _ KX.out KB.out KY.out KC.out) (fun hHeld => ?_)
            generalize wr.drew = w12 at *
            clear JX JB JY JP JC
            (first | (refine Reg.take 0 (v := ?_) rfl (by kernel_rfl) (by kernel_rfl) (by kernel_rfl) (fun _ _ _ h => h) (Or.inl ⟨by rfl, ?_⟩) (by assumption) ?_; rotate_left; (focus ((intro W hSW); (try dsimp only at hSW); (try go_split_ands); go_simp; (try (with_reducible rfl)); done))) | (refine Reg.take 0 (v := undef) rfl (by kernel_rfl) (by kernel_rfl) (by kernel_rfl) (fun _ _ _ h => h) (Or.inr ⟨by rfl, rfl⟩) (by assumption) ?_))
            (try simp only [Act.put, List.setIfInBounds_toArray, List.set_cons_zero, List.set_cons_succ])
            (first | (refine Reg.take 1 (v := ?_) rfl (by kernel_rfl) (by kernel_rfl) (by kernel_rfl) (fun _ _ _ h => h) (Or.inl ⟨by rfl, ?_⟩) (by assumption) ?_; rotate_left; (focus ((intro W hSW); (try dsimp only at hSW); (try go_split_ands); go_simp; (try (with_reducible rfl)); done))) | (refine Reg.take 1 (v := undef) rfl (by kernel_rfl) (by kernel_rfl) (by kernel_rfl) (fun _ _ _ h => h) (Or.inr ⟨by rfl, rfl⟩) (by assumption) ?_))
            (try simp only [Act.put, List.setIfInBounds_toArray, List.set_cons_zero, List.set_cons_succ])
            (first | (refine Reg.take 2 (v := ?_) rfl (by kernel_rfl) (by kernel_rfl) (by kernel_rfl) (fun _ _ _ h => h) (Or.inl ⟨by rfl, ?_⟩) (by assumption) ?_; rotate_left; (focus ((intro W hSW); (try dsimp only at hSW); (try go_split_ands); go_simp; (try (with_reducible rfl)); done))) | (refine Reg.take 2 (v := undef) rfl (by kernel_rfl) (by kernel_rfl) (by kernel_rfl) (fun _ _ _ h => h) (Or.inr ⟨by rfl, rfl⟩) (by assumption) ?_))
            (try simp only [Act.put, List.setIfInBounds_toArray, List.set_cons_zero, List.set_cons_succ])
            (first | (refine Reg.take 3 (v := ?_) rfl (by kernel_rfl) (by kernel_rfl) (by kernel_rfl) (fun _ _ _ h => h) (Or.inl ⟨by rfl, ?_⟩) (by assumption) ?_; rotate_left; (focus ((intro W hSW); (try dsimp only at hSW); (try go_split_ands); go_simp; (try (with_reducible rfl)); done))) | (refine Reg.take 3 (v := undef) rfl (by kernel_rfl) (by kernel_rfl) (by kernel_rfl) (fun _ _ _ h => h) (Or.inr ⟨by rfl, rfl⟩) (by assumption) ?_))
            (try simp only [Act.put, List.setIfInBounds_toArray, List.set_cons_zero, List.set_cons_succ])
            (first | (refine Reg.take 4 (v := ?_) rfl (by kernel_rfl) (by kernel_rfl) (by kernel_rfl) (fun _ _ _ h => h) (Or.inl ⟨by rfl, ?_⟩) (by assumption) ?_; rotate_left; (focus ((intro W hSW); (try dsimp only at hSW); (try go_split_ands); go_simp; (try (with_reducible rfl)); done))) | (refine Reg.take 4 (v := undef) rfl (by kernel_rfl) (by kernel_rfl) (by kernel_rfl) (fun _ _ _ h => h) (Or.inr ⟨by rfl, rfl⟩) (by assumption) ?_))
            (try simp only [Act.put, List.setIfInBounds_toArray, List.set_cons_zero, List.set_cons_succ])
            (first | (refine Reg.take 5 (v := ?_) rfl (by kernel_rfl) (by kernel_rfl) (by kernel_rfl) (fun _ _ _ h => h) (Or.inl ⟨by rfl, ?_⟩) (by assumption) ?_; rotate_left; (focus ((intro W hSW); (try dsimp only at hSW); (try go_split_ands); go_simp; (try (with_reducible rfl)); done))) | (refine Reg.take 5 (v := undef) rfl (by kernel_rfl) (by kernel_rfl) (by kernel_rfl) (fun _ _ _ h => h) (Or.inr ⟨by rfl, rfl⟩) (by assumption) ?_))
            (try simp only [Act.put, List.setIfInBounds_toArray, List.set_cons_zero, List.set_cons_succ])
            (first | (refine Reg.take 6 (v := ?_) rfl (by kernel_rfl) (by kernel_rfl) (by kernel_rfl) (fun _ _ _ h => h) (Or.inl ⟨by rfl, ?_⟩) (by assumption) ?_; rotate_left; (focus ((intro W hSW); (try dsimp only at hSW); (try go_split_ands); go_simp; (try (with_reducible rfl)); done))) | (refine Reg.take 6 (v := undef) rfl (by kernel_rfl) (by kernel_rfl) (by kernel_rfl) (fun _ _ _ h => h) (Or.inr ⟨by rfl, rfl⟩) (by assumption) ?_))
            (try simp only [Act.put, List.setIfInBounds_toArray, List.set_cons_zero, List.set_cons_succ])
            (first | (refine Reg.take 7 (v := ?_) rfl (by kernel_rfl) (by kernel_rfl) (by kernel_rfl) (fun _ _ _ h => h) (Or.inl ⟨by rfl, ?_⟩) (by assumption) ?_; rotate_left; (focus ((intro W hSW); (try dsimp only at hSW); (try go_split_ands); go_simp; (try (with_reducible rfl)); done))) | (refine Reg.take 7 (v := undef) rfl (by kernel_rfl) (by kernel_rfl) (by kernel_rfl) (fun _ _ _ h => h) (Or.inr ⟨by rfl, rfl⟩) (by assumption) ?_))
            (try simp only [Act.put, List.setIfInBounds_toArray, List.set_cons_zero, List.set_cons_succ])
            (first | (refine Reg.take 8 (v := ?_) rfl (by kernel_rfl) (by kernel_rfl) (by kernel_rfl) (fun _ _ _ h => h) (Or.inl ⟨by rfl, ?_⟩) (by assumption) ?_; rotate_left; (focus ((intro W hSW); (try dsimp only at hSW); (try go_split_ands); go_simp; (try (with_reducible rfl)); done))) | (refine Reg.take 8 (v := undef) rfl (by kernel_rfl) (by kernel_rfl) (by kernel_rfl) (fun _ _ _ h => h) (Or.inr ⟨by rfl, rfl⟩) (by assumption) ?_))
            (try simp only [Act.put, List.setIfInBounds_toArray, List.set_cons_zero, List.set_cons_succ])
            (first | (refine Reg.take 9 (v := ?_) rfl (by kernel_rfl) (by kernel_rfl) (by kernel_rfl) (fun _ _ _ h => h) (Or.inl ⟨by rfl, ?_⟩) (by assumption) ?_; rotate_left; (focus ((intro W hSW); (try dsimp only at hSW); (try go_split_ands); go_simp; (try (with_reducible rfl)); done))) | (refine Reg.take 9 (v := undef) rfl (by kernel_rfl) (by kernel_rfl) (by kernel_rfl) (fun _ _ _ h => h) (Or.inr ⟨by rfl, rfl⟩) (by assumption) ?_))
            (try simp only [Act.put, List.setIfInBounds_toArray, List.set_cons_zero, List.set_cons_succ])
            (first | (refine Reg.take 10 (v := ?_) rfl (by kernel_rfl) (by kernel_rfl) (by kernel_rfl) (fun _ _ _ h => h) (Or.inl ⟨by rfl, ?_⟩) (by assumption) ?_; rotate_left; (focus ((intro W hSW); (try dsimp only at hSW); (try go_split_ands); go_simp; (try (with_reducible rfl)); done))) | (refine Reg.take 10 (v := undef) rfl (by kernel_rfl) (by kernel_rfl) (by kernel_rfl) (fun _ _ _ h => h) (Or.inr ⟨by rfl, rfl⟩) (by assumption) ?_))
            (try simp only [Act.put, List.setIfInBounds_toArray, List.set_cons_zero, List.set_cons_succ])
            (first | (refine Reg.take 11 (v := ?_) rfl (by kernel_rfl) (by kernel_rfl) (by kernel_rfl) (fun _ _ _ h => h) (Or.inl ⟨by rfl, ?_⟩) (by assumption) ?_; rotate_left; (focus ((intro W hSW); (try dsimp only at hSW); (try go_split_ands); go_simp; (try (with_reducible rfl)); done))) | (refine Reg.take 11 (v := undef) rfl (by kernel_rfl) (by kernel_rfl) (by kernel_rfl) (fun _ _ _ h => h) (Or.inr ⟨by rfl, rfl⟩) (by assumption) ?_))
            (try simp only [Act.put, List.setIfInBounds_toArray, List.set_cons_zero, List.set_cons_succ])
            (first | (refine Reg.take 12 (v := ?_) rfl (by kernel_rfl) (by kernel_rfl) (by kernel_rfl) (fun _ _ _ h => h) (Or.inl ⟨by rfl, ?_⟩) (by assumption) ?_; rotate_left; (focus ((intro W hSW); (try dsimp only at hSW); (try go_split_ands); go_simp; (try (with_reducible rfl)); done))) | (refine Reg.take 12 (v := undef) rfl (by kernel_rfl) (by kernel_rfl) (by kernel_rfl) (fun _ _ _ h => h) (Or.inr ⟨by rfl, rfl⟩) (by assumption) ?_))
            (try simp only [Act.put, List.setIfInBounds_toArray, List.set_cons_zero, List.set_cons_succ])
            (first | (refine Reg.take 13 (v := ?_) rfl (by kernel_rfl) (by kernel_rfl) (by kernel_rfl) (fun _ _ _ h => h) (Or.inl ⟨by rfl, ?_⟩) (by assumption) ?_; rotate_left; (focus ((intro W hSW); (try dsimp only at hSW); (try go_split_ands); go_simp; (try (with_reducible rfl)); done))) | (refine Reg.take 13 (v := undef) rfl (by kernel_rfl) (by kernel_rfl) (by kernel_rfl) (fun _ _ _ h => h) (Or.inr ⟨by rfl, rfl⟩) (by assumption) ?_))
            (try simp only [Act.put, List.setIfInBounds_toArray, List.set_cons_zero, List.set_cons_succ])
            (first | (refine Reg.take 14 (v := ?_) rfl (by kernel_rfl) (by kernel_rfl) (by kernel_rfl) (fun _ _ _ h => h) (Or.inl ⟨by rfl, ?_⟩) (by assumption) ?_; rotate_left; (focus ((intro W hSW); (try dsimp only at hSW); (try go_split_ands); go_simp; (try (with_reducible rfl)); done))) | (refine Reg.take 14 (v := undef) rfl (by kernel_rfl) (by kernel_rfl) (by kernel_rfl) (fun _ _ _ h => h) (Or.inr ⟨by rfl, rfl⟩) (by assumption) ?_))
            (try simp only [Act.put, List.setIfInBounds_toArray, List.set_cons_zero, List.set_cons_succ])
            (first | (refine Reg.take 15 (v := ?_) rfl (by kernel_rfl) (by kernel_rfl) (by kernel_rfl) (fun _ _ _ h => h) (Or.inl ⟨by rfl, ?_⟩) (by assumption) ?_; rotate_left; (focus ((intro W hSW); (try dsimp only at hSW); (try go_split_ands); go_simp; (try (with_reducible rfl)); done))) | (refine Reg.take 15 (v := undef) rfl (by kernel_rfl) (by kernel_rfl) (by kernel_rfl) (fun _ _ _ h => h) (Or.inr ⟨by rfl, rfl⟩) (by assumption) ?_))
            (try simp only [Act.put, List.setIfInBounds_toArray, List.set_cons_zero, List.set_cons_succ])
            (first | (refine Reg.take 16 (v := ?_) rfl (by kernel_rfl) (by kernel_rfl) (by kernel_rfl) (fun _ _ _ h => h) (Or.inl ⟨by rfl, ?_⟩) (by assumption) ?_; rotate_left; (focus ((intro W hSW); (try dsimp only at hSW); (try go_split_ands); go_simp; (try (with_reducible rfl)); done))) | (refine Reg.take 16 (v := undef) rfl (by kernel_rfl) (by kernel_rfl) (by kernel_rfl) (fun _ _ _ h => h) (Or.inr ⟨by rfl, rfl⟩) (by assumption) ?_))
            (try simp only [Act.put, List.setIfInBounds_toArray, List.set_cons_zero, List.set_cons_succ])
            refine wpAnyH_done (by kernel_rfl) ?_ _
            clear hHeld hcell
            go_wp2_with fail
            go_roundw
            case rel => exact ⟨a + 1, q, by go_num, rfl, by omega, hq, KX.out, KB.out, KY.out, KP.out, KC.out, fun h => by obtain ⟨h1, k, h2, h3⟩ := HQ.out h; exact ⟨h1, k, by omega, h3⟩⟩
            case measure => simp [intOf]; omega
        · have hq1 : decide ((1 : Int) < (q : Int)) = false := decide_eq_false (by omega)
          obtain ⟨p0, p1, p2⟩ := JP.out.cells
          obtain ⟨y0, y1, y2, y3, y4, y5⟩ := CBox.cells JC.out
          obtain ⟨m0, m1, m2, m3⟩ := JX.out.box.cells
          obtain ⟨k0, k1, k2, k3⟩ := JB.out.cells
          have hqe : ((q : Int) == 1) = true → (p.p.e != 0) = false := by
            intro h
            have h1 : (q : Int) = 1 := beq_iff_eq.1 h
            obtain ⟨h2, -⟩ := HQ.out (by omega)
            rw [h2]; rfl
          rcases hd : (x.c.d == 2)
          · rcases hqq : ((q : Int) == 1)
            · clear hqe
              obtain ⟨f0, f1, f2, f3⟩ := JX.out.box.frozen
              have IN := Lib.hid (JX.out.store JY.out S7.out.ok YA.out (by rw [YN.out]; exact JX.out.small))
              go_wp2_with fail
              go_roundw
              case rel => exact ⟨j + 1, Y, by go_num, by omega, IN.out⟩
              case measure => simp [intOf]; omega
            · have he := hqe hqq
              clear hqe
              obtain ⟨f0, f1, f2, f3⟩ := JX.out.box.frozen
              have IN := Lib.hid (JX.out.store JY.out S7.out.ok YA.out (by rw [YN.out]; exact JX.out.small))
              go_wp2_with fail
              go_roundw
              case rel => exact ⟨j + 1, Y, by go_num, by omega, IN.out⟩
              case measure => simp [intOf]; omega
          · have hEq := Lib.hid (S7.out.readEq JX.out.ok (beq_iff_eq.1 hd))
            rcases hqq : ((q : Int) == 1)
            · clear hqe
              go_wp2_with fail
              refine (HSm X Y wr JX.out.dev JY.out hEq.out.symm).out.mono ?_
              rintro e w18 ⟨rfl, hb⟩
              have LX := Lib.hid (JX.out.to hb)
              have LB := Lib.hid (JB.out.below hb)
              have LY := Lib.hid (JY.out.below hb)
              clear hb m0 m1 m2 m3 k0 k1 k2 k3 p0 p1 p2 y0 y1 y2 y3 y4 y5 JX JB JY JP JC
              obtain ⟨k0, k1, k2, k3⟩ := LB.out.cells
              obtain ⟨m0, m1, m2, m3⟩ := LX.out.box.cells
              obtain ⟨f0, f1, f2, f3⟩ := LX.out.box.frozen
              have IN := Lib.hid (LX.out.store LY.out S7.out.ok YA.out (by rw [YN.out]; exact LX.out.small))
              go_wp2_with fail
              go_roundw
              case rel => exact ⟨j + 1, Y, by go_num, by omega, IN.out⟩
              case measure => simp [intOf]; omega
            · have he := hqe hqq
              clear hqe
              go_wp2_with fail
              refine (HSm X Y wr JX.out.dev JY.out hEq.out.symm).out.mono ?_
              rintro e w18 ⟨rfl, hb⟩
              have LX := Lib.hid (JX.out.to hb)
              have LB := Lib.hid (JB.out.below hb)
              have LY := Lib.hid (JY.out.below hb)
              clear hb m0 m1 m2 m3 k0 k1 k2 k3 p0 p1 p2 y0 y1 y2 y3 y4 y5 JX JB JY JP JC
              obtain ⟨k0, k1, k2, k3⟩ := LB.out.cells
              obtain ⟨m0, m1, m2, m3⟩ := LX.out.box.cells
              obtain ⟨f0, f1, f2, f3⟩ := LX.out.box.frozen
              have IN := Lib.hid (LX.out.store LY.out S7.out.ok YA.out (by rw [YN.out]; exact LX.out.small))
              go_wp2_with fail
              go_roundw
              case rel => exact ⟨j + 1, Y, by go_num, by omega, IN.out⟩
              case measure => simp [intOf]; omega
    · go_wp2_with fail
      go_ret
      exact ⟨rfl, hI.out.below⟩
end Zns
end Go.Proofs.Ytbmblgjilmgkeaa
