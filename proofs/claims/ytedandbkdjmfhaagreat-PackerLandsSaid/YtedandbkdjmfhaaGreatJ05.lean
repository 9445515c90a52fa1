/-
  SEVERAL TEXTS IN ONE FILE: ZnsActA, ZnsActB.
-/
import Derived.Test.YtedandbkdjmfhaaGreatJ04
set_option linter.unusedSimpArgs false
set_option linter.unusedVariables false
/-
  WALKS OVER zns'S ACTS: reset, finish, close. (Written by gen_acts.py.)
-/
namespace Go.Proofs.YtedandbkdjmfhaaGreat
open Go.RowKit Mem Zon
namespace Zns

theorem Box.row3 {w : World} {b : Nat} {z : Zn} {B : Option Addr} {d : Nat} {A : Option Addr} {m c : Nat} {l : List B8} (h : Box w b z B d) (hr : Row cb w A m c l) (x y : Int) (B' : Option Addr) (n' d' : Nat) :
    Row cb (((w.setCell ⟨b, 0, none⟩ (.int .i64 x)).setCell ⟨b, 1, none⟩ (.int .i64 y)).setCell ⟨b, 2, none⟩ (.slice B' n' d')) A m c l := by
  have s1 : Cells _ b _ _ := Cells.set_ h 0 (.int .i64 x)
  have s2 : Cells _ b _ _ := Cells.set_ s1 1 (.int .i64 y)
  have r1 := Row.setNot hr (show _ = some (.int .i64 z.st) from Cells.cell h 0) (int_not _) (.int .i64 x)
  have r2 := Row.setNot r1 (show _ = some (.int .i64 z.fc) from Cells.cell s1 1) (int_not _) (.int .i64 y)
  exact Row.setNot r2 (show _ = some (.slice B z.data.length d) from Cells.cell s2 2) (slice_not _ _ _) _
/-- A command in a block of its own. -/
def CBox (w : World) (b : Nat) (d zone epoch off n : Int) (B : Option Addr) (m c : Nat) : Prop := Cells w b 43 #[.int .i64 d, .int .i64 zone, .int .i64 epoch, .int .i64 off, .int .i64 n, .slice B m c]
theorem CBox.below {w w' : World} {b : Nat} {d zone epoch off n : Int} {B : Option Addr} {m c : Nat} (h : CBox w b d zone epoch off n B m c) (hb : Below w.heap.size w w') : CBox w' b d zone epoch off n B m c := Cells.below h hb
theorem CBox.cells {w : World} {b : Nat} {d zone epoch off n : Int} {B : Option Addr} {m c : Nat} (h : CBox w b d zone epoch off n B m c) :
    w.cell? ⟨b, 0, none⟩ = some (.int .i64 d) ∧ w.cell? ⟨b, 1, none⟩ = some (.int .i64 zone) ∧ w.cell? ⟨b, 2, none⟩ = some (.int .i64 epoch) ∧ w.cell? ⟨b, 3, none⟩ = some (.int .i64 off) ∧ w.cell? ⟨b, 4, none⟩ = some (.int .i64 n) ∧ w.cell? ⟨b, 5, none⟩ = some (.slice B m c) :=
  ⟨Cells.cell h 0, Cells.cell h 1, Cells.cell h 2, Cells.cell h 3, Cells.cell h 4, Cells.cell h 5⟩
/-- A command that came in, and the answer's block. -/
theorem act_new (w : World) (x : Cx) (i : Int) :
    Hid (Below w.heap.size w ((w.alloc (.cells #[.int .i64 x.c.d, .int .i64 i, .int .i64 x.c.epoch, .int .i64 x.c.off, .int .i64 x.c.n, .slice x.B x.c.b.length x.k] 43)).alloc (.cells #[.int .i64 0, .int .i64 0, .slice none 0 0] 39))) ∧ Hid (CBox ((w.alloc (.cells #[.int .i64 x.c.d, .int .i64 i, .int .i64 x.c.epoch, .int .i64 x.c.off, .int .i64 x.c.n, .slice x.B x.c.b.length x.k] 43)).alloc (.cells #[.int .i64 0, .int .i64 0, .slice none 0 0] 39)) w.heap.size x.c.d i x.c.epoch x.c.off x.c.n x.B x.c.b.length x.k) ∧ Hid (EBox ((w.alloc (.cells #[.int .i64 x.c.d, .int .i64 i, .int .i64 x.c.epoch, .int .i64 x.c.off, .int .i64 x.c.n, .slice x.B x.c.b.length x.k] 43)).alloc (.cells #[.int .i64 0, .int .i64 0, .slice none 0 0] 39)) (w.heap.size + 1) 0 0 none 0 0) :=
  ⟨((Below.refl w.heap.size w).alloc (Nat.le_refl _) _).alloc (by simp) _, heap_alloc2_old w _ _, heap_alloc2_new w _ _⟩

set_option maxRecDepth 100000 in
set_option maxHeartbeats 6400000 in
theorem reset_act {k : Dk} {xs : List Zv} {w : World} {i : Nat} {v : Zv} {x : Cx} (h : Desk k xs w) (hv : xs[i]? = some v) (hzi : x.c.zone = (i : Int)) :
    Calls Tryz.prog 49 #[.pointer (some ⟨k.g, 0, none⟩), cxv x] w (Acted k w (resetP (xs.map Zv.z) i)) := by
  have H0 := Lib.hid h
  have hi0 : (0 : Int) ≤ (i : Int) := by omega
  have hi1 : (i : Int) < (k.n : Int) := by have := (List.getElem?_eq_some_iff.1 hv).1; have := h.len; omega
  obtain ⟨L1, C1, N1⟩ := act_new w x i
  have H1 := Lib.hid (h.below L1.out)
  have HV := Lib.hid hv
  have HA := Lib.hid (atI_of hv)
  have hcell := fun W (h : Desk k xs W) (hb : CBox W w.heap.size x.c.d i x.c.epoch x.c.off x.c.n x.B x.c.b.length x.k) => And.intro (And.intro h.cells.1 h.cells.2.2.2.1) (And.intro (CBox.cells hb).2 (h.elem hv))
  have HC := fun w (h : Row cb w v.D v.z.data.length v.c v.z.data) => Lib.hid (reset_any v.z v.D v.c w)
  have HP := fun w (z : Zn) D c e (h : Desk k xs w) (hr : Row cb w D z.data.length c z.data) (hlo : Lo k.g D) => Lib.hid (put_any z D c e h hv hr hlo)
  have HZL : Hid (((⟨0, v.z.fc, []⟩ : Zn)).data.length ≤ 140737488351232) := by
    show _ ≤ _
    have := (h.data_at hv).big
    exact Nat.zero_le _
  clear h hv
  unfold cxv
  rw [hzi]
  have HPL := Lib.hid (show putP (xs.map Zv.z) i ((⟨0, v.z.fc, []⟩ : Zn)) ((0 : Int)) = resetP (xs.map Zv.z) i by unfold resetP putP; rw [HA.out]; rfl)
  generalize resetP (xs.map Zv.z) i = rr at *
  generalize (⟨0, v.z.fc, []⟩ : Zn) = zz at *
  unfold zv GaveZ Acted at *
  go_enter Tryz.func49, Tryz.ntmps49
  go_upto_region 1 with fail
  generalize (w.alloc (.cells #[.int .i64 x.c.d, .int .i64 (i : Int), .int .i64 x.c.epoch, .int .i64 x.c.off, .int .i64 x.c.n, .slice x.B x.c.b.length x.k] 43)).alloc (.cells #[.int .i64 0, .int .i64 0, .slice none 0 0] 39) = w1 at *
  go_cut [5, 6] (fun s t wx => ∃ gz X q, s = .pointer (some ⟨gz, 0, none⟩) ∧ t = .int .i64 0 ∧ Hid (Box wx gz zz X q ∧ Row cb wx X zz.data.length q zz.data ∧ Below w1.heap.size w1 wx ∧ Lo k.g X))
  case first =>
    have H2 : Hid (Desk k xs w1.drew) := H1.out.below (Below.refl _ w1).drew
    have C2 : Hid (CBox w1.drew w.heap.size x.c.d i x.c.epoch x.c.off x.c.n x.B x.c.b.length x.k) := C1
    have L2 : Hid (Below w1.heap.size w1 w1.drew) := (Below.refl _ w1).drew
    refine wp_region_held_drew (S := fun W => (W.cell? ⟨k.g, 0, none⟩ = some (.int .i64 k.cap) ∧ W.cell? ⟨k.g, 3, none⟩ = some (.slice (some ⟨k.q, k.o, none⟩) k.n k.c)) ∧ (W.cell? ⟨w.heap.size, 1, none⟩ = some (.int .i64 (i : Int)) ∧ W.cell? ⟨w.heap.size, 2, none⟩ = some (.int .i64 x.c.epoch) ∧ W.cell? ⟨w.heap.size, 3, none⟩ = some (.int .i64 x.c.off) ∧ W.cell? ⟨w.heap.size, 4, none⟩ = some (.int .i64 x.c.n) ∧ W.cell? ⟨w.heap.size, 5, none⟩ = some (.slice x.B x.c.b.length x.k)) ∧ (W.cell? ⟨k.q, k.o + i * 3, none⟩ = some (.int .i64 v.z.st) ∧ W.cell? ⟨k.q, k.o + i * 3 + 1, none⟩ = some (.int .i64 v.z.fc) ∧ W.cell? ⟨k.q, k.o + i * 3 + 2, none⟩ = some (.slice v.D v.z.data.length v.c)))
      (by kernel_rfl) (hcell _ H2.out C2.out) (fun hHeld => ?_)
    generalize w1.drew = w2 at *
    refine Reg.tk 0 rfl ?_
    refine Reg.tk 1 rfl ?_
    refine Reg.tk 2 rfl ?_
    refine Reg.tk 3 rfl ?_
    refine Reg.tk 4 rfl ?_
    refine Reg.tk 5 rfl ?_
    refine Reg.tk 6 rfl ?_
    refine Reg.tk 7 rfl ?_
    refine Reg.tk 8 rfl ?_
    refine Reg.step2 9 13 rfl rfl (by kernel_rfl) (by rfl) (by rfl) (fun K hK => ?_) (fun K hK => ?_)
    · go_simp
      refine (HC w2 (H2.out.data_at HV.out)).out.mono ?_
      rintro e w3 ⟨X, q, rfl, hX, hb⟩
      have LO := Lib.hid (lo_own hX (Nat.le_of_lt H2.out.g_lt))
      unfold zv
      have RX := Lib.hid hX
      have H3 := Lib.hid (H2.out.below hb)
      have C3 := Lib.hid (CBox.below C2.out hb)
      have L3 := Lib.hid (L2.out.trans (hb.mono L2.out.size))
      clear hX hb H2 C2 L2
      refine hK.out _ _ (hcell _ H3.out C3.out) (fun hHeld2 => ?_)
      clear hK K
      (try simp only [Act.put, List.setIfInBounds_toArray, List.set_cons_zero, List.set_cons_succ])
      refine Reg.tk 10 rfl ?_
      refine Reg.tk 11 rfl ?_
      refine Reg.tk 12 rfl ?_
      refine Reg.step 13 rfl (by kernel_rfl) (by rfl) (fun K hK => ?_)
      go_simp
      have b4 : Below w3.heap.size w3 (w3.alloc (.cells #[.int .i64 0, .int .i64 0, .slice none 0 0] 54)) := (Below.refl _ w3).alloc (Nat.le_refl _) _
      refine hK.out _ _ (hcell _ (H3.out.below b4) (CBox.below C3.out b4)) (fun hHeld2 => ?_)
      clear hK K b4
      (try simp only [Act.put, List.setIfInBounds_toArray, List.set_cons_zero, List.set_cons_succ])
      refine Reg.step 14 rfl (by kernel_rfl) (by rfl) (fun K hK => ?_)
      go_simp
      have b4 : Below w3.heap.size w3 (w3.alloc (.cells #[.int .i64 zz.st, .int .i64 zz.fc, .slice X zz.data.length q] 54)) := (Below.refl _ w3).alloc (Nat.le_refl _) _
      have Z4 : Hid (Box (w3.alloc (.cells #[.int .i64 zz.st, .int .i64 zz.fc, .slice X zz.data.length q] 54)) w3.heap.size zz X q) := Box.new w3 zz X q
      have R4 := Lib.hid (Row.below (gave_row RX.out HZL.out).1 b4)
      have L4 := Lib.hid (L3.out.trans (b4.mono L3.out.size))
      refine hK.out _ _ (hcell _ (H3.out.below b4) (CBox.below C3.out b4)) (fun hHeld2 => ?_)
      clear hK K b4
      (try simp only [Act.put, List.setIfInBounds_toArray, List.set_cons_zero, List.set_cons_succ])
      refine Reg.tk 15 rfl ?_
      refine wpAnyH_done (by kernel_rfl) ?_ _
      go_wp2_with fail
      go_meet
      exact ⟨_, X, q, rfl, rfl, Z4.out, R4.out, L4.out, LO.out⟩
    · go_simp
      have b3 : Below w2.heap.size w2 (w2.alloc (.cells #[.int .i64 0, .int .i64 0, .slice none 0 0] 54)) := (Below.refl _ w2).alloc (Nat.le_refl _) _
      have Y3 : Hid (Box (w2.alloc (.cells #[.int .i64 0, .int .i64 0, .slice none 0 0] 54)) w2.heap.size nilZ none 0) := Box.new w2 nilZ none 0
      have G3 : Hid (w1.heap.size ≤ w2.heap.size) := L2.out.size
      have H3 := Lib.hid (H2.out.below b3)
      have C3 := Lib.hid (CBox.below C2.out b3)
      have L3 := Lib.hid (L2.out.trans (b3.mono L2.out.size))
      refine hK.out _ _ (hcell _ H3.out C3.out) (fun hHeld2 => ?_)
      have hg2 : Hid (k.g < w2.heap.size ∧ k.q < w2.heap.size ∧ w.heap.size < w2.heap.size) := ⟨H2.out.g_lt, H2.out.q_lt, Cells.lt C2.out⟩
      clear hK K b3 H2 C2 L2
      (try simp only [Act.put, List.setIfInBounds_toArray, List.set_cons_zero, List.set_cons_succ])
      generalize w2.alloc (.cells #[.int .i64 0, .int .i64 0, .slice none 0 0] 54) = w3 at *
      generalize w2.heap.size = g2 at *
      refine Reg.step 9 rfl (by kernel_rfl) (by rfl) (fun K hK => ?_)
      go_simp
      refine (HC w3 (H3.out.data_at HV.out)).out.mono ?_
      rintro e w4 ⟨X, q, rfl, hX, hb⟩
      have LO := Lib.hid (lo_own hX (Nat.le_of_lt H3.out.g_lt))
      unfold zv
      have R4 := Lib.hid (gave_row hX HZL.out).1
      have H4 := Lib.hid (H3.out.below hb)
      have C4 := Lib.hid (CBox.below C3.out hb)
      have L4 := Lib.hid (L3.out.trans (hb.mono L3.out.size))
      have Y4 := Lib.hid (Y3.out.below hb)
      clear hX hb H3 C3 L3 Y3
      refine hK.out _ _ (hcell _ H4.out C4.out) (fun hHeld2 => ?_)
      clear hK K
      (try simp only [Act.put, List.setIfInBounds_toArray, List.set_cons_zero, List.set_cons_succ])
      refine Reg.tk 10 rfl ?_
      refine Reg.tk 11 rfl ?_
      refine Reg.tk 12 rfl ?_
      refine Reg.step 14 rfl (by kernel_rfl) (by rfl) (fun K hK => ?_)
      obtain ⟨f0, f1, f2⟩ := Y4.out.frozen
      obtain ⟨n0, n1, n2⟩ := Y4.out.cells
      go_simp
      have L5 := Lib.hid (below3 (g := g2) L4.out G3.out (.int .i64 zz.st) (.int .i64 zz.fc) (.slice X zz.data.length q))
      have Z5 := Lib.hid (Box.store Y4.out zz X q)
      have R5 := Lib.hid (Box.row3 Y4.out R4.out zz.st zz.fc X zz.data.length q)
      have H5 := Lib.hid (H1.out.below L5.out)
      have C5 := Lib.hid (CBox.below C1.out L5.out)
      clear n0 n1 n2 f0 f1 f2
      refine hK.out _ _ (hcell _ H5.out C5.out) (fun hHeld2 => ?_)
      clear hK K
      (try simp only [Act.put, List.setIfInBounds_toArray, List.set_cons_zero, List.set_cons_succ])
      refine Reg.tk 15 rfl ?_
      refine wpAnyH_done (by kernel_rfl) ?_ _
      go_wp2_with fail
      go_meet
      exact ⟨_, X, q, rfl, rfl, Z5.out, R5.out, L5.out, LO.out⟩
  case rest =>
    obtain ⟨gz, X, q, rfl, rfl, hP⟩ := hcut
    have Z2 := Lib.hid hP.out.1
    have R2 := Lib.hid hP.out.2.1
    have LO2 := Lib.hid hP.out.2.2.2
    have H2 := Lib.hid (H1.out.below hP.out.2.2.1)
    have N2 := Lib.hid (EBox.below N1.out hP.out.2.2.1)
    have L2 := Lib.hid (L1.out.trans (hP.out.2.2.1.mono L1.out.size))
    obtain ⟨c0, c1, c2⟩ := Z2.out.cells
    obtain ⟨y0, y1, y2, y3, y4, y5⟩ := CBox.cells (CBox.below C1.out hP.out.2.2.1)
    clear hP hcell HC C1 H1 L1 N1
    generalize wc = w2 at *
    go_wp2_with fail
    refine (HP w2 zz X q 0 H2.out R2.out LO2.out).out.mono ?_
    rintro e w3 ⟨xs', B, d, rfl, hD, hz, hr, hB⟩
    have N3 := Lib.hid (EBox.but N2.out hB (by have := H0.out.q_lt; omega))
    have D3 := Lib.hid hD
    have Q3 := Lib.hid hr
    have B3 := Lib.hid (But.trans (But.of_below (q := k.q) L2.out) hB)
    have M3 := Lib.hid hz
    clear hB hD hr hz c0 c1 c2 y0 y1 y2 y3 y4 y5 HP
    obtain ⟨n0, n1, n2⟩ := N3.out.cells
    obtain ⟨f0, f1, f2⟩ := N3.out.frozen
    go_wp2_with fail
    refine bodyPost_ret_by (results_cell_row rfl _ _ (w.heap.size + 1) _ _ _ _ rfl (EBox.store N3.out _ _ B _ d) Tryz.underlying39 rfl (by kernel_rfl)) rfl ?_
    have := acted_end H0.out D3.out N3.out (by omega) B3.out _ B d Q3.out M3.out rfl
    rw [← HPL.out]
    exact this

set_option maxRecDepth 100000 in
set_option maxHeartbeats 6400000 in
theorem finish_act {k : Dk} {xs : List Zv} {w : World} {i : Nat} {v : Zv} {x : Cx} (h : Desk k xs w) (hv : xs[i]? = some v) (hzi : x.c.zone = (i : Int)) :
    Calls Tryz.prog 50 #[.pointer (some ⟨k.g, 0, none⟩), cxv x] w (Acted k w (finishP (xs.map Zv.z) i)) := by
  have H0 := Lib.hid h
  have hi0 : (0 : Int) ≤ (i : Int) := by omega
  have hi1 : (i : Int) < (k.n : Int) := by have := (List.getElem?_eq_some_iff.1 hv).1; have := h.len; omega
  obtain ⟨L1, C1, N1⟩ := act_new w x i
  have H1 := Lib.hid (h.below L1.out)
  have HV := Lib.hid hv
  have HA := Lib.hid (atI_of hv)
  have hcell := fun W (h : Desk k xs W) (hb : CBox W w.heap.size x.c.d i x.c.epoch x.c.off x.c.n x.B x.c.b.length x.k) => And.intro (And.intro h.cells.1 h.cells.2.2.2.1) (And.intro (CBox.cells hb).2 (h.elem hv))
  have HC := fun w (h : Row cb w v.D v.z.data.length v.c v.z.data) => Lib.hid (finish_any h)
  have HP := fun w (z : Zn) D c e (h : Desk k xs w) (hr : Row cb w D z.data.length c z.data) (hlo : Lo k.g D) => Lib.hid (put_any z D c e h hv hr hlo)
  have HZL : Hid ((inZ v.z 4).data.length ≤ 140737488351232) := by
    show _ ≤ _
    have := (h.data_at hv).big
    exact this
  clear h hv
  unfold cxv
  rw [hzi]
  have HPL := Lib.hid (show putP (xs.map Zv.z) i (inZ v.z 4) ((0 : Int)) = finishP (xs.map Zv.z) i by unfold finishP putP; rw [HA.out]; rfl)
  generalize finishP (xs.map Zv.z) i = rr at *
  generalize inZ v.z 4 = zz at *
  unfold zv GaveZ Acted at *
  go_enter Tryz.func50, Tryz.ntmps50
  go_upto_region 1 with fail
  generalize (w.alloc (.cells #[.int .i64 x.c.d, .int .i64 (i : Int), .int .i64 x.c.epoch, .int .i64 x.c.off, .int .i64 x.c.n, .slice x.B x.c.b.length x.k] 43)).alloc (.cells #[.int .i64 0, .int .i64 0, .slice none 0 0] 39) = w1 at *
  go_cut [5, 6] (fun s t wx => ∃ gz X q, s = .pointer (some ⟨gz, 0, none⟩) ∧ t = .int .i64 0 ∧ Hid (Box wx gz zz X q ∧ Row cb wx X zz.data.length q zz.data ∧ Below w1.heap.size w1 wx ∧ Lo k.g X))
  case first =>
    have H2 : Hid (Desk k xs w1.drew) := H1.out.below (Below.refl _ w1).drew
    have C2 : Hid (CBox w1.drew w.heap.size x.c.d i x.c.epoch x.c.off x.c.n x.B x.c.b.length x.k) := C1
    have L2 : Hid (Below w1.heap.size w1 w1.drew) := (Below.refl _ w1).drew
    refine wp_region_held_drew (S := fun W => (W.cell? ⟨k.g, 0, none⟩ = some (.int .i64 k.cap) ∧ W.cell? ⟨k.g, 3, none⟩ = some (.slice (some ⟨k.q, k.o, none⟩) k.n k.c)) ∧ (W.cell? ⟨w.heap.size, 1, none⟩ = some (.int .i64 (i : Int)) ∧ W.cell? ⟨w.heap.size, 2, none⟩ = some (.int .i64 x.c.epoch) ∧ W.cell? ⟨w.heap.size, 3, none⟩ = some (.int .i64 x.c.off) ∧ W.cell? ⟨w.heap.size, 4, none⟩ = some (.int .i64 x.c.n) ∧ W.cell? ⟨w.heap.size, 5, none⟩ = some (.slice x.B x.c.b.length x.k)) ∧ (W.cell? ⟨k.q, k.o + i * 3, none⟩ = some (.int .i64 v.z.st) ∧ W.cell? ⟨k.q, k.o + i * 3 + 1, none⟩ = some (.int .i64 v.z.fc) ∧ W.cell? ⟨k.q, k.o + i * 3 + 2, none⟩ = some (.slice v.D v.z.data.length v.c)))
      (by kernel_rfl) (hcell _ H2.out C2.out) (fun hHeld => ?_)
    generalize w1.drew = w2 at *
    refine Reg.tk 0 rfl ?_
    refine Reg.tk 1 rfl ?_
    refine Reg.tk 2 rfl ?_
    refine Reg.tk 3 rfl ?_
    refine Reg.tk 4 rfl ?_
    refine Reg.tk 5 rfl ?_
    refine Reg.tk 6 rfl ?_
    refine Reg.tk 7 rfl ?_
    refine Reg.tk 8 rfl ?_
    refine Reg.step2 9 13 rfl rfl (by kernel_rfl) (by rfl) (by rfl) (fun K hK => ?_) (fun K hK => ?_)
    · go_simp
      refine (HC w2 (H2.out.data_at HV.out)).out.mono ?_
      rintro e w3 ⟨X, q, rfl, hX, hb⟩
      have LO := Lib.hid (lo_own hX (Nat.le_of_lt H2.out.g_lt))
      unfold zv
      have RX := Lib.hid hX
      have H3 := Lib.hid (H2.out.below hb)
      have C3 := Lib.hid (CBox.below C2.out hb)
      have L3 := Lib.hid (L2.out.trans (hb.mono L2.out.size))
      clear hX hb H2 C2 L2
      refine hK.out _ _ (hcell _ H3.out C3.out) (fun hHeld2 => ?_)
      clear hK K
      (try simp only [Act.put, List.setIfInBounds_toArray, List.set_cons_zero, List.set_cons_succ])
      refine Reg.tk 10 rfl ?_
      refine Reg.tk 11 rfl ?_
      refine Reg.tk 12 rfl ?_
      refine Reg.step 13 rfl (by kernel_rfl) (by rfl) (fun K hK => ?_)
      go_simp
      have b4 : Below w3.heap.size w3 (w3.alloc (.cells #[.int .i64 0, .int .i64 0, .slice none 0 0] 54)) := (Below.refl _ w3).alloc (Nat.le_refl _) _
      refine hK.out _ _ (hcell _ (H3.out.below b4) (CBox.below C3.out b4)) (fun hHeld2 => ?_)
      clear hK K b4
      (try simp only [Act.put, List.setIfInBounds_toArray, List.set_cons_zero, List.set_cons_succ])
      refine Reg.step 14 rfl (by kernel_rfl) (by rfl) (fun K hK => ?_)
      go_simp
      have b4 : Below w3.heap.size w3 (w3.alloc (.cells #[.int .i64 zz.st, .int .i64 zz.fc, .slice X zz.data.length q] 54)) := (Below.refl _ w3).alloc (Nat.le_refl _) _
      have Z4 : Hid (Box (w3.alloc (.cells #[.int .i64 zz.st, .int .i64 zz.fc, .slice X zz.data.length q] 54)) w3.heap.size zz X q) := Box.new w3 zz X q
      have R4 := Lib.hid (Row.below (gave_row RX.out HZL.out).1 b4)
      have L4 := Lib.hid (L3.out.trans (b4.mono L3.out.size))
      refine hK.out _ _ (hcell _ (H3.out.below b4) (CBox.below C3.out b4)) (fun hHeld2 => ?_)
      clear hK K b4
      (try simp only [Act.put, List.setIfInBounds_toArray, List.set_cons_zero, List.set_cons_succ])
      refine Reg.tk 15 rfl ?_
      refine wpAnyH_done (by kernel_rfl) ?_ _
      go_wp2_with fail
      go_meet
      exact ⟨_, X, q, rfl, rfl, Z4.out, R4.out, L4.out, LO.out⟩
    · go_simp
      have b3 : Below w2.heap.size w2 (w2.alloc (.cells #[.int .i64 0, .int .i64 0, .slice none 0 0] 54)) := (Below.refl _ w2).alloc (Nat.le_refl _) _
      have Y3 : Hid (Box (w2.alloc (.cells #[.int .i64 0, .int .i64 0, .slice none 0 0] 54)) w2.heap.size nilZ none 0) := Box.new w2 nilZ none 0
      have G3 : Hid (w1.heap.size ≤ w2.heap.size) := L2.out.size
      have H3 := Lib.hid (H2.out.below b3)
      have C3 := Lib.hid (CBox.below C2.out b3)
      have L3 := Lib.hid (L2.out.trans (b3.mono L2.out.size))
      refine hK.out _ _ (hcell _ H3.out C3.out) (fun hHeld2 => ?_)
      have hg2 : Hid (k.g < w2.heap.size ∧ k.q < w2.heap.size ∧ w.heap.size < w2.heap.size) := ⟨H2.out.g_lt, H2.out.q_lt, Cells.lt C2.out⟩
      clear hK K b3 H2 C2 L2
      (try simp only [Act.put, List.setIfInBounds_toArray, List.set_cons_zero, List.set_cons_succ])
      generalize w2.alloc (.cells #[.int .i64 0, .int .i64 0, .slice none 0 0] 54) = w3 at *
      generalize w2.heap.size = g2 at *
      refine Reg.step 9 rfl (by kernel_rfl) (by rfl) (fun K hK => ?_)
      go_simp
      refine (HC w3 (H3.out.data_at HV.out)).out.mono ?_
      rintro e w4 ⟨X, q, rfl, hX, hb⟩
      have LO := Lib.hid (lo_own hX (Nat.le_of_lt H3.out.g_lt))
      unfold zv
      have R4 := Lib.hid (gave_row hX HZL.out).1
      have H4 := Lib.hid (H3.out.below hb)
      have C4 := Lib.hid (CBox.below C3.out hb)
      have L4 := Lib.hid (L3.out.trans (hb.mono L3.out.size))
      have Y4 := Lib.hid (Y3.out.below hb)
      clear hX hb H3 C3 L3 Y3
      refine hK.out _ _ (hcell _ H4.out C4.out) (fun hHeld2 => ?_)
      clear hK K
      (try simp only [Act.put, List.setIfInBounds_toArray, List.set_cons_zero, List.set_cons_succ])
      refine Reg.tk 10 rfl ?_
      refine Reg.tk 11 rfl ?_
      refine Reg.tk 12 rfl ?_
      refine Reg.step 14 rfl (by kernel_rfl) (by rfl) (fun K hK => ?_)
      obtain ⟨f0, f1, f2⟩ := Y4.out.frozen
      obtain ⟨n0, n1, n2⟩ := Y4.out.cells
      go_simp
      have L5 := Lib.hid (below3 (g := g2) L4.out G3.out (.int .i64 zz.st) (.int .i64 zz.fc) (.slice X zz.data.length q))
      have Z5 := Lib.hid (Box.store Y4.out zz X q)
      have R5 := Lib.hid (Box.row3 Y4.out R4.out zz.st zz.fc X zz.data.length q)
      have H5 := Lib.hid (H1.out.below L5.out)
      have C5 := Lib.hid (CBox.below C1.out L5.out)
      clear n0 n1 n2 f0 f1 f2
      refine hK.out _ _ (hcell _ H5.out C5.out) (fun hHeld2 => ?_)
      clear hK K
      (try simp only [Act.put, List.setIfInBounds_toArray, List.set_cons_zero, List.set_cons_succ])
      refine Reg.tk 15 rfl ?_
      refine wpAnyH_done (by kernel_rfl) ?_ _
      go_wp2_with fail
      go_meet
      exact ⟨_, X, q, rfl, rfl, Z5.out, R5.out, L5.out, LO.out⟩
  case rest =>
    obtain ⟨gz, X, q, rfl, rfl, hP⟩ := hcut
    have Z2 := Lib.hid hP.out.1
    have R2 := Lib.hid hP.out.2.1
    have LO2 := Lib.hid hP.out.2.2.2
    have H2 := Lib.hid (H1.out.below hP.out.2.2.1)
    have N2 := Lib.hid (EBox.below N1.out hP.out.2.2.1)
    have L2 := Lib.hid (L1.out.trans (hP.out.2.2.1.mono L1.out.size))
    obtain ⟨c0, c1, c2⟩ := Z2.out.cells
    obtain ⟨y0, y1, y2, y3, y4, y5⟩ := CBox.cells (CBox.below C1.out hP.out.2.2.1)
    clear hP hcell HC C1 H1 L1 N1
    generalize wc = w2 at *
    go_wp2_with fail
    refine (HP w2 zz X q 0 H2.out R2.out LO2.out).out.mono ?_
    rintro e w3 ⟨xs', B, d, rfl, hD, hz, hr, hB⟩
    have N3 := Lib.hid (EBox.but N2.out hB (by have := H0.out.q_lt; omega))
    have D3 := Lib.hid hD
    have Q3 := Lib.hid hr
    have B3 := Lib.hid (But.trans (But.of_below (q := k.q) L2.out) hB)
    have M3 := Lib.hid hz
    clear hB hD hr hz c0 c1 c2 y0 y1 y2 y3 y4 y5 HP
    obtain ⟨n0, n1, n2⟩ := N3.out.cells
    obtain ⟨f0, f1, f2⟩ := N3.out.frozen
    go_wp2_with fail
    refine bodyPost_ret_by (results_cell_row rfl _ _ (w.heap.size + 1) _ _ _ _ rfl (EBox.store N3.out _ _ B _ d) Tryz.underlying39 rfl (by kernel_rfl)) rfl ?_
    have := acted_end H0.out D3.out N3.out (by omega) B3.out _ B d Q3.out M3.out rfl
    rw [← HPL.out]
    exact this

set_option maxRecDepth 100000 in
set_option maxHeartbeats 6400000 in
theorem close_act {k : Dk} {xs : List Zv} {w : World} {i : Nat} {v : Zv} {x : Cx} (h : Desk k xs w) (hv : xs[i]? = some v) (hzi : x.c.zone = (i : Int)) :
    Calls Tryz.prog 52 #[.pointer (some ⟨k.g, 0, none⟩), cxv x] w (Acted k w (closeP (xs.map Zv.z) i)) := by
  have H0 := Lib.hid h
  have hi0 : (0 : Int) ≤ (i : Int) := by omega
  have hi1 : (i : Int) < (k.n : Int) := by have := (List.getElem?_eq_some_iff.1 hv).1; have := h.len; omega
  obtain ⟨L1, C1, N1⟩ := act_new w x i
  have H1 := Lib.hid (h.below L1.out)
  have HV := Lib.hid hv
  have HA := Lib.hid (atI_of hv)
  have hcell := fun W (h : Desk k xs W) (hb : CBox W w.heap.size x.c.d i x.c.epoch x.c.off x.c.n x.B x.c.b.length x.k) => And.intro (And.intro h.cells.1 h.cells.2.2.2.1) (And.intro (CBox.cells hb).2 (h.elem hv))
  have HC := fun w (h : Row cb w v.D v.z.data.length v.c v.z.data) => Lib.hid (close_any h)
  have HP := fun w (z : Zn) D c e (h : Desk k xs w) (hr : Row cb w D z.data.length c z.data) (hlo : Lo k.g D) => Lib.hid (put_any z D c e h hv hr hlo)
  have HZL : Hid ((closeZ v.z).data.length ≤ 140737488351232) := by
    show _ ≤ _
    have := (h.data_at hv).big
    unfold closeZ
    rcases (v.z.st == 0 || v.z.st == 4)
    · rcases (v.z.data.length == 0) <;> exact this
    · exact Nat.zero_le _
  clear h hv
  unfold cxv
  rw [hzi]
  have HPL := Lib.hid (show putP (xs.map Zv.z) i (closeZ v.z) (closeErr v.z) = closeP (xs.map Zv.z) i by unfold closeP putP; rw [HA.out])
  generalize closeP (xs.map Zv.z) i = rr at *
  generalize closeErr v.z = er at *
  generalize closeZ v.z = zz at *
  unfold zv GaveZ Acted at *
  go_enter Tryz.func52, Tryz.ntmps52
  go_upto_region 1 with fail
  generalize (w.alloc (.cells #[.int .i64 x.c.d, .int .i64 (i : Int), .int .i64 x.c.epoch, .int .i64 x.c.off, .int .i64 x.c.n, .slice x.B x.c.b.length x.k] 43)).alloc (.cells #[.int .i64 0, .int .i64 0, .slice none 0 0] 39) = w1 at *
  go_cut [5, 6] (fun s t wx => ∃ gz X q, s = .pointer (some ⟨gz, 0, none⟩) ∧ t = .int .i64 er ∧ Hid (Box wx gz zz X q ∧ Row cb wx X zz.data.length q zz.data ∧ Below w1.heap.size w1 wx ∧ Lo k.g X))
  case first =>
    have H2 : Hid (Desk k xs w1.drew) := H1.out.below (Below.refl _ w1).drew
    have C2 : Hid (CBox w1.drew w.heap.size x.c.d i x.c.epoch x.c.off x.c.n x.B x.c.b.length x.k) := C1
    have L2 : Hid (Below w1.heap.size w1 w1.drew) := (Below.refl _ w1).drew
    refine wp_region_held_drew (S := fun W => (W.cell? ⟨k.g, 0, none⟩ = some (.int .i64 k.cap) ∧ W.cell? ⟨k.g, 3, none⟩ = some (.slice (some ⟨k.q, k.o, none⟩) k.n k.c)) ∧ (W.cell? ⟨w.heap.size, 1, none⟩ = some (.int .i64 (i : Int)) ∧ W.cell? ⟨w.heap.size, 2, none⟩ = some (.int .i64 x.c.epoch) ∧ W.cell? ⟨w.heap.size, 3, none⟩ = some (.int .i64 x.c.off) ∧ W.cell? ⟨w.heap.size, 4, none⟩ = some (.int .i64 x.c.n) ∧ W.cell? ⟨w.heap.size, 5, none⟩ = some (.slice x.B x.c.b.length x.k)) ∧ (W.cell? ⟨k.q, k.o + i * 3, none⟩ = some (.int .i64 v.z.st) ∧ W.cell? ⟨k.q, k.o + i * 3 + 1, none⟩ = some (.int .i64 v.z.fc) ∧ W.cell? ⟨k.q, k.o + i * 3 + 2, none⟩ = some (.slice v.D v.z.data.length v.c)))
      (by kernel_rfl) (hcell _ H2.out C2.out) (fun hHeld => ?_)
    generalize w1.drew = w2 at *
    refine Reg.tk 0 rfl ?_
    refine Reg.tk 1 rfl ?_
    refine Reg.tk 2 rfl ?_
    refine Reg.tk 3 rfl ?_
    refine Reg.tk 4 rfl ?_
    refine Reg.tk 5 rfl ?_
    refine Reg.tk 6 rfl ?_
    refine Reg.tk 7 rfl ?_
    refine Reg.tk 8 rfl ?_
    refine Reg.step2 9 13 rfl rfl (by kernel_rfl) (by rfl) (by rfl) (fun K hK => ?_) (fun K hK => ?_)
    · go_simp
      refine (HC w2 (H2.out.data_at HV.out)).out.mono ?_
      rintro e w3 ⟨X, q, rfl, hX, hb⟩
      have LO := Lib.hid (lo_own hX (Nat.le_of_lt H2.out.g_lt))
      unfold zv
      have RX := Lib.hid hX
      have H3 := Lib.hid (H2.out.below hb)
      have C3 := Lib.hid (CBox.below C2.out hb)
      have L3 := Lib.hid (L2.out.trans (hb.mono L2.out.size))
      clear hX hb H2 C2 L2
      refine hK.out _ _ (hcell _ H3.out C3.out) (fun hHeld2 => ?_)
      clear hK K
      (try simp only [Act.put, List.setIfInBounds_toArray, List.set_cons_zero, List.set_cons_succ])
      refine Reg.tk 10 rfl ?_
      refine Reg.tk 11 rfl ?_
      refine Reg.tk 12 rfl ?_
      refine Reg.step 13 rfl (by kernel_rfl) (by rfl) (fun K hK => ?_)
      go_simp
      have b4 : Below w3.heap.size w3 (w3.alloc (.cells #[.int .i64 0, .int .i64 0, .slice none 0 0] 54)) := (Below.refl _ w3).alloc (Nat.le_refl _) _
      refine hK.out _ _ (hcell _ (H3.out.below b4) (CBox.below C3.out b4)) (fun hHeld2 => ?_)
      clear hK K b4
      (try simp only [Act.put, List.setIfInBounds_toArray, List.set_cons_zero, List.set_cons_succ])
      refine Reg.step 14 rfl (by kernel_rfl) (by rfl) (fun K hK => ?_)
      go_simp
      have b4 : Below w3.heap.size w3 (w3.alloc (.cells #[.int .i64 zz.st, .int .i64 zz.fc, .slice X zz.data.length q] 54)) := (Below.refl _ w3).alloc (Nat.le_refl _) _
      have Z4 : Hid (Box (w3.alloc (.cells #[.int .i64 zz.st, .int .i64 zz.fc, .slice X zz.data.length q] 54)) w3.heap.size zz X q) := Box.new w3 zz X q
      have R4 := Lib.hid (Row.below (gave_row RX.out HZL.out).1 b4)
      have L4 := Lib.hid (L3.out.trans (b4.mono L3.out.size))
      refine hK.out _ _ (hcell _ (H3.out.below b4) (CBox.below C3.out b4)) (fun hHeld2 => ?_)
      clear hK K b4
      (try simp only [Act.put, List.setIfInBounds_toArray, List.set_cons_zero, List.set_cons_succ])
      refine Reg.tk 15 rfl ?_
      refine wpAnyH_done (by kernel_rfl) ?_ _
      go_wp2_with fail
      go_meet
      exact ⟨_, X, q, rfl, rfl, Z4.out, R4.out, L4.out, LO.out⟩
    · go_simp
      have b3 : Below w2.heap.size w2 (w2.alloc (.cells #[.int .i64 0, .int .i64 0, .slice none 0 0] 54)) := (Below.refl _ w2).alloc (Nat.le_refl _) _
      have Y3 : Hid (Box (w2.alloc (.cells #[.int .i64 0, .int .i64 0, .slice none 0 0] 54)) w2.heap.size nilZ none 0) := Box.new w2 nilZ none 0
      have G3 : Hid (w1.heap.size ≤ w2.heap.size) := L2.out.size
      have H3 := Lib.hid (H2.out.below b3)
      have C3 := Lib.hid (CBox.below C2.out b3)
      have L3 := Lib.hid (L2.out.trans (b3.mono L2.out.size))
      refine hK.out _ _ (hcell _ H3.out C3.out) (fun hHeld2 => ?_)
      have hg2 : Hid (k.g < w2.heap.size ∧ k.q < w2.heap.size ∧ w.heap.size < w2.heap.size) := ⟨H2.out.g_lt, H2.out.q_lt, Cells.lt C2.out⟩
      clear hK K b3 H2 C2 L2
      (try simp only [Act.put, List.setIfInBounds_toArray, List.set_cons_zero, List.set_cons_succ])
      generalize w2.alloc (.cells #[.int .i64 0, .int .i64 0, .slice none 0 0] 54) = w3 at *
      generalize w2.heap.size = g2 at *
      refine Reg.step 9 rfl (by kernel_rfl) (by rfl) (fun K hK => ?_)
      go_simp
      refine (HC w3 (H3.out.data_at HV.out)).out.mono ?_
      rintro e w4 ⟨X, q, rfl, hX, hb⟩
      have LO := Lib.hid (lo_own hX (Nat.le_of_lt H3.out.g_lt))
      unfold zv
      have R4 := Lib.hid (gave_row hX HZL.out).1
      have H4 := Lib.hid (H3.out.below hb)
      have C4 := Lib.hid (CBox.below C3.out hb)
      have L4 := Lib.hid (L3.out.trans (hb.mono L3.out.size))
      have Y4 := Lib.hid (Y3.out.below hb)
      clear hX hb H3 C3 L3 Y3
      refine hK.out _ _ (hcell _ H4.out C4.out) (fun hHeld2 => ?_)
      clear hK K
      (try simp only [Act.put, List.setIfInBounds_toArray, List.set_cons_zero, List.set_cons_succ])
      refine Reg.tk 10 rfl ?_
      refine Reg.tk 11 rfl ?_
      refine Reg.tk 12 rfl ?_
      refine Reg.step 14 rfl (by kernel_rfl) (by rfl) (fun K hK => ?_)
      obtain ⟨f0, f1, f2⟩ := Y4.out.frozen
      obtain ⟨n0, n1, n2⟩ := Y4.out.cells
      go_simp
      have L5 := Lib.hid (below3 (g := g2) L4.out G3.out (.int .i64 zz.st) (.int .i64 zz.fc) (.slice X zz.data.length q))
      have Z5 := Lib.hid (Box.store Y4.out zz X q)
      have R5 := Lib.hid (Box.row3 Y4.out R4.out zz.st zz.fc X zz.data.length q)
      have H5 := Lib.hid (H1.out.below L5.out)
      have C5 := Lib.hid (CBox.below C1.out L5.out)
      clear n0 n1 n2 f0 f1 f2
      refine hK.out _ _ (hcell _ H5.out C5.out) (fun hHeld2 => ?_)
      clear hK K
      (try simp only [Act.put, List.setIfInBounds_toArray, List.set_cons_zero, List.set_cons_succ])
      refine Reg.tk 15 rfl ?_
      refine wpAnyH_done (by kernel_rfl) ?_ _
      go_wp2_with fail
      go_meet
      exact ⟨_, X, q, rfl, rfl, Z5.out, R5.out, L5.out, LO.out⟩
  case rest =>
    obtain ⟨gz, X, q, rfl, rfl, hP⟩ := hcut
    have Z2 := Lib.hid hP.out.1
    have R2 := Lib.hid hP.out.2.1
    have LO2 := Lib.hid hP.out.2.2.2
    have H2 := Lib.hid (H1.out.below hP.out.2.2.1)
    have N2 := Lib.hid (EBox.below N1.out hP.out.2.2.1)
    have L2 := Lib.hid (L1.out.trans (hP.out.2.2.1.mono L1.out.size))
    obtain ⟨c0, c1, c2⟩ := Z2.out.cells
    obtain ⟨y0, y1, y2, y3, y4, y5⟩ := CBox.cells (CBox.below C1.out hP.out.2.2.1)
    clear hP hcell HC C1 H1 L1 N1
    generalize wc = w2 at *
    go_wp2_with fail
    refine (HP w2 zz X q er H2.out R2.out LO2.out).out.mono ?_
    rintro e w3 ⟨xs', B, d, rfl, hD, hz, hr, hB⟩
    have N3 := Lib.hid (EBox.but N2.out hB (by have := H0.out.q_lt; omega))
    have D3 := Lib.hid hD
    have Q3 := Lib.hid hr
    have B3 := Lib.hid (But.trans (But.of_below (q := k.q) L2.out) hB)
    have M3 := Lib.hid hz
    clear hB hD hr hz c0 c1 c2 y0 y1 y2 y3 y4 y5 HP
    obtain ⟨n0, n1, n2⟩ := N3.out.cells
    obtain ⟨f0, f1, f2⟩ := N3.out.frozen
    go_wp2_with fail
    refine bodyPost_ret_by (results_cell_row rfl _ _ (w.heap.size + 1) _ _ _ _ rfl (EBox.store N3.out _ _ B _ d) Tryz.underlying39 rfl (by kernel_rfl)) rfl ?_
    have := acted_end H0.out D3.out N3.out (by omega) B3.out _ B d Q3.out M3.out rfl
    rw [← HPL.out]
    exact this

end Zns
end Go.Proofs.YtedandbkdjmfhaaGreat
/-
  WALKS OVER zns'S ACTS: open, add. (Written by gen_acts.py.)
-/
namespace Go.Proofs.YtedandbkdjmfhaaGreat
open Go.RowKit Mem Zon
namespace Zns

theorem putO_err (op ac : Int) (zs : List Zn) (i : Nat) (z : Zn) : (putO op ac zs i z).2 ≠ 0 → (putO op ac zs i z).1 = zs := by
  unfold putO
  rcases e : ((toCl op ac zs (atI zs i)).2 == 0)
  · intro _; rfl
  · intro h; exact absurd rfl h
theorem appRes_small (z : Zn) (most : Int) (b : List B8) : (appRes z most b).data.length ≤ 65536 := by
  unfold appRes
  rcases e : (appErr z most b.length == 0)
  · exact Nat.zero_le _
  · obtain ⟨h1, -, -, h4⟩ := appErr_zero (beq_iff_eq.1 e)
    obtain ⟨-, p2, -, -, -⟩ := ok_parts h1
    simp only [cond_true]
    unfold appZ
    unfold Zn.len at h4
    rw [List.length_append]
    omega
theorem tornZ_small (z : Zn) (most : Int) (b : List B8) (keep : Int) : (tornZ z most b keep).data.length ≤ 65536 := by
  unfold tornZ
  rcases e : (tornErr z most b keep == 0)
  · exact Nat.zero_le _
  · have e' := e
    unfold tornErr at e'
    rcases e2 : (appErr z most b.length == 0)
    · rw [e2, cond_false] at e'
      rw [e'] at e2; cases e2
    · obtain ⟨h1, -, -, h4⟩ := appErr_zero (beq_iff_eq.1 e2)
      obtain ⟨-, p2, -, -, p5⟩ := ok_parts h1
      unfold Zn.len at h4 p5
      simp only [cond_true]
      rcases (keep == 0)
      · simp only [cond_false]
        unfold appZ
        rw [List.length_append, List.length_take]
        omega
      · simp only [cond_true]
        omega

set_option maxRecDepth 100000 in
set_option maxHeartbeats 6400000 in
theorem open_act {k : Dk} {xs : List Zv} {w : World} {i : Nat} {v : Zv} {x : Cx} (h : Desk k xs w) (hv : xs[i]? = some v) (hzi : x.c.zone = (i : Int)) :
    Calls Tryz.prog 51 #[.pointer (some ⟨k.g, 0, none⟩), cxv x] w (Acted k w (openP k.cap k.op k.ac (xs.map Zv.z) i)) := by
  have H0 := Lib.hid h
  have hi0 : (0 : Int) ≤ (i : Int) := by omega
  have hi1 : (i : Int) < (k.n : Int) := by have := (List.getElem?_eq_some_iff.1 hv).1; have := h.len; omega
  obtain ⟨L1, C1, N1⟩ := act_new w x i
  have H1 := Lib.hid (h.below L1.out)
  have HV := Lib.hid hv
  have HA := Lib.hid (atI_of hv)
  have hcell := fun W (h : Desk k xs W) (hb : CBox W w.heap.size x.c.d i x.c.epoch x.c.off x.c.n x.B x.c.b.length x.k) => And.intro (And.intro h.cells.1 h.cells.2.2.2.1) (And.intro (CBox.cells hb).2 (h.elem hv))
  have HC := fun w (h : Row cb w v.D v.z.data.length v.c v.z.data) => Lib.hid (open_any k.cap h)
  have HP := fun w (z : Zn) D c (h : Desk k xs w) (hr : Row cb w D z.data.length c z.data) (hlo : Lo k.g D) => Lib.hid (putOpen_any z D c h hv hr hlo)
  have HZL : Hid ((openZ v.z k.cap).data.length ≤ 140737488351232) := by
    show _ ≤ _
    have := (h.data_at hv).big
    unfold openZ
    rcases (openErr v.z k.cap == 0)
    · exact Nat.zero_le _
    · exact this
  clear h hv
  unfold cxv
  rw [hzi]
  have HPL := Lib.hid (show (bif openErr v.z k.cap == 0 then ((putO k.op k.ac (xs.map Zv.z) i (openZ v.z k.cap)).1, fail_ (putO k.op k.ac (xs.map Zv.z) i (openZ v.z k.cap)).2) else (xs.map Zv.z, fail_ (openErr v.z k.cap))) = openP k.cap k.op k.ac (xs.map Zv.z) i by unfold openP; rw [HA.out])
  generalize openP k.cap k.op k.ac (xs.map Zv.z) i = rr at *
  generalize openErr v.z k.cap = er at *
  generalize openZ v.z k.cap = zz at *
  unfold zv GaveZ PutO at *
  go_enter Tryz.func51, Tryz.ntmps51
  go_upto_region 1 with fail
  generalize (w.alloc (.cells #[.int .i64 x.c.d, .int .i64 (i : Int), .int .i64 x.c.epoch, .int .i64 x.c.off, .int .i64 x.c.n, .slice x.B x.c.b.length x.k] 43)).alloc (.cells #[.int .i64 0, .int .i64 0, .slice none 0 0] 39) = w1 at *
  go_cut [5, 6] (fun s t wx => ∃ gz X q, s = .pointer (some ⟨gz, 0, none⟩) ∧ t = .int .i64 er ∧ Hid (Box wx gz zz X q ∧ Row cb wx X zz.data.length q zz.data ∧ Below w1.heap.size w1 wx ∧ Lo k.g X))
  case first =>
    have H2 : Hid (Desk k xs w1.drew) := H1.out.below (Below.refl _ w1).drew
    have C2 : Hid (CBox w1.drew w.heap.size x.c.d i x.c.epoch x.c.off x.c.n x.B x.c.b.length x.k) := C1
    have L2 : Hid (Below w1.heap.size w1 w1.drew) := (Below.refl _ w1).drew
    refine wp_region_held_drew (S := fun W => (W.cell? ⟨k.g, 0, none⟩ = some (.int .i64 k.cap) ∧ W.cell? ⟨k.g, 3, none⟩ = some (.slice (some ⟨k.q, k.o, none⟩) k.n k.c)) ∧ (W.cell? ⟨w.heap.size, 1, none⟩ = some (.int .i64 (i : Int)) ∧ W.cell? ⟨w.heap.size, 2, none⟩ = some (.int .i64 x.c.epoch) ∧ W.cell? ⟨w.heap.size, 3, none⟩ = some (.int .i64 x.c.off) ∧ W.cell? ⟨w.heap.size, 4, none⟩ = some (.int .i64 x.c.n) ∧ W.cell? ⟨w.heap.size, 5, none⟩ = some (.slice x.B x.c.b.length x.k)) ∧ (W.cell? ⟨k.q, k.o + i * 3, none⟩ = some (.int .i64 v.z.st) ∧ W.cell? ⟨k.q, k.o + i * 3 + 1, none⟩ = some (.int .i64 v.z.fc) ∧ W.cell? ⟨k.q, k.o + i * 3 + 2, none⟩ = some (.slice v.D v.z.data.length v.c)))
      (by kernel_rfl) (hcell _ H2.out C2.out) (fun hHeld => ?_)
    generalize w1.drew = w2 at *
    refine Reg.tk 0 rfl ?_
    refine Reg.tk 1 rfl ?_
    refine Reg.tk 2 rfl ?_
    refine Reg.tk 3 rfl ?_
    refine Reg.tk 4 rfl ?_
    refine Reg.tk 5 rfl ?_
    refine Reg.tk 6 rfl ?_
    refine Reg.tk 7 rfl ?_
    refine Reg.tk 8 rfl ?_
    refine Reg.tk 9 rfl ?_
    refine Reg.tk 10 rfl ?_
    refine Reg.tk 11 rfl ?_
    refine Reg.tk 12 rfl ?_
    refine Reg.tk 13 rfl ?_
    refine Reg.step2 14 18 rfl rfl (by kernel_rfl) (by rfl) (by rfl) (fun K hK => ?_) (fun K hK => ?_)
    · go_simp
      refine (HC w2 (H2.out.data_at HV.out)).out.mono ?_
      rintro e w3 ⟨X, q, rfl, hX, hb⟩
      have LO := Lib.hid (lo_own hX (Nat.le_of_lt H2.out.g_lt))
      unfold zv
      have RX := Lib.hid hX
      have H3 := Lib.hid (H2.out.below hb)
      have C3 := Lib.hid (CBox.below C2.out hb)
      have L3 := Lib.hid (L2.out.trans (hb.mono L2.out.size))
      clear hX hb H2 C2 L2
      refine hK.out _ _ (hcell _ H3.out C3.out) (fun hHeld2 => ?_)
      clear hK K
      (try simp only [Act.put, List.setIfInBounds_toArray, List.set_cons_zero, List.set_cons_succ])
      refine Reg.tk 15 rfl ?_
      refine Reg.tk 16 rfl ?_
      refine Reg.tk 17 rfl ?_
      refine Reg.step 18 rfl (by kernel_rfl) (by rfl) (fun K hK => ?_)
      go_simp
      have b4 : Below w3.heap.size w3 (w3.alloc (.cells #[.int .i64 0, .int .i64 0, .slice none 0 0] 54)) := (Below.refl _ w3).alloc (Nat.le_refl _) _
      refine hK.out _ _ (hcell _ (H3.out.below b4) (CBox.below C3.out b4)) (fun hHeld2 => ?_)
      clear hK K b4
      (try simp only [Act.put, List.setIfInBounds_toArray, List.set_cons_zero, List.set_cons_succ])
      refine Reg.step 19 rfl (by kernel_rfl) (by rfl) (fun K hK => ?_)
      go_simp
      have b4 : Below w3.heap.size w3 (w3.alloc (.cells #[.int .i64 zz.st, .int .i64 zz.fc, .slice X zz.data.length q] 54)) := (Below.refl _ w3).alloc (Nat.le_refl _) _
      have Z4 : Hid (Box (w3.alloc (.cells #[.int .i64 zz.st, .int .i64 zz.fc, .slice X zz.data.length q] 54)) w3.heap.size zz X q) := Box.new w3 zz X q
      have R4 := Lib.hid (Row.below (gave_row RX.out HZL.out).1 b4)
      have L4 := Lib.hid (L3.out.trans (b4.mono L3.out.size))
      refine hK.out _ _ (hcell _ (H3.out.below b4) (CBox.below C3.out b4)) (fun hHeld2 => ?_)
      clear hK K b4
      (try simp only [Act.put, List.setIfInBounds_toArray, List.set_cons_zero, List.set_cons_succ])
      refine Reg.tk 20 rfl ?_
      refine wpAnyH_done (by kernel_rfl) ?_ _
      go_wp2_with fail
      go_meet
      exact ⟨_, X, q, rfl, rfl, Z4.out, R4.out, L4.out, LO.out⟩
    · go_simp
      have b3 : Below w2.heap.size w2 (w2.alloc (.cells #[.int .i64 0, .int .i64 0, .slice none 0 0] 54)) := (Below.refl _ w2).alloc (Nat.le_refl _) _
      have Y3 : Hid (Box (w2.alloc (.cells #[.int .i64 0, .int .i64 0, .slice none 0 0] 54)) w2.heap.size nilZ none 0) := Box.new w2 nilZ none 0
      have G3 : Hid (w1.heap.size ≤ w2.heap.size) := L2.out.size
      have H3 := Lib.hid (H2.out.below b3)
      have C3 := Lib.hid (CBox.below C2.out b3)
      have L3 := Lib.hid (L2.out.trans (b3.mono L2.out.size))
      refine hK.out _ _ (hcell _ H3.out C3.out) (fun hHeld2 => ?_)
      have hg2 : Hid (k.g < w2.heap.size ∧ k.q < w2.heap.size ∧ w.heap.size < w2.heap.size) := ⟨H2.out.g_lt, H2.out.q_lt, Cells.lt C2.out⟩
      clear hK K b3 H2 C2 L2
      (try simp only [Act.put, List.setIfInBounds_toArray, List.set_cons_zero, List.set_cons_succ])
      generalize w2.alloc (.cells #[.int .i64 0, .int .i64 0, .slice none 0 0] 54) = w3 at *
      generalize w2.heap.size = g2 at *
      refine Reg.step 14 rfl (by kernel_rfl) (by rfl) (fun K hK => ?_)
      go_simp
      refine (HC w3 (H3.out.data_at HV.out)).out.mono ?_
      rintro e w4 ⟨X, q, rfl, hX, hb⟩
      have LO := Lib.hid (lo_own hX (Nat.le_of_lt H3.out.g_lt))
      unfold zv
      have R4 := Lib.hid (gave_row hX HZL.out).1
      have H4 := Lib.hid (H3.out.below hb)
      have C4 := Lib.hid (CBox.below C3.out hb)
      have L4 := Lib.hid (L3.out.trans (hb.mono L3.out.size))
      have Y4 := Lib.hid (Y3.out.below hb)
      clear hX hb H3 C3 L3 Y3
      refine hK.out _ _ (hcell _ H4.out C4.out) (fun hHeld2 => ?_)
      clear hK K
      (try simp only [Act.put, List.setIfInBounds_toArray, List.set_cons_zero, List.set_cons_succ])
      refine Reg.tk 15 rfl ?_
      refine Reg.tk 16 rfl ?_
      refine Reg.tk 17 rfl ?_
      refine Reg.step 19 rfl (by kernel_rfl) (by rfl) (fun K hK => ?_)
      obtain ⟨f0, f1, f2⟩ := Y4.out.frozen
      obtain ⟨n0, n1, n2⟩ := Y4.out.cells
      go_simp
      have L5 := Lib.hid (below3 (g := g2) L4.out G3.out (.int .i64 zz.st) (.int .i64 zz.fc) (.slice X zz.data.length q))
      have Z5 := Lib.hid (Box.store Y4.out zz X q)
      have R5 := Lib.hid (Box.row3 Y4.out R4.out zz.st zz.fc X zz.data.length q)
      have H5 := Lib.hid (H1.out.below L5.out)
      have C5 := Lib.hid (CBox.below C1.out L5.out)
      clear n0 n1 n2 f0 f1 f2
      refine hK.out _ _ (hcell _ H5.out C5.out) (fun hHeld2 => ?_)
      clear hK K
      (try simp only [Act.put, List.setIfInBounds_toArray, List.set_cons_zero, List.set_cons_succ])
      refine Reg.tk 20 rfl ?_
      refine wpAnyH_done (by kernel_rfl) ?_ _
      go_wp2_with fail
      go_meet
      exact ⟨_, X, q, rfl, rfl, Z5.out, R5.out, L5.out, LO.out⟩
  case rest =>
    obtain ⟨gz, X, q, rfl, rfl, hP⟩ := hcut
    have Z2 := Lib.hid hP.out.1
    have R2 := Lib.hid hP.out.2.1
    have LO2 := Lib.hid hP.out.2.2.2
    have H2 := Lib.hid (H1.out.below hP.out.2.2.1)
    have N2 := Lib.hid (EBox.below N1.out hP.out.2.2.1)
    have L2 := Lib.hid (L1.out.trans (hP.out.2.2.1.mono L1.out.size))
    have B2 := Lib.hid (But.of_below (q := k.q) L2.out)
    have C2 := Lib.hid (CBox.below C1.out hP.out.2.2.1)
    clear hP C1 H1 L1 N1
    generalize wc = w2 at *
    clear hcell HC
    rcases e1 : (er == 0)
    · rw [e1, cond_false] at HPL
      obtain ⟨n0, n1, n2⟩ := N2.out.cells
      obtain ⟨f0, f1, f2⟩ := N2.out.frozen
      go_wp2_with fail
      refine bodyPost_ret_by (results_cell_row rfl _ _ (w.heap.size + 1) _ _ _ _ rfl (EBox.store N2.out er 0 none 0 0) Tryz.underlying39 rfl (by kernel_rfl)) rfl ?_
      rw [← HPL.out]
      exact acted_end H0.out H2.out N2.out (by omega) B2.out ⟨er, 0, []⟩ none 0 (Away.nil _ _) rfl rfl

    · rw [e1, cond_true] at HPL
      obtain ⟨c0, c1, c2⟩ := Z2.out.cells
      obtain ⟨y0, y1, y2, y3, y4, y5⟩ := CBox.cells C2.out
      go_wp2_with fail
      refine (HP w2 zz X q H2.out R2.out LO2.out).out.mono ?_
      rintro e w3 ⟨xs', rfl, hD, hz, hB⟩
      have N3 := Lib.hid (EBox.but N2.out hB (by have := H0.out.q_lt; omega))
      have D3 := Lib.hid hD
      have B3 := Lib.hid (But.trans B2.out hB)
      have M3 := Lib.hid hz
      clear hB hD hz c0 c1 c2 y0 y1 y2 y3 y4 y5 HP
      obtain ⟨n0, n1, n2⟩ := N3.out.cells
      obtain ⟨f0, f1, f2⟩ := N3.out.frozen
      go_wp2_with fail
      refine bodyPost_ret_by (results_cell_row rfl _ _ (w.heap.size + 1) _ _ _ _ rfl (EBox.store N3.out (putO k.op k.ac (xs.map Zv.z) i zz).2 0 none 0 0) Tryz.underlying39 rfl (by kernel_rfl)) rfl ?_
      rw [← HPL.out]
      exact acted_end H0.out D3.out N3.out (by omega) B3.out ⟨(putO k.op k.ac (xs.map Zv.z) i zz).2, 0, []⟩ none 0 (Away.nil _ _) M3.out rfl


set_option maxRecDepth 100000 in
set_option maxHeartbeats 6400000 in
theorem add_act {k : Dk} {xs : List Zv} {w : World} {i : Nat} {v : Zv} {x : Cx} (h : Desk k xs w) (hv : xs[i]? = some v) (hc : CmdAt w x) (hzi : x.c.zone = (i : Int)) :
    Calls Tryz.prog 46 #[.pointer (some ⟨k.g, 0, none⟩), cxv x] w (Acted k w (addP k.cap k.op k.ac (xs.map Zv.z) i x.c)) := by
  have H0 := Lib.hid h
  have hi0 : (0 : Int) ≤ (i : Int) := by omega
  have hi1 : (i : Int) < (k.n : Int) := by have := (List.getElem?_eq_some_iff.1 hv).1; have := h.len; omega
  obtain ⟨L1, C1, N1⟩ := act_new w x i
  have H1 := Lib.hid (h.below L1.out)
  have HV := Lib.hid hv
  have HA := Lib.hid (atI_of hv)
  have hcell := fun W (h : Desk k xs W) (hb : CBox W w.heap.size x.c.d i x.c.epoch x.c.off x.c.n x.B x.c.b.length x.k) => And.intro (And.intro h.cells.1 h.cells.2.2.2.1) (And.intro (CBox.cells hb).2 (h.elem hv))
  have RB := Lib.hid hc.row
  have HC := fun w (h : Row cb w v.D v.z.data.length v.c v.z.data) (h2 : Row cb w x.B x.c.b.length x.k x.c.b) => Lib.hid (append_any (most := k.cap) h h2)
  have HP := fun w (z : Zn) D c (h : Desk k xs w) (hr : Row cb w D z.data.length c z.data) (hlo : Lo k.g D) => Lib.hid (putOpen_any z D c h hv hr hlo)
  have HZL : Hid ((appRes v.z k.cap x.c.b).data.length ≤ 140737488351232) := by
    have := appRes_small v.z k.cap x.c.b
    show _ ≤ _
    omega
  clear h hv hc
  unfold cxv
  rw [hzi]
  have HPL := Lib.hid (show (bif appErr v.z k.cap x.c.b.length == 0 then (bif (putO k.op k.ac (xs.map Zv.z) i (appRes v.z k.cap x.c.b)).2 == 0 then ((putO k.op k.ac (xs.map Zv.z) i (appRes v.z k.cap x.c.b)).1, ⟨0, appAt v.z k.cap x.c.b.length, []⟩) else (xs.map Zv.z, fail_ (putO k.op k.ac (xs.map Zv.z) i (appRes v.z k.cap x.c.b)).2)) else (xs.map Zv.z, fail_ (appErr v.z k.cap x.c.b.length))) = addP k.cap k.op k.ac (xs.map Zv.z) i x.c by
    unfold addP appRes appAt
    rw [HA.out]
    rcases (appErr v.z k.cap x.c.b.length == 0) <;> rfl)
  have HQ := Lib.hid (putO_err k.op k.ac (xs.map Zv.z) i (appRes v.z k.cap x.c.b))
  generalize addP k.cap k.op k.ac (xs.map Zv.z) i x.c = rr at *
  generalize appErr v.z k.cap x.c.b.length = er at *
  generalize appAt v.z k.cap x.c.b.length = at_ at *
  generalize appRes v.z k.cap x.c.b = zz at *
  unfold zv GaveZ PutO at *
  go_enter Tryz.func46, Tryz.ntmps46
  go_upto_region 1 with fail
  generalize (w.alloc (.cells #[.int .i64 x.c.d, .int .i64 (i : Int), .int .i64 x.c.epoch, .int .i64 x.c.off, .int .i64 x.c.n, .slice x.B x.c.b.length x.k] 43)).alloc (.cells #[.int .i64 0, .int .i64 0, .slice none 0 0] 39) = w1 at *
  go_cut [5, 6, 7] (fun s s6 t wx => ∃ gz X q, s = .pointer (some ⟨gz, 0, none⟩) ∧ s6 = .int .i64 at_ ∧ t = .int .i64 er ∧ Hid (Box wx gz zz X q ∧ Row cb wx X zz.data.length q zz.data ∧ Below w1.heap.size w1 wx ∧ Lo k.g X))
  case first =>
    have H2 : Hid (Desk k xs w1.drew) := H1.out.below (Below.refl _ w1).drew
    have C2 : Hid (CBox w1.drew w.heap.size x.c.d i x.c.epoch x.c.off x.c.n x.B x.c.b.length x.k) := C1
    have L2 : Hid (Below w1.heap.size w1 w1.drew) := (Below.refl _ w1).drew
    refine wp_region_held_drew (S := fun W => (W.cell? ⟨k.g, 0, none⟩ = some (.int .i64 k.cap) ∧ W.cell? ⟨k.g, 3, none⟩ = some (.slice (some ⟨k.q, k.o, none⟩) k.n k.c)) ∧ (W.cell? ⟨w.heap.size, 1, none⟩ = some (.int .i64 (i : Int)) ∧ W.cell? ⟨w.heap.size, 2, none⟩ = some (.int .i64 x.c.epoch) ∧ W.cell? ⟨w.heap.size, 3, none⟩ = some (.int .i64 x.c.off) ∧ W.cell? ⟨w.heap.size, 4, none⟩ = some (.int .i64 x.c.n) ∧ W.cell? ⟨w.heap.size, 5, none⟩ = some (.slice x.B x.c.b.length x.k)) ∧ (W.cell? ⟨k.q, k.o + i * 3, none⟩ = some (.int .i64 v.z.st) ∧ W.cell? ⟨k.q, k.o + i * 3 + 1, none⟩ = some (.int .i64 v.z.fc) ∧ W.cell? ⟨k.q, k.o + i * 3 + 2, none⟩ = some (.slice v.D v.z.data.length v.c)))
      (by kernel_rfl) (hcell _ H2.out C2.out) (fun hHeld => ?_)
    generalize w1.drew = w2 at *
    refine Reg.tk 0 rfl ?_
    refine Reg.tk 1 rfl ?_
    refine Reg.tk 2 rfl ?_
    refine Reg.tk 3 rfl ?_
    refine Reg.tk 4 rfl ?_
    refine Reg.tk 5 rfl ?_
    refine Reg.tk 6 rfl ?_
    refine Reg.tk 7 rfl ?_
    refine Reg.tk 8 rfl ?_
    refine Reg.tk 9 rfl ?_
    refine Reg.tk 10 rfl ?_
    refine Reg.tk 11 rfl ?_
    refine Reg.tk 12 rfl ?_
    refine Reg.tk 13 rfl ?_
    refine Reg.tk 14 rfl ?_
    refine Reg.tk 15 rfl ?_
    refine Reg.step2 16 21 rfl rfl (by kernel_rfl) (by rfl) (by rfl) (fun K hK => ?_) (fun K hK => ?_)
    · go_simp
      refine (HC w2 (H2.out.data_at HV.out) ((RB.out.below L1.out).below L2.out)).out.mono ?_
      rintro e w3 ⟨X, q, rfl, hX, hb⟩
      have LO := Lib.hid (lo_own hX (Nat.le_of_lt H2.out.g_lt))
      unfold zv
      have RX := Lib.hid hX
      have H3 := Lib.hid (H2.out.below hb)
      have C3 := Lib.hid (CBox.below C2.out hb)
      have L3 := Lib.hid (L2.out.trans (hb.mono L2.out.size))
      clear hX hb H2 C2 L2
      refine hK.out _ _ (hcell _ H3.out C3.out) (fun hHeld2 => ?_)
      clear hK K
      (try simp only [Act.put, List.setIfInBounds_toArray, List.set_cons_zero, List.set_cons_succ])
      refine Reg.tk 17 rfl ?_
      refine Reg.tk 18 rfl ?_
      refine Reg.tk 19 rfl ?_
      refine Reg.tk 20 rfl ?_
      refine Reg.step 21 rfl (by kernel_rfl) (by rfl) (fun K hK => ?_)
      go_simp
      have b4 : Below w3.heap.size w3 (w3.alloc (.cells #[.int .i64 0, .int .i64 0, .slice none 0 0] 54)) := (Below.refl _ w3).alloc (Nat.le_refl _) _
      refine hK.out _ _ (hcell _ (H3.out.below b4) (CBox.below C3.out b4)) (fun hHeld2 => ?_)
      clear hK K b4
      (try simp only [Act.put, List.setIfInBounds_toArray, List.set_cons_zero, List.set_cons_succ])
      refine Reg.step 22 rfl (by kernel_rfl) (by rfl) (fun K hK => ?_)
      go_simp
      have b4 : Below w3.heap.size w3 (w3.alloc (.cells #[.int .i64 zz.st, .int .i64 zz.fc, .slice X zz.data.length q] 54)) := (Below.refl _ w3).alloc (Nat.le_refl _) _
      have Z4 : Hid (Box (w3.alloc (.cells #[.int .i64 zz.st, .int .i64 zz.fc, .slice X zz.data.length q] 54)) w3.heap.size zz X q) := Box.new w3 zz X q
      have R4 := Lib.hid (Row.below (gave_row RX.out HZL.out).1 b4)
      have L4 := Lib.hid (L3.out.trans (b4.mono L3.out.size))
      refine hK.out _ _ (hcell _ (H3.out.below b4) (CBox.below C3.out b4)) (fun hHeld2 => ?_)
      clear hK K b4
      (try simp only [Act.put, List.setIfInBounds_toArray, List.set_cons_zero, List.set_cons_succ])
      refine Reg.tk 23 rfl ?_
      refine Reg.tk 24 rfl ?_
      refine wpAnyH_done (by kernel_rfl) ?_ _
      go_wp2_with fail
      go_meet
      exact ⟨_, X, q, rfl, rfl, rfl, Z4.out, R4.out, L4.out, LO.out⟩
    · go_simp
      have b3 : Below w2.heap.size w2 (w2.alloc (.cells #[.int .i64 0, .int .i64 0, .slice none 0 0] 54)) := (Below.refl _ w2).alloc (Nat.le_refl _) _
      have Y3 : Hid (Box (w2.alloc (.cells #[.int .i64 0, .int .i64 0, .slice none 0 0] 54)) w2.heap.size nilZ none 0) := Box.new w2 nilZ none 0
      have G3 : Hid (w1.heap.size ≤ w2.heap.size) := L2.out.size
      have H3 := Lib.hid (H2.out.below b3)
      have C3 := Lib.hid (CBox.below C2.out b3)
      have L3 := Lib.hid (L2.out.trans (b3.mono L2.out.size))
      refine hK.out _ _ (hcell _ H3.out C3.out) (fun hHeld2 => ?_)
      have hg2 : Hid (k.g < w2.heap.size ∧ k.q < w2.heap.size ∧ w.heap.size < w2.heap.size) := ⟨H2.out.g_lt, H2.out.q_lt, Cells.lt C2.out⟩
      clear hK K b3 H2 C2 L2
      (try simp only [Act.put, List.setIfInBounds_toArray, List.set_cons_zero, List.set_cons_succ])
      generalize w2.alloc (.cells #[.int .i64 0, .int .i64 0, .slice none 0 0] 54) = w3 at *
      generalize w2.heap.size = g2 at *
      refine Reg.step 16 rfl (by kernel_rfl) (by rfl) (fun K hK => ?_)
      go_simp
      refine (HC w3 (H3.out.data_at HV.out) ((RB.out.below L1.out).below L3.out)).out.mono ?_
      rintro e w4 ⟨X, q, rfl, hX, hb⟩
      have LO := Lib.hid (lo_own hX (Nat.le_of_lt H3.out.g_lt))
      unfold zv
      have R4 := Lib.hid (gave_row hX HZL.out).1
      have H4 := Lib.hid (H3.out.below hb)
      have C4 := Lib.hid (CBox.below C3.out hb)
      have L4 := Lib.hid (L3.out.trans (hb.mono L3.out.size))
      have Y4 := Lib.hid (Y3.out.below hb)
      clear hX hb H3 C3 L3 Y3
      refine hK.out _ _ (hcell _ H4.out C4.out) (fun hHeld2 => ?_)
      clear hK K
      (try simp only [Act.put, List.setIfInBounds_toArray, List.set_cons_zero, List.set_cons_succ])
      refine Reg.tk 17 rfl ?_
      refine Reg.tk 18 rfl ?_
      refine Reg.tk 19 rfl ?_
      refine Reg.tk 20 rfl ?_
      refine Reg.step 22 rfl (by kernel_rfl) (by rfl) (fun K hK => ?_)
      obtain ⟨f0, f1, f2⟩ := Y4.out.frozen
      obtain ⟨n0, n1, n2⟩ := Y4.out.cells
      go_simp
      have L5 := Lib.hid (below3 (g := g2) L4.out G3.out (.int .i64 zz.st) (.int .i64 zz.fc) (.slice X zz.data.length q))
      have Z5 := Lib.hid (Box.store Y4.out zz X q)
      have R5 := Lib.hid (Box.row3 Y4.out R4.out zz.st zz.fc X zz.data.length q)
      have H5 := Lib.hid (H1.out.below L5.out)
      have C5 := Lib.hid (CBox.below C1.out L5.out)
      clear n0 n1 n2 f0 f1 f2
      refine hK.out _ _ (hcell _ H5.out C5.out) (fun hHeld2 => ?_)
      clear hK K
      (try simp only [Act.put, List.setIfInBounds_toArray, List.set_cons_zero, List.set_cons_succ])
      refine Reg.tk 23 rfl ?_
      refine Reg.tk 24 rfl ?_
      refine wpAnyH_done (by kernel_rfl) ?_ _
      go_wp2_with fail
      go_meet
      exact ⟨_, X, q, rfl, rfl, rfl, Z5.out, R5.out, L5.out, LO.out⟩
  case rest =>
    obtain ⟨gz, X, q, rfl, rfl, rfl, hP⟩ := hcut
    have Z2 := Lib.hid hP.out.1
    have R2 := Lib.hid hP.out.2.1
    have LO2 := Lib.hid hP.out.2.2.2
    have H2 := Lib.hid (H1.out.below hP.out.2.2.1)
    have N2 := Lib.hid (EBox.below N1.out hP.out.2.2.1)
    have L2 := Lib.hid (L1.out.trans (hP.out.2.2.1.mono L1.out.size))
    have B2 := Lib.hid (But.of_below (q := k.q) L2.out)
    have C2 := Lib.hid (CBox.below C1.out hP.out.2.2.1)
    clear hP C1 H1 L1 N1
    generalize wc = w2 at *
    clear hcell HC
    rcases e1 : (er == 0)
    · rw [e1, cond_false] at HPL
      have e2 : (er != 0) = true := by rw [bne, e1]; rfl
      obtain ⟨n0, n1, n2⟩ := N2.out.cells
      obtain ⟨f0, f1, f2⟩ := N2.out.frozen
      go_wp2_with fail
      refine bodyPost_ret_by (results_cell_row rfl _ _ (w.heap.size + 1) _ _ _ _ rfl (EBox.store N2.out er 0 none 0 0) Tryz.underlying39 rfl (by kernel_rfl)) rfl ?_
      rw [← HPL.out]
      exact acted_end H0.out H2.out N2.out (by omega) B2.out ⟨er, 0, []⟩ none 0 (Away.nil _ _) rfl rfl

    · rw [e1, cond_true] at HPL
      obtain rfl : er = 0 := beq_iff_eq.1 e1
      generalize hpe : (putO k.op k.ac (xs.map Zv.z) i zz).2 = pe at *
      obtain ⟨c0, c1, c2⟩ := Z2.out.cells
      obtain ⟨y0, y1, y2, y3, y4, y5⟩ := CBox.cells C2.out
      go_wp2_with fail
      refine (HP w2 zz X q H2.out R2.out LO2.out).out.mono ?_
      rintro e w3 ⟨xs', rfl, hD, hz, hB⟩
      have N3 := Lib.hid (EBox.but N2.out hB (by have := H0.out.q_lt; omega))
      have D3 := Lib.hid hD
      have B3 := Lib.hid (But.trans B2.out hB)
      have M3 := Lib.hid hz
      clear hB hD hz c0 c1 c2 y0 y1 y2 y3 y4 y5 HP
      rcases e3 : (pe == 0)
      · rw [e3, cond_false] at HPL
        have e4 : (pe != 0) = true := by rw [bne, e3]; rfl
        have M4 := Lib.hid (M3.out.trans (HQ.out (beq_eq_false_iff_ne.1 e3)))
        obtain ⟨n0, n1, n2⟩ := N3.out.cells
        obtain ⟨f0, f1, f2⟩ := N3.out.frozen
        go_wp2_with fail
        refine bodyPost_ret_by (results_cell_row rfl _ _ (w.heap.size + 1) _ _ _ _ rfl (EBox.store N3.out pe 0 none 0 0) Tryz.underlying39 rfl (by kernel_rfl)) rfl ?_
        rw [← HPL.out]
        exact acted_end H0.out D3.out N3.out (by omega) B3.out ⟨pe, 0, []⟩ none 0 (Away.nil _ _) M4.out rfl

      · rw [e3, cond_true] at HPL
        have e4 : (pe != 0) = false := by rw [bne, e3]; rfl
        obtain ⟨n0, n1, n2⟩ := N3.out.cells
        obtain ⟨f0, f1, f2⟩ := N3.out.frozen
        go_wp2_with fail
        refine bodyPost_ret_by (results_cell_row rfl _ _ (w.heap.size + 1) _ _ _ _ rfl (EBox.store N3.out 0 at_ none 0 0) Tryz.underlying39 rfl (by kernel_rfl)) rfl ?_
        rw [← HPL.out]
        exact acted_end H0.out D3.out N3.out (by omega) B3.out ⟨0, at_, []⟩ none 0 (Away.nil _ _) M3.out rfl

end Zns
end Go.Proofs.YtedandbkdjmfhaaGreat
