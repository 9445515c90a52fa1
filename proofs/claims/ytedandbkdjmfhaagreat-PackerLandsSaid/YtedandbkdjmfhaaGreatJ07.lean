/-
  SEVERAL TEXTS IN ONE FILE: ZnsDoA, ZnsDoB, ZnsDoAny.
-/
import Derived.Test.YtedandbkdjmfhaaGreatJ06
set_option linter.unusedSimpArgs false
set_option linter.unusedVariables false
/-
  WALKS OVER (*desk).do: where it comes to an act. (Written by gen_do.py.)
-/
namespace Go.Proofs.YtedandbkdjmfhaaGreat
open Go.RowKit Mem Zon
namespace Zns

set_option maxRecDepth 100000 in
set_option maxHeartbeats 6400000 in
theorem do_add {k : Dk} {xs : List Zv} {w : World} {r : Nat} {x : Cx} (h : Desk k xs w) (ha : Acts w r k.g) {i : Nat} {v : Zv} (hc : CmdAt w x) (hd : x.c.d = 1) (hv : xs[i]? = some v) (hzi : x.c.zone = (i : Int)) (hep : x.c.epoch = v.z.fc) :
    Calls Tryz.prog 32 #[.pointer (some ⟨k.g, 0, none⟩), cxv x, .map (some r)] w (Acted k w (stepP k.cap k.op k.ac (xs.map Zv.z) x.c)) := by
  have hk : knownB x.c.d = true := by rw [hd]; decide
  have H0 := Lib.hid h
  have HA := Lib.hid ha
  have hln : (xs.map Zv.z).length = k.n := by rw [List.length_map]; exact h.len
  have hlt : (i : Int) < (k.n : Int) := by have := (List.getElem?_eq_some_iff.1 hv).1; have := h.len; omega
  have hi0 : (0 : Int) ≤ (i : Int) := by omega
  have HV := Lib.hid hv
  have hzd : decide ((i : Int) < 0) = false := decide_eq_false (by omega)
  have hzn : decide ((k.n : Int) ≤ (i : Int)) = false := decide_eq_false (by omega)
  obtain ⟨L1, C1, N1⟩ := act_new w x (i : Int)
  have H1 := Lib.hid (h.below L1.out)
  have hlk := run_lookup_act (d := x.c.d) (ha.below L1.out) hk
  have hst : stepP k.cap k.op k.ac (xs.map Zv.z) x.c = (bif !(x.c.d == 7) && !(x.c.epoch == v.z.fc) then (xs.map Zv.z, fail_ 42) else actP k.cap k.op k.ac (xs.map Zv.z) i x.c) := by
    have hcond : (!knownB x.c.d || (decide (x.c.zone < 0) || decide (((xs.map Zv.z).length : Int) ≤ x.c.zone))) = false := by
      rw [hln, hk, hzi, hzd, hzn]; rfl
    have hat := atI_of hv
    unfold stepP
    rw [hcond, hzi, Int.toNat_natCast, hat]
    rfl
  have HPL := Lib.hid (show actP k.cap k.op k.ac (xs.map Zv.z) i x.c = stepP k.cap k.op k.ac (xs.map Zv.z) x.c by rw [hst, hd, hep, beq_self_eq_true]; simp)
  have HPA := Lib.hid (show actP k.cap k.op k.ac (xs.map Zv.z) i x.c = addP k.cap k.op k.ac (xs.map Zv.z) i x.c by unfold actP; rw [hd]; rfl)
  have HD := fun w (h : Desk k xs w) (hc : CmdAt w x) => Lib.hid (add_act (x := x) h hv hc hzi)
  have HCM := Lib.hid hc
  have hfa : actF x.c.d = 46 := by rw [hd]; rfl
  rw [hfa] at hlk
  have e7 : (x.c.d != 7) = true := by rw [hd]; decide
  have ee : (x.c.epoch != v.z.fc) = false := by rw [hep]; simp
  rw [← HPL.out, HPA.out]
  clear h ha hln hst hv hk hc hfa hd hep
  generalize addP k.cap k.op k.ac (xs.map Zv.z) i x.c = rr at *
  unfold cxv Acted at *
  rw [hzi] at HD ⊢
  go_enter Tryz.func32, Tryz.ntmps32
  go_upto_region 1 with fail
  generalize (w.alloc (.cells #[.int .i64 x.c.d, .int .i64 (i : Int), .int .i64 x.c.epoch, .int .i64 x.c.off, .int .i64 x.c.n, .slice x.B x.c.b.length x.k] 43)).alloc (.cells #[.int .i64 0, .int .i64 0, .slice none 0 0] 39) = w1 at *
  obtain ⟨y0, y1, y2, y3, y4, y5⟩ := CBox.cells C1.out
  obtain ⟨d0, d1, d2, d3, d4⟩ := H1.out.cells
  go_upto_region 5 with fail
  have H2 : Hid (Desk k xs w1.drew) := H1.out.below (Below.refl _ w1).drew
  have C2 : Hid (CBox w1.drew w.heap.size x.c.d i x.c.epoch x.c.off x.c.n x.B x.c.b.length x.k) := C1
  have L2 : Hid (Below w.heap.size w w1.drew) := L1.out.drew
  have N2 : Hid (EBox w1.drew (w.heap.size + 1) 0 0 none 0 0) := N1
  clear H1 C1 L1 N1 hlk y0 y1 y2 y3 y4 y5 d0 d1 d2 d3 d4
  refine wp_region_held_drew (S := fun W => (W.cell? ⟨k.g, 3, none⟩ = some (.slice (some ⟨k.q, k.o, none⟩) k.n k.c)) ∧ (W.cell? ⟨w.heap.size, 0, none⟩ = some (.int .i64 x.c.d) ∧ W.cell? ⟨w.heap.size, 1, none⟩ = some (.int .i64 (i : Int)) ∧ W.cell? ⟨w.heap.size, 2, none⟩ = some (.int .i64 x.c.epoch) ∧ W.cell? ⟨w.heap.size, 3, none⟩ = some (.int .i64 x.c.off) ∧ W.cell? ⟨w.heap.size, 4, none⟩ = some (.int .i64 x.c.n) ∧ W.cell? ⟨w.heap.size, 5, none⟩ = some (.slice x.B x.c.b.length x.k)))
    (by kernel_rfl) ⟨H2.out.cells.2.2.2.1, CBox.cells C2.out⟩ (fun hHeld => ?_)
  generalize w1.drew = w2 at *
  refine Reg.tk 0 rfl ?_
  refine Reg.tk 1 rfl ?_
  refine Reg.tk 2 rfl ?_
  refine Reg.tk 3 rfl ?_
  refine Reg.tk 4 rfl ?_
  refine Reg.tk 5 rfl ?_
  refine Reg.tk 6 rfl ?_
  refine Reg.tk 7 rfl ?_
  refine Reg.tk 8 rfl ?_
  refine Reg.tk 9 rfl ?_
  refine wpAnyH_done (by kernel_rfl) ?_ _
  clear hHeld
  go_upto_region 7 with fail
  have H3 : Hid (Desk k xs w2.drew) := H2.out.below (Below.refl _ w2).drew
  have C3 : Hid (CBox w2.drew w.heap.size x.c.d i x.c.epoch x.c.off x.c.n x.B x.c.b.length x.k) := C2
  have L3 : Hid (Below w.heap.size w w2.drew) := L2.out.drew
  have N3 : Hid (EBox w2.drew (w.heap.size + 1) 0 0 none 0 0) := N2
  clear H2 C2 L2 N2
  refine wp_region_held_drew (S := fun W => (W.cell? ⟨k.g, 3, none⟩ = some (.slice (some ⟨k.q, k.o, none⟩) k.n k.c)) ∧ (W.cell? ⟨w.heap.size, 0, none⟩ = some (.int .i64 x.c.d) ∧ W.cell? ⟨w.heap.size, 1, none⟩ = some (.int .i64 (i : Int)) ∧ W.cell? ⟨w.heap.size, 2, none⟩ = some (.int .i64 x.c.epoch) ∧ W.cell? ⟨w.heap.size, 3, none⟩ = some (.int .i64 x.c.off) ∧ W.cell? ⟨w.heap.size, 4, none⟩ = some (.int .i64 x.c.n) ∧ W.cell? ⟨w.heap.size, 5, none⟩ = some (.slice x.B x.c.b.length x.k)) ∧ (W.cell? ⟨k.q, k.o + i * 3, none⟩ = some (.int .i64 v.z.st) ∧ W.cell? ⟨k.q, k.o + i * 3 + 1, none⟩ = some (.int .i64 v.z.fc) ∧ W.cell? ⟨k.q, k.o + i * 3 + 2, none⟩ = some (.slice v.D v.z.data.length v.c)))
    (by kernel_rfl) ⟨H3.out.cells.2.2.2.1, CBox.cells C3.out, H3.out.elem HV.out⟩ (fun hHeld => ?_)
  generalize w2.drew = w3 at *
  refine Reg.tk 0 rfl ?_
  refine Reg.tk 1 rfl ?_
  refine Reg.tk 2 rfl ?_
  refine Reg.tk 3 rfl ?_
  refine Reg.tk 4 rfl ?_
  refine Reg.tk 5 rfl ?_
  refine Reg.tk 6 rfl ?_
  refine Reg.tk 7 rfl ?_
  refine Reg.tk 8 rfl ?_
  refine Reg.tk 9 rfl ?_
  refine Reg.tk 10 rfl ?_
  refine Reg.tk 11 rfl ?_
  refine Reg.tk 12 rfl ?_
  refine Reg.tk 13 rfl ?_
  refine Reg.tk 14 rfl ?_
  refine Reg.tk 15 rfl ?_
  refine Reg.tk 16 rfl ?_
  refine Reg.tk 17 rfl ?_
  refine Reg.tk 18 rfl ?_
  refine wpAnyH_done (by kernel_rfl) ?_ _
  clear hHeld
  obtain ⟨y0, y1, y2, y3, y4, y5⟩ := CBox.cells C3.out
  go_wp2_with fail
  refine (HD w3 H3.out (HCM.out.below L3.out)).out.mono ?_
  rintro e w4 ⟨xs', B, d, rfl, hD, hz, hr, hB⟩
  have N4 := Lib.hid (EBox.but N3.out hB (by have := H0.out.q_lt; omega))
  have D4 := Lib.hid hD
  have Q4 := Lib.hid hr
  have B4 := Lib.hid (But.trans (But.of_below (q := k.q) L3.out) hB)
  have M4 := Lib.hid hz
  clear hB hD hr hz y0 y1 y2 y3 y4 y5 HD
  obtain ⟨n0, n1, n2⟩ := N4.out.cells
  obtain ⟨f0, f1, f2⟩ := N4.out.frozen
  go_wp2_with fail
  refine bodyPost_ret_by (results_cell_row rfl _ _ (w.heap.size + 1) _ _ _ _ rfl (EBox.store N4.out _ _ B _ d) Tryz.underlying39 rfl (by kernel_rfl)) rfl ?_
  exact acted_end H0.out D4.out N4.out (by omega) B4.out _ B d Q4.out M4.out rfl

set_option maxRecDepth 100000 in
set_option maxHeartbeats 6400000 in
theorem do_tear {k : Dk} {xs : List Zv} {w : World} {r : Nat} {x : Cx} (h : Desk k xs w) (ha : Acts w r k.g) {i : Nat} {v : Zv} (hc : CmdAt w x) (hd : x.c.d = 8) (hv : xs[i]? = some v) (hzi : x.c.zone = (i : Int)) (hep : x.c.epoch = v.z.fc) :
    Calls Tryz.prog 32 #[.pointer (some ⟨k.g, 0, none⟩), cxv x, .map (some r)] w (Acted k w (stepP k.cap k.op k.ac (xs.map Zv.z) x.c)) := by
  have hk : knownB x.c.d = true := by rw [hd]; decide
  have H0 := Lib.hid h
  have HA := Lib.hid ha
  have hln : (xs.map Zv.z).length = k.n := by rw [List.length_map]; exact h.len
  have hlt : (i : Int) < (k.n : Int) := by have := (List.getElem?_eq_some_iff.1 hv).1; have := h.len; omega
  have hi0 : (0 : Int) ≤ (i : Int) := by omega
  have HV := Lib.hid hv
  have hzd : decide ((i : Int) < 0) = false := decide_eq_false (by omega)
  have hzn : decide ((k.n : Int) ≤ (i : Int)) = false := decide_eq_false (by omega)
  obtain ⟨L1, C1, N1⟩ := act_new w x (i : Int)
  have H1 := Lib.hid (h.below L1.out)
  have hlk := run_lookup_act (d := x.c.d) (ha.below L1.out) hk
  have hst : stepP k.cap k.op k.ac (xs.map Zv.z) x.c = (bif !(x.c.d == 7) && !(x.c.epoch == v.z.fc) then (xs.map Zv.z, fail_ 42) else actP k.cap k.op k.ac (xs.map Zv.z) i x.c) := by
    have hcond : (!knownB x.c.d || (decide (x.c.zone < 0) || decide (((xs.map Zv.z).length : Int) ≤ x.c.zone))) = false := by
      rw [hln, hk, hzi, hzd, hzn]; rfl
    have hat := atI_of hv
    unfold stepP
    rw [hcond, hzi, Int.toNat_natCast, hat]
    rfl
  have HPL := Lib.hid (show actP k.cap k.op k.ac (xs.map Zv.z) i x.c = stepP k.cap k.op k.ac (xs.map Zv.z) x.c by rw [hst, hd, hep, beq_self_eq_true]; simp)
  have HPA := Lib.hid (show actP k.cap k.op k.ac (xs.map Zv.z) i x.c = tearP k.cap k.op k.ac (xs.map Zv.z) i x.c by unfold actP; rw [hd]; rfl)
  have HD := fun w (h : Desk k xs w) (hc : CmdAt w x) => Lib.hid (tear_act (x := x) h hv hc hzi)
  have HCM := Lib.hid hc
  have hfa : actF x.c.d = 47 := by rw [hd]; rfl
  rw [hfa] at hlk
  have e7 : (x.c.d != 7) = true := by rw [hd]; decide
  have ee : (x.c.epoch != v.z.fc) = false := by rw [hep]; simp
  rw [← HPL.out, HPA.out]
  clear h ha hln hst hv hk hc hfa hd hep
  generalize tearP k.cap k.op k.ac (xs.map Zv.z) i x.c = rr at *
  unfold cxv Acted at *
  rw [hzi] at HD ⊢
  go_enter Tryz.func32, Tryz.ntmps32
  go_upto_region 1 with fail
  generalize (w.alloc (.cells #[.int .i64 x.c.d, .int .i64 (i : Int), .int .i64 x.c.epoch, .int .i64 x.c.off, .int .i64 x.c.n, .slice x.B x.c.b.length x.k] 43)).alloc (.cells #[.int .i64 0, .int .i64 0, .slice none 0 0] 39) = w1 at *
  obtain ⟨y0, y1, y2, y3, y4, y5⟩ := CBox.cells C1.out
  obtain ⟨d0, d1, d2, d3, d4⟩ := H1.out.cells
  go_upto_region 5 with fail
  have H2 : Hid (Desk k xs w1.drew) := H1.out.below (Below.refl _ w1).drew
  have C2 : Hid (CBox w1.drew w.heap.size x.c.d i x.c.epoch x.c.off x.c.n x.B x.c.b.length x.k) := C1
  have L2 : Hid (Below w.heap.size w w1.drew) := L1.out.drew
  have N2 : Hid (EBox w1.drew (w.heap.size + 1) 0 0 none 0 0) := N1
  clear H1 C1 L1 N1 hlk y0 y1 y2 y3 y4 y5 d0 d1 d2 d3 d4
  refine wp_region_held_drew (S := fun W => (W.cell? ⟨k.g, 3, none⟩ = some (.slice (some ⟨k.q, k.o, none⟩) k.n k.c)) ∧ (W.cell? ⟨w.heap.size, 0, none⟩ = some (.int .i64 x.c.d) ∧ W.cell? ⟨w.heap.size, 1, none⟩ = some (.int .i64 (i : Int)) ∧ W.cell? ⟨w.heap.size, 2, none⟩ = some (.int .i64 x.c.epoch) ∧ W.cell? ⟨w.heap.size, 3, none⟩ = some (.int .i64 x.c.off) ∧ W.cell? ⟨w.heap.size, 4, none⟩ = some (.int .i64 x.c.n) ∧ W.cell? ⟨w.heap.size, 5, none⟩ = some (.slice x.B x.c.b.length x.k)))
    (by kernel_rfl) ⟨H2.out.cells.2.2.2.1, CBox.cells C2.out⟩ (fun hHeld => ?_)
  generalize w1.drew = w2 at *
  refine Reg.tk 0 rfl ?_
  refine Reg.tk 1 rfl ?_
  refine Reg.tk 2 rfl ?_
  refine Reg.tk 3 rfl ?_
  refine Reg.tk 4 rfl ?_
  refine Reg.tk 5 rfl ?_
  refine Reg.tk 6 rfl ?_
  refine Reg.tk 7 rfl ?_
  refine Reg.tk 8 rfl ?_
  refine Reg.tk 9 rfl ?_
  refine wpAnyH_done (by kernel_rfl) ?_ _
  clear hHeld
  go_upto_region 7 with fail
  have H3 : Hid (Desk k xs w2.drew) := H2.out.below (Below.refl _ w2).drew
  have C3 : Hid (CBox w2.drew w.heap.size x.c.d i x.c.epoch x.c.off x.c.n x.B x.c.b.length x.k) := C2
  have L3 : Hid (Below w.heap.size w w2.drew) := L2.out.drew
  have N3 : Hid (EBox w2.drew (w.heap.size + 1) 0 0 none 0 0) := N2
  clear H2 C2 L2 N2
  refine wp_region_held_drew (S := fun W => (W.cell? ⟨k.g, 3, none⟩ = some (.slice (some ⟨k.q, k.o, none⟩) k.n k.c)) ∧ (W.cell? ⟨w.heap.size, 0, none⟩ = some (.int .i64 x.c.d) ∧ W.cell? ⟨w.heap.size, 1, none⟩ = some (.int .i64 (i : Int)) ∧ W.cell? ⟨w.heap.size, 2, none⟩ = some (.int .i64 x.c.epoch) ∧ W.cell? ⟨w.heap.size, 3, none⟩ = some (.int .i64 x.c.off) ∧ W.cell? ⟨w.heap.size, 4, none⟩ = some (.int .i64 x.c.n) ∧ W.cell? ⟨w.heap.size, 5, none⟩ = some (.slice x.B x.c.b.length x.k)) ∧ (W.cell? ⟨k.q, k.o + i * 3, none⟩ = some (.int .i64 v.z.st) ∧ W.cell? ⟨k.q, k.o + i * 3 + 1, none⟩ = some (.int .i64 v.z.fc) ∧ W.cell? ⟨k.q, k.o + i * 3 + 2, none⟩ = some (.slice v.D v.z.data.length v.c)))
    (by kernel_rfl) ⟨H3.out.cells.2.2.2.1, CBox.cells C3.out, H3.out.elem HV.out⟩ (fun hHeld => ?_)
  generalize w2.drew = w3 at *
  refine Reg.tk 0 rfl ?_
  refine Reg.tk 1 rfl ?_
  refine Reg.tk 2 rfl ?_
  refine Reg.tk 3 rfl ?_
  refine Reg.tk 4 rfl ?_
  refine Reg.tk 5 rfl ?_
  refine Reg.tk 6 rfl ?_
  refine Reg.tk 7 rfl ?_
  refine Reg.tk 8 rfl ?_
  refine Reg.tk 9 rfl ?_
  refine Reg.tk 10 rfl ?_
  refine Reg.tk 11 rfl ?_
  refine Reg.tk 12 rfl ?_
  refine Reg.tk 13 rfl ?_
  refine Reg.tk 14 rfl ?_
  refine Reg.tk 15 rfl ?_
  refine Reg.tk 16 rfl ?_
  refine Reg.tk 17 rfl ?_
  refine Reg.tk 18 rfl ?_
  refine wpAnyH_done (by kernel_rfl) ?_ _
  clear hHeld
  obtain ⟨y0, y1, y2, y3, y4, y5⟩ := CBox.cells C3.out
  go_wp2_with fail
  refine (HD w3 H3.out (HCM.out.below L3.out)).out.mono ?_
  rintro e w4 ⟨xs', B, d, rfl, hD, hz, hr, hB⟩
  have N4 := Lib.hid (EBox.but N3.out hB (by have := H0.out.q_lt; omega))
  have D4 := Lib.hid hD
  have Q4 := Lib.hid hr
  have B4 := Lib.hid (But.trans (But.of_below (q := k.q) L3.out) hB)
  have M4 := Lib.hid hz
  clear hB hD hr hz y0 y1 y2 y3 y4 y5 HD
  obtain ⟨n0, n1, n2⟩ := N4.out.cells
  obtain ⟨f0, f1, f2⟩ := N4.out.frozen
  go_wp2_with fail
  refine bodyPost_ret_by (results_cell_row rfl _ _ (w.heap.size + 1) _ _ _ _ rfl (EBox.store N4.out _ _ B _ d) Tryz.underlying39 rfl (by kernel_rfl)) rfl ?_
  exact acted_end H0.out D4.out N4.out (by omega) B4.out _ B d Q4.out M4.out rfl

set_option maxRecDepth 100000 in
set_option maxHeartbeats 6400000 in
theorem do_read {k : Dk} {xs : List Zv} {w : World} {r : Nat} {x : Cx} (h : Desk k xs w) (ha : Acts w r k.g) {i : Nat} {v : Zv} (hc : CmdAt w x) (hd : x.c.d = 2) (hv : xs[i]? = some v) (hzi : x.c.zone = (i : Int)) (hep : x.c.epoch = v.z.fc) :
    Calls Tryz.prog 32 #[.pointer (some ⟨k.g, 0, none⟩), cxv x, .map (some r)] w (Acted k w (stepP k.cap k.op k.ac (xs.map Zv.z) x.c)) := by
  have hk : knownB x.c.d = true := by rw [hd]; decide
  have H0 := Lib.hid h
  have HA := Lib.hid ha
  have hln : (xs.map Zv.z).length = k.n := by rw [List.length_map]; exact h.len
  have hlt : (i : Int) < (k.n : Int) := by have := (List.getElem?_eq_some_iff.1 hv).1; have := h.len; omega
  have hi0 : (0 : Int) ≤ (i : Int) := by omega
  have HV := Lib.hid hv
  have hzd : decide ((i : Int) < 0) = false := decide_eq_false (by omega)
  have hzn : decide ((k.n : Int) ≤ (i : Int)) = false := decide_eq_false (by omega)
  obtain ⟨L1, C1, N1⟩ := act_new w x (i : Int)
  have H1 := Lib.hid (h.below L1.out)
  have hlk := run_lookup_act (d := x.c.d) (ha.below L1.out) hk
  have hst : stepP k.cap k.op k.ac (xs.map Zv.z) x.c = (bif !(x.c.d == 7) && !(x.c.epoch == v.z.fc) then (xs.map Zv.z, fail_ 42) else actP k.cap k.op k.ac (xs.map Zv.z) i x.c) := by
    have hcond : (!knownB x.c.d || (decide (x.c.zone < 0) || decide (((xs.map Zv.z).length : Int) ≤ x.c.zone))) = false := by
      rw [hln, hk, hzi, hzd, hzn]; rfl
    have hat := atI_of hv
    unfold stepP
    rw [hcond, hzi, Int.toNat_natCast, hat]
    rfl
  have HPL := Lib.hid (show actP k.cap k.op k.ac (xs.map Zv.z) i x.c = stepP k.cap k.op k.ac (xs.map Zv.z) x.c by rw [hst, hd, hep, beq_self_eq_true]; simp)
  have HPA := Lib.hid (show actP k.cap k.op k.ac (xs.map Zv.z) i x.c = readP (xs.map Zv.z) i x.c by unfold actP; rw [hd]; rfl)
  have HD := fun w (h : Desk k xs w) (hc : CmdAt w x) => Lib.hid (read_act (x := x) h hv hc hzi)
  have HCM := Lib.hid hc
  have hfa : actF x.c.d = 48 := by rw [hd]; rfl
  rw [hfa] at hlk
  have e7 : (x.c.d != 7) = true := by rw [hd]; decide
  have ee : (x.c.epoch != v.z.fc) = false := by rw [hep]; simp
  rw [← HPL.out, HPA.out]
  clear h ha hln hst hv hk hc hfa hd hep
  generalize readP (xs.map Zv.z) i x.c = rr at *
  unfold cxv Acted at *
  rw [hzi] at HD ⊢
  go_enter Tryz.func32, Tryz.ntmps32
  go_upto_region 1 with fail
  generalize (w.alloc (.cells #[.int .i64 x.c.d, .int .i64 (i : Int), .int .i64 x.c.epoch, .int .i64 x.c.off, .int .i64 x.c.n, .slice x.B x.c.b.length x.k] 43)).alloc (.cells #[.int .i64 0, .int .i64 0, .slice none 0 0] 39) = w1 at *
  obtain ⟨y0, y1, y2, y3, y4, y5⟩ := CBox.cells C1.out
  obtain ⟨d0, d1, d2, d3, d4⟩ := H1.out.cells
  go_upto_region 5 with fail
  have H2 : Hid (Desk k xs w1.drew) := H1.out.below (Below.refl _ w1).drew
  have C2 : Hid (CBox w1.drew w.heap.size x.c.d i x.c.epoch x.c.off x.c.n x.B x.c.b.length x.k) := C1
  have L2 : Hid (Below w.heap.size w w1.drew) := L1.out.drew
  have N2 : Hid (EBox w1.drew (w.heap.size + 1) 0 0 none 0 0) := N1
  clear H1 C1 L1 N1 hlk y0 y1 y2 y3 y4 y5 d0 d1 d2 d3 d4
  refine wp_region_held_drew (S := fun W => (W.cell? ⟨k.g, 3, none⟩ = some (.slice (some ⟨k.q, k.o, none⟩) k.n k.c)) ∧ (W.cell? ⟨w.heap.size, 0, none⟩ = some (.int .i64 x.c.d) ∧ W.cell? ⟨w.heap.size, 1, none⟩ = some (.int .i64 (i : Int)) ∧ W.cell? ⟨w.heap.size, 2, none⟩ = some (.int .i64 x.c.epoch) ∧ W.cell? ⟨w.heap.size, 3, none⟩ = some (.int .i64 x.c.off) ∧ W.cell? ⟨w.heap.size, 4, none⟩ = some (.int .i64 x.c.n) ∧ W.cell? ⟨w.heap.size, 5, none⟩ = some (.slice x.B x.c.b.length x.k)))
    (by kernel_rfl) ⟨H2.out.cells.2.2.2.1, CBox.cells C2.out⟩ (fun hHeld => ?_)
  generalize w1.drew = w2 at *
  refine Reg.tk 0 rfl ?_
  refine Reg.tk 1 rfl ?_
  refine Reg.tk 2 rfl ?_
  refine Reg.tk 3 rfl ?_
  refine Reg.tk 4 rfl ?_
  refine Reg.tk 5 rfl ?_
  refine Reg.tk 6 rfl ?_
  refine Reg.tk 7 rfl ?_
  refine Reg.tk 8 rfl ?_
  refine Reg.tk 9 rfl ?_
  refine wpAnyH_done (by kernel_rfl) ?_ _
  clear hHeld
  go_upto_region 7 with fail
  have H3 : Hid (Desk k xs w2.drew) := H2.out.below (Below.refl _ w2).drew
  have C3 : Hid (CBox w2.drew w.heap.size x.c.d i x.c.epoch x.c.off x.c.n x.B x.c.b.length x.k) := C2
  have L3 : Hid (Below w.heap.size w w2.drew) := L2.out.drew
  have N3 : Hid (EBox w2.drew (w.heap.size + 1) 0 0 none 0 0) := N2
  clear H2 C2 L2 N2
  refine wp_region_held_drew (S := fun W => (W.cell? ⟨k.g, 3, none⟩ = some (.slice (some ⟨k.q, k.o, none⟩) k.n k.c)) ∧ (W.cell? ⟨w.heap.size, 0, none⟩ = some (.int .i64 x.c.d) ∧ W.cell? ⟨w.heap.size, 1, none⟩ = some (.int .i64 (i : Int)) ∧ W.cell? ⟨w.heap.size, 2, none⟩ = some (.int .i64 x.c.epoch) ∧ W.cell? ⟨w.heap.size, 3, none⟩ = some (.int .i64 x.c.off) ∧ W.cell? ⟨w.heap.size, 4, none⟩ = some (.int .i64 x.c.n) ∧ W.cell? ⟨w.heap.size, 5, none⟩ = some (.slice x.B x.c.b.length x.k)) ∧ (W.cell? ⟨k.q, k.o + i * 3, none⟩ = some (.int .i64 v.z.st) ∧ W.cell? ⟨k.q, k.o + i * 3 + 1, none⟩ = some (.int .i64 v.z.fc) ∧ W.cell? ⟨k.q, k.o + i * 3 + 2, none⟩ = some (.slice v.D v.z.data.length v.c)))
    (by kernel_rfl) ⟨H3.out.cells.2.2.2.1, CBox.cells C3.out, H3.out.elem HV.out⟩ (fun hHeld => ?_)
  generalize w2.drew = w3 at *
  refine Reg.tk 0 rfl ?_
  refine Reg.tk 1 rfl ?_
  refine Reg.tk 2 rfl ?_
  refine Reg.tk 3 rfl ?_
  refine Reg.tk 4 rfl ?_
  refine Reg.tk 5 rfl ?_
  refine Reg.tk 6 rfl ?_
  refine Reg.tk 7 rfl ?_
  refine Reg.tk 8 rfl ?_
  refine Reg.tk 9 rfl ?_
  refine Reg.tk 10 rfl ?_
  refine Reg.tk 11 rfl ?_
  refine Reg.tk 12 rfl ?_
  refine Reg.tk 13 rfl ?_
  refine Reg.tk 14 rfl ?_
  refine Reg.tk 15 rfl ?_
  refine Reg.tk 16 rfl ?_
  refine Reg.tk 17 rfl ?_
  refine Reg.tk 18 rfl ?_
  refine wpAnyH_done (by kernel_rfl) ?_ _
  clear hHeld
  obtain ⟨y0, y1, y2, y3, y4, y5⟩ := CBox.cells C3.out
  go_wp2_with fail
  refine (HD w3 H3.out (HCM.out.below L3.out)).out.mono ?_
  rintro e w4 ⟨xs', B, d, rfl, hD, hz, hr, hB⟩
  have N4 := Lib.hid (EBox.but N3.out hB (by have := H0.out.q_lt; omega))
  have D4 := Lib.hid hD
  have Q4 := Lib.hid hr
  have B4 := Lib.hid (But.trans (But.of_below (q := k.q) L3.out) hB)
  have M4 := Lib.hid hz
  clear hB hD hr hz y0 y1 y2 y3 y4 y5 HD
  obtain ⟨n0, n1, n2⟩ := N4.out.cells
  obtain ⟨f0, f1, f2⟩ := N4.out.frozen
  go_wp2_with fail
  refine bodyPost_ret_by (results_cell_row rfl _ _ (w.heap.size + 1) _ _ _ _ rfl (EBox.store N4.out _ _ B _ d) Tryz.underlying39 rfl (by kernel_rfl)) rfl ?_
  exact acted_end H0.out D4.out N4.out (by omega) B4.out _ B d Q4.out M4.out rfl

set_option maxRecDepth 100000 in
set_option maxHeartbeats 6400000 in
theorem do_reset {k : Dk} {xs : List Zv} {w : World} {r : Nat} {x : Cx} (h : Desk k xs w) (ha : Acts w r k.g) {i : Nat} {v : Zv} (hc : CmdAt w x) (hd : x.c.d = 3) (hv : xs[i]? = some v) (hzi : x.c.zone = (i : Int)) (hep : x.c.epoch = v.z.fc) :
    Calls Tryz.prog 32 #[.pointer (some ⟨k.g, 0, none⟩), cxv x, .map (some r)] w (Acted k w (stepP k.cap k.op k.ac (xs.map Zv.z) x.c)) := by
  have hk : knownB x.c.d = true := by rw [hd]; decide
  have H0 := Lib.hid h
  have HA := Lib.hid ha
  have hln : (xs.map Zv.z).length = k.n := by rw [List.length_map]; exact h.len
  have hlt : (i : Int) < (k.n : Int) := by have := (List.getElem?_eq_some_iff.1 hv).1; have := h.len; omega
  have hi0 : (0 : Int) ≤ (i : Int) := by omega
  have HV := Lib.hid hv
  have hzd : decide ((i : Int) < 0) = false := decide_eq_false (by omega)
  have hzn : decide ((k.n : Int) ≤ (i : Int)) = false := decide_eq_false (by omega)
  obtain ⟨L1, C1, N1⟩ := act_new w x (i : Int)
  have H1 := Lib.hid (h.below L1.out)
  have hlk := run_lookup_act (d := x.c.d) (ha.below L1.out) hk
  have hst : stepP k.cap k.op k.ac (xs.map Zv.z) x.c = (bif !(x.c.d == 7) && !(x.c.epoch == v.z.fc) then (xs.map Zv.z, fail_ 42) else actP k.cap k.op k.ac (xs.map Zv.z) i x.c) := by
    have hcond : (!knownB x.c.d || (decide (x.c.zone < 0) || decide (((xs.map Zv.z).length : Int) ≤ x.c.zone))) = false := by
      rw [hln, hk, hzi, hzd, hzn]; rfl
    have hat := atI_of hv
    unfold stepP
    rw [hcond, hzi, Int.toNat_natCast, hat]
    rfl
  have HPL := Lib.hid (show actP k.cap k.op k.ac (xs.map Zv.z) i x.c = stepP k.cap k.op k.ac (xs.map Zv.z) x.c by rw [hst, hd, hep, beq_self_eq_true]; simp)
  have HPA := Lib.hid (show actP k.cap k.op k.ac (xs.map Zv.z) i x.c = resetP (xs.map Zv.z) i by unfold actP; rw [hd]; rfl)
  have HD := fun w (h : Desk k xs w) => Lib.hid (reset_act (x := x) h hv hzi)
  have HCM := Lib.hid hc
  have hfa : actF x.c.d = 49 := by rw [hd]; rfl
  rw [hfa] at hlk
  have e7 : (x.c.d != 7) = true := by rw [hd]; decide
  have ee : (x.c.epoch != v.z.fc) = false := by rw [hep]; simp
  rw [← HPL.out, HPA.out]
  clear h ha hln hst hv hk hc hfa hd hep
  generalize resetP (xs.map Zv.z) i = rr at *
  unfold cxv Acted at *
  rw [hzi] at HD ⊢
  go_enter Tryz.func32, Tryz.ntmps32
  go_upto_region 1 with fail
  generalize (w.alloc (.cells #[.int .i64 x.c.d, .int .i64 (i : Int), .int .i64 x.c.epoch, .int .i64 x.c.off, .int .i64 x.c.n, .slice x.B x.c.b.length x.k] 43)).alloc (.cells #[.int .i64 0, .int .i64 0, .slice none 0 0] 39) = w1 at *
  obtain ⟨y0, y1, y2, y3, y4, y5⟩ := CBox.cells C1.out
  obtain ⟨d0, d1, d2, d3, d4⟩ := H1.out.cells
  go_upto_region 5 with fail
  have H2 : Hid (Desk k xs w1.drew) := H1.out.below (Below.refl _ w1).drew
  have C2 : Hid (CBox w1.drew w.heap.size x.c.d i x.c.epoch x.c.off x.c.n x.B x.c.b.length x.k) := C1
  have L2 : Hid (Below w.heap.size w w1.drew) := L1.out.drew
  have N2 : Hid (EBox w1.drew (w.heap.size + 1) 0 0 none 0 0) := N1
  clear H1 C1 L1 N1 hlk y0 y1 y2 y3 y4 y5 d0 d1 d2 d3 d4
  refine wp_region_held_drew (S := fun W => (W.cell? ⟨k.g, 3, none⟩ = some (.slice (some ⟨k.q, k.o, none⟩) k.n k.c)) ∧ (W.cell? ⟨w.heap.size, 0, none⟩ = some (.int .i64 x.c.d) ∧ W.cell? ⟨w.heap.size, 1, none⟩ = some (.int .i64 (i : Int)) ∧ W.cell? ⟨w.heap.size, 2, none⟩ = some (.int .i64 x.c.epoch) ∧ W.cell? ⟨w.heap.size, 3, none⟩ = some (.int .i64 x.c.off) ∧ W.cell? ⟨w.heap.size, 4, none⟩ = some (.int .i64 x.c.n) ∧ W.cell? ⟨w.heap.size, 5, none⟩ = some (.slice x.B x.c.b.length x.k)))
    (by kernel_rfl) ⟨H2.out.cells.2.2.2.1, CBox.cells C2.out⟩ (fun hHeld => ?_)
  generalize w1.drew = w2 at *
  refine Reg.tk 0 rfl ?_
  refine Reg.tk 1 rfl ?_
  refine Reg.tk 2 rfl ?_
  refine Reg.tk 3 rfl ?_
  refine Reg.tk 4 rfl ?_
  refine Reg.tk 5 rfl ?_
  refine Reg.tk 6 rfl ?_
  refine Reg.tk 7 rfl ?_
  refine Reg.tk 8 rfl ?_
  refine Reg.tk 9 rfl ?_
  refine wpAnyH_done (by kernel_rfl) ?_ _
  clear hHeld
  go_upto_region 7 with fail
  have H3 : Hid (Desk k xs w2.drew) := H2.out.below (Below.refl _ w2).drew
  have C3 : Hid (CBox w2.drew w.heap.size x.c.d i x.c.epoch x.c.off x.c.n x.B x.c.b.length x.k) := C2
  have L3 : Hid (Below w.heap.size w w2.drew) := L2.out.drew
  have N3 : Hid (EBox w2.drew (w.heap.size + 1) 0 0 none 0 0) := N2
  clear H2 C2 L2 N2
  refine wp_region_held_drew (S := fun W => (W.cell? ⟨k.g, 3, none⟩ = some (.slice (some ⟨k.q, k.o, none⟩) k.n k.c)) ∧ (W.cell? ⟨w.heap.size, 0, none⟩ = some (.int .i64 x.c.d) ∧ W.cell? ⟨w.heap.size, 1, none⟩ = some (.int .i64 (i : Int)) ∧ W.cell? ⟨w.heap.size, 2, none⟩ = some (.int .i64 x.c.epoch) ∧ W.cell? ⟨w.heap.size, 3, none⟩ = some (.int .i64 x.c.off) ∧ W.cell? ⟨w.heap.size, 4, none⟩ = some (.int .i64 x.c.n) ∧ W.cell? ⟨w.heap.size, 5, none⟩ = some (.slice x.B x.c.b.length x.k)) ∧ (W.cell? ⟨k.q, k.o + i * 3, none⟩ = some (.int .i64 v.z.st) ∧ W.cell? ⟨k.q, k.o + i * 3 + 1, none⟩ = some (.int .i64 v.z.fc) ∧ W.cell? ⟨k.q, k.o + i * 3 + 2, none⟩ = some (.slice v.D v.z.data.length v.c)))
    (by kernel_rfl) ⟨H3.out.cells.2.2.2.1, CBox.cells C3.out, H3.out.elem HV.out⟩ (fun hHeld => ?_)
  generalize w2.drew = w3 at *
  refine Reg.tk 0 rfl ?_
  refine Reg.tk 1 rfl ?_
  refine Reg.tk 2 rfl ?_
  refine Reg.tk 3 rfl ?_
  refine Reg.tk 4 rfl ?_
  refine Reg.tk 5 rfl ?_
  refine Reg.tk 6 rfl ?_
  refine Reg.tk 7 rfl ?_
  refine Reg.tk 8 rfl ?_
  refine Reg.tk 9 rfl ?_
  refine Reg.tk 10 rfl ?_
  refine Reg.tk 11 rfl ?_
  refine Reg.tk 12 rfl ?_
  refine Reg.tk 13 rfl ?_
  refine Reg.tk 14 rfl ?_
  refine Reg.tk 15 rfl ?_
  refine Reg.tk 16 rfl ?_
  refine Reg.tk 17 rfl ?_
  refine Reg.tk 18 rfl ?_
  refine wpAnyH_done (by kernel_rfl) ?_ _
  clear hHeld
  obtain ⟨y0, y1, y2, y3, y4, y5⟩ := CBox.cells C3.out
  go_wp2_with fail
  refine (HD w3 H3.out).out.mono ?_
  rintro e w4 ⟨xs', B, d, rfl, hD, hz, hr, hB⟩
  have N4 := Lib.hid (EBox.but N3.out hB (by have := H0.out.q_lt; omega))
  have D4 := Lib.hid hD
  have Q4 := Lib.hid hr
  have B4 := Lib.hid (But.trans (But.of_below (q := k.q) L3.out) hB)
  have M4 := Lib.hid hz
  clear hB hD hr hz y0 y1 y2 y3 y4 y5 HD
  obtain ⟨n0, n1, n2⟩ := N4.out.cells
  obtain ⟨f0, f1, f2⟩ := N4.out.frozen
  go_wp2_with fail
  refine bodyPost_ret_by (results_cell_row rfl _ _ (w.heap.size + 1) _ _ _ _ rfl (EBox.store N4.out _ _ B _ d) Tryz.underlying39 rfl (by kernel_rfl)) rfl ?_
  exact acted_end H0.out D4.out N4.out (by omega) B4.out _ B d Q4.out M4.out rfl

end Zns
end Go.Proofs.YtedandbkdjmfhaaGreat
/-
  WALKS OVER (*desk).do: where it comes to an act. (Written by gen_do.py.)
-/
namespace Go.Proofs.YtedandbkdjmfhaaGreat
open Go.RowKit Mem Zon
namespace Zns

set_option maxRecDepth 100000 in
set_option maxHeartbeats 6400000 in
theorem do_finish {k : Dk} {xs : List Zv} {w : World} {r : Nat} {x : Cx} (h : Desk k xs w) (ha : Acts w r k.g) {i : Nat} {v : Zv} (hc : CmdAt w x) (hd : x.c.d = 4) (hv : xs[i]? = some v) (hzi : x.c.zone = (i : Int)) (hep : x.c.epoch = v.z.fc) :
    Calls Tryz.prog 32 #[.pointer (some ⟨k.g, 0, none⟩), cxv x, .map (some r)] w (Acted k w (stepP k.cap k.op k.ac (xs.map Zv.z) x.c)) := by
  have hk : knownB x.c.d = true := by rw [hd]; decide
  have H0 := Lib.hid h
  have HA := Lib.hid ha
  have hln : (xs.map Zv.z).length = k.n := by rw [List.length_map]; exact h.len
  have hlt : (i : Int) < (k.n : Int) := by have := (List.getElem?_eq_some_iff.1 hv).1; have := h.len; omega
  have hi0 : (0 : Int) ≤ (i : Int) := by omega
  have HV := Lib.hid hv
  have hzd : decide ((i : Int) < 0) = false := decide_eq_false (by omega)
  have hzn : decide ((k.n : Int) ≤ (i : Int)) = false := decide_eq_false (by omega)
  obtain ⟨L1, C1, N1⟩ := act_new w x (i : Int)
  have H1 := Lib.hid (h.below L1.out)
  have hlk := run_lookup_act (d := x.c.d) (ha.below L1.out) hk
  have hst : stepP k.cap k.op k.ac (xs.map Zv.z) x.c = (bif !(x.c.d == 7) && !(x.c.epoch == v.z.fc) then (xs.map Zv.z, fail_ 42) else actP k.cap k.op k.ac (xs.map Zv.z) i x.c) := by
    have hcond : (!knownB x.c.d || (decide (x.c.zone < 0) || decide (((xs.map Zv.z).length : Int) ≤ x.c.zone))) = false := by
      rw [hln, hk, hzi, hzd, hzn]; rfl
    have hat := atI_of hv
    unfold stepP
    rw [hcond, hzi, Int.toNat_natCast, hat]
    rfl
  have HPL := Lib.hid (show actP k.cap k.op k.ac (xs.map Zv.z) i x.c = stepP k.cap k.op k.ac (xs.map Zv.z) x.c by rw [hst, hd, hep, beq_self_eq_true]; simp)
  have HPA := Lib.hid (show actP k.cap k.op k.ac (xs.map Zv.z) i x.c = finishP (xs.map Zv.z) i by unfold actP; rw [hd]; rfl)
  have HD := fun w (h : Desk k xs w) => Lib.hid (finish_act (x := x) h hv hzi)
  have HCM := Lib.hid hc
  have hfa : actF x.c.d = 50 := by rw [hd]; rfl
  rw [hfa] at hlk
  have e7 : (x.c.d != 7) = true := by rw [hd]; decide
  have ee : (x.c.epoch != v.z.fc) = false := by rw [hep]; simp
  rw [← HPL.out, HPA.out]
  clear h ha hln hst hv hk hc hfa hd hep
  generalize finishP (xs.map Zv.z) i = rr at *
  unfold cxv Acted at *
  rw [hzi] at HD ⊢
  go_enter Tryz.func32, Tryz.ntmps32
  go_upto_region 1 with fail
  generalize (w.alloc (.cells #[.int .i64 x.c.d, .int .i64 (i : Int), .int .i64 x.c.epoch, .int .i64 x.c.off, .int .i64 x.c.n, .slice x.B x.c.b.length x.k] 43)).alloc (.cells #[.int .i64 0, .int .i64 0, .slice none 0 0] 39) = w1 at *
  obtain ⟨y0, y1, y2, y3, y4, y5⟩ := CBox.cells C1.out
  obtain ⟨d0, d1, d2, d3, d4⟩ := H1.out.cells
  go_upto_region 5 with fail
  have H2 : Hid (Desk k xs w1.drew) := H1.out.below (Below.refl _ w1).drew
  have C2 : Hid (CBox w1.drew w.heap.size x.c.d i x.c.epoch x.c.off x.c.n x.B x.c.b.length x.k) := C1
  have L2 : Hid (Below w.heap.size w w1.drew) := L1.out.drew
  have N2 : Hid (EBox w1.drew (w.heap.size + 1) 0 0 none 0 0) := N1
  clear H1 C1 L1 N1 hlk y0 y1 y2 y3 y4 y5 d0 d1 d2 d3 d4
  refine wp_region_held_drew (S := fun W => (W.cell? ⟨k.g, 3, none⟩ = some (.slice (some ⟨k.q, k.o, none⟩) k.n k.c)) ∧ (W.cell? ⟨w.heap.size, 0, none⟩ = some (.int .i64 x.c.d) ∧ W.cell? ⟨w.heap.size, 1, none⟩ = some (.int .i64 (i : Int)) ∧ W.cell? ⟨w.heap.size, 2, none⟩ = some (.int .i64 x.c.epoch) ∧ W.cell? ⟨w.heap.size, 3, none⟩ = some (.int .i64 x.c.off) ∧ W.cell? ⟨w.heap.size, 4, none⟩ = some (.int .i64 x.c.n) ∧ W.cell? ⟨w.heap.size, 5, none⟩ = some (.slice x.B x.c.b.length x.k)))
    (by kernel_rfl) ⟨H2.out.cells.2.2.2.1, CBox.cells C2.out⟩ (fun hHeld => ?_)
  generalize w1.drew = w2 at *
  refine Reg.tk 0 rfl ?_
  refine Reg.tk 1 rfl ?_
  refine Reg.tk 2 rfl ?_
  refine Reg.tk 3 rfl ?_
  refine Reg.tk 4 rfl ?_
  refine Reg.tk 5 rfl ?_
  refine Reg.tk 6 rfl ?_
  refine Reg.tk 7 rfl ?_
  refine Reg.tk 8 rfl ?_
  refine Reg.tk 9 rfl ?_
  refine wpAnyH_done (by kernel_rfl) ?_ _
  clear hHeld
  go_upto_region 7 with fail
  have H3 : Hid (Desk k xs w2.drew) := H2.out.below (Below.refl _ w2).drew
  have C3 : Hid (CBox w2.drew w.heap.size x.c.d i x.c.epoch x.c.off x.c.n x.B x.c.b.length x.k) := C2
  have L3 : Hid (Below w.heap.size w w2.drew) := L2.out.drew
  have N3 : Hid (EBox w2.drew (w.heap.size + 1) 0 0 none 0 0) := N2
  clear H2 C2 L2 N2
  refine wp_region_held_drew (S := fun W => (W.cell? ⟨k.g, 3, none⟩ = some (.slice (some ⟨k.q, k.o, none⟩) k.n k.c)) ∧ (W.cell? ⟨w.heap.size, 0, none⟩ = some (.int .i64 x.c.d) ∧ W.cell? ⟨w.heap.size, 1, none⟩ = some (.int .i64 (i : Int)) ∧ W.cell? ⟨w.heap.size, 2, none⟩ = some (.int .i64 x.c.epoch) ∧ W.cell? ⟨w.heap.size, 3, none⟩ = some (.int .i64 x.c.off) ∧ W.cell? ⟨w.heap.size, 4, none⟩ = some (.int .i64 x.c.n) ∧ W.cell? ⟨w.heap.size, 5, none⟩ = some (.slice x.B x.c.b.length x.k)) ∧ (W.cell? ⟨k.q, k.o + i * 3, none⟩ = some (.int .i64 v.z.st) ∧ W.cell? ⟨k.q, k.o + i * 3 + 1, none⟩ = some (.int .i64 v.z.fc) ∧ W.cell? ⟨k.q, k.o + i * 3 + 2, none⟩ = some (.slice v.D v.z.data.length v.c)))
    (by kernel_rfl) ⟨H3.out.cells.2.2.2.1, CBox.cells C3.out, H3.out.elem HV.out⟩ (fun hHeld => ?_)
  generalize w2.drew = w3 at *
  refine Reg.tk 0 rfl ?_
  refine Reg.tk 1 rfl ?_
  refine Reg.tk 2 rfl ?_
  refine Reg.tk 3 rfl ?_
  refine Reg.tk 4 rfl ?_
  refine Reg.tk 5 rfl ?_
  refine Reg.tk 6 rfl ?_
  refine Reg.tk 7 rfl ?_
  refine Reg.tk 8 rfl ?_
  refine Reg.tk 9 rfl ?_
  refine Reg.tk 10 rfl ?_
  refine Reg.tk 11 rfl ?_
  refine Reg.tk 12 rfl ?_
  refine Reg.tk 13 rfl ?_
  refine Reg.tk 14 rfl ?_
  refine Reg.tk 15 rfl ?_
  refine Reg.tk 16 rfl ?_
  refine Reg.tk 17 rfl ?_
  refine Reg.tk 18 rfl ?_
  refine wpAnyH_done (by kernel_rfl) ?_ _
  clear hHeld
  obtain ⟨y0, y1, y2, y3, y4, y5⟩ := CBox.cells C3.out
  go_wp2_with fail
  refine (HD w3 H3.out).out.mono ?_
  rintro e w4 ⟨xs', B, d, rfl, hD, hz, hr, hB⟩
  have N4 := Lib.hid (EBox.but N3.out hB (by have := H0.out.q_lt; omega))
  have D4 := Lib.hid hD
  have Q4 := Lib.hid hr
  have B4 := Lib.hid (But.trans (But.of_below (q := k.q) L3.out) hB)
  have M4 := Lib.hid hz
  clear hB hD hr hz y0 y1 y2 y3 y4 y5 HD
  obtain ⟨n0, n1, n2⟩ := N4.out.cells
  obtain ⟨f0, f1, f2⟩ := N4.out.frozen
  go_wp2_with fail
  refine bodyPost_ret_by (results_cell_row rfl _ _ (w.heap.size + 1) _ _ _ _ rfl (EBox.store N4.out _ _ B _ d) Tryz.underlying39 rfl (by kernel_rfl)) rfl ?_
  exact acted_end H0.out D4.out N4.out (by omega) B4.out _ B d Q4.out M4.out rfl

set_option maxRecDepth 100000 in
set_option maxHeartbeats 6400000 in
theorem do_open {k : Dk} {xs : List Zv} {w : World} {r : Nat} {x : Cx} (h : Desk k xs w) (ha : Acts w r k.g) {i : Nat} {v : Zv} (hc : CmdAt w x) (hd : x.c.d = 5) (hv : xs[i]? = some v) (hzi : x.c.zone = (i : Int)) (hep : x.c.epoch = v.z.fc) :
    Calls Tryz.prog 32 #[.pointer (some ⟨k.g, 0, none⟩), cxv x, .map (some r)] w (Acted k w (stepP k.cap k.op k.ac (xs.map Zv.z) x.c)) := by
  have hk : knownB x.c.d = true := by rw [hd]; decide
  have H0 := Lib.hid h
  have HA := Lib.hid ha
  have hln : (xs.map Zv.z).length = k.n := by rw [List.length_map]; exact h.len
  have hlt : (i : Int) < (k.n : Int) := by have := (List.getElem?_eq_some_iff.1 hv).1; have := h.len; omega
  have hi0 : (0 : Int) ≤ (i : Int) := by omega
  have HV := Lib.hid hv
  have hzd : decide ((i : Int) < 0) = false := decide_eq_false (by omega)
  have hzn : decide ((k.n : Int) ≤ (i : Int)) = false := decide_eq_false (by omega)
  obtain ⟨L1, C1, N1⟩ := act_new w x (i : Int)
  have H1 := Lib.hid (h.below L1.out)
  have hlk := run_lookup_act (d := x.c.d) (ha.below L1.out) hk
  have hst : stepP k.cap k.op k.ac (xs.map Zv.z) x.c = (bif !(x.c.d == 7) && !(x.c.epoch == v.z.fc) then (xs.map Zv.z, fail_ 42) else actP k.cap k.op k.ac (xs.map Zv.z) i x.c) := by
    have hcond : (!knownB x.c.d || (decide (x.c.zone < 0) || decide (((xs.map Zv.z).length : Int) ≤ x.c.zone))) = false := by
      rw [hln, hk, hzi, hzd, hzn]; rfl
    have hat := atI_of hv
    unfold stepP
    rw [hcond, hzi, Int.toNat_natCast, hat]
    rfl
  have HPL := Lib.hid (show actP k.cap k.op k.ac (xs.map Zv.z) i x.c = stepP k.cap k.op k.ac (xs.map Zv.z) x.c by rw [hst, hd, hep, beq_self_eq_true]; simp)
  have HPA := Lib.hid (show actP k.cap k.op k.ac (xs.map Zv.z) i x.c = openP k.cap k.op k.ac (xs.map Zv.z) i by unfold actP; rw [hd]; rfl)
  have HD := fun w (h : Desk k xs w) => Lib.hid (open_act (x := x) h hv hzi)
  have HCM := Lib.hid hc
  have hfa : actF x.c.d = 51 := by rw [hd]; rfl
  rw [hfa] at hlk
  have e7 : (x.c.d != 7) = true := by rw [hd]; decide
  have ee : (x.c.epoch != v.z.fc) = false := by rw [hep]; simp
  rw [← HPL.out, HPA.out]
  clear h ha hln hst hv hk hc hfa hd hep
  generalize openP k.cap k.op k.ac (xs.map Zv.z) i = rr at *
  unfold cxv Acted at *
  rw [hzi] at HD ⊢
  go_enter Tryz.func32, Tryz.ntmps32
  go_upto_region 1 with fail
  generalize (w.alloc (.cells #[.int .i64 x.c.d, .int .i64 (i : Int), .int .i64 x.c.epoch, .int .i64 x.c.off, .int .i64 x.c.n, .slice x.B x.c.b.length x.k] 43)).alloc (.cells #[.int .i64 0, .int .i64 0, .slice none 0 0] 39) = w1 at *
  obtain ⟨y0, y1, y2, y3, y4, y5⟩ := CBox.cells C1.out
  obtain ⟨d0, d1, d2, d3, d4⟩ := H1.out.cells
  go_upto_region 5 with fail
  have H2 : Hid (Desk k xs w1.drew) := H1.out.below (Below.refl _ w1).drew
  have C2 : Hid (CBox w1.drew w.heap.size x.c.d i x.c.epoch x.c.off x.c.n x.B x.c.b.length x.k) := C1
  have L2 : Hid (Below w.heap.size w w1.drew) := L1.out.drew
  have N2 : Hid (EBox w1.drew (w.heap.size + 1) 0 0 none 0 0) := N1
  clear H1 C1 L1 N1 hlk y0 y1 y2 y3 y4 y5 d0 d1 d2 d3 d4
  refine wp_region_held_drew (S := fun W => (W.cell? ⟨k.g, 3, none⟩ = some (.slice (some ⟨k.q, k.o, none⟩) k.n k.c)) ∧ (W.cell? ⟨w.heap.size, 0, none⟩ = some (.int .i64 x.c.d) ∧ W.cell? ⟨w.heap.size, 1, none⟩ = some (.int .i64 (i : Int)) ∧ W.cell? ⟨w.heap.size, 2, none⟩ = some (.int .i64 x.c.epoch) ∧ W.cell? ⟨w.heap.size, 3, none⟩ = some (.int .i64 x.c.off) ∧ W.cell? ⟨w.heap.size, 4, none⟩ = some (.int .i64 x.c.n) ∧ W.cell? ⟨w.heap.size, 5, none⟩ = some (.slice x.B x.c.b.length x.k)))
    (by kernel_rfl) ⟨H2.out.cells.2.2.2.1, CBox.cells C2.out⟩ (fun hHeld => ?_)
  generalize w1.drew = w2 at *
  refine Reg.tk 0 rfl ?_
  refine Reg.tk 1 rfl ?_
  refine Reg.tk 2 rfl ?_
  refine Reg.tk 3 rfl ?_
  refine Reg.tk 4 rfl ?_
  refine Reg.tk 5 rfl ?_
  refine Reg.tk 6 rfl ?_
  refine Reg.tk 7 rfl ?_
  refine Reg.tk 8 rfl ?_
  refine Reg.tk 9 rfl ?_
  refine wpAnyH_done (by kernel_rfl) ?_ _
  clear hHeld
  go_upto_region 7 with fail
  have H3 : Hid (Desk k xs w2.drew) := H2.out.below (Below.refl _ w2).drew
  have C3 : Hid (CBox w2.drew w.heap.size x.c.d i x.c.epoch x.c.off x.c.n x.B x.c.b.length x.k) := C2
  have L3 : Hid (Below w.heap.size w w2.drew) := L2.out.drew
  have N3 : Hid (EBox w2.drew (w.heap.size + 1) 0 0 none 0 0) := N2
  clear H2 C2 L2 N2
  refine wp_region_held_drew (S := fun W => (W.cell? ⟨k.g, 3, none⟩ = some (.slice (some ⟨k.q, k.o, none⟩) k.n k.c)) ∧ (W.cell? ⟨w.heap.size, 0, none⟩ = some (.int .i64 x.c.d) ∧ W.cell? ⟨w.heap.size, 1, none⟩ = some (.int .i64 (i : Int)) ∧ W.cell? ⟨w.heap.size, 2, none⟩ = some (.int .i64 x.c.epoch) ∧ W.cell? ⟨w.heap.size, 3, none⟩ = some (.int .i64 x.c.off) ∧ W.cell? ⟨w.heap.size, 4, none⟩ = some (.int .i64 x.c.n) ∧ W.cell? ⟨w.heap.size, 5, none⟩ = some (.slice x.B x.c.b.length x.k)) ∧ (W.cell? ⟨k.q, k.o + i * 3, none⟩ = some (.int .i64 v.z.st) ∧ W.cell? ⟨k.q, k.o + i * 3 + 1, none⟩ = some (.int .i64 v.z.fc) ∧ W.cell? ⟨k.q, k.o + i * 3 + 2, none⟩ = some (.slice v.D v.z.data.length v.c)))
    (by kernel_rfl) ⟨H3.out.cells.2.2.2.1, CBox.cells C3.out, H3.out.elem HV.out⟩ (fun hHeld => ?_)
  generalize w2.drew = w3 at *
  refine Reg.tk 0 rfl ?_
  refine Reg.tk 1 rfl ?_
  refine Reg.tk 2 rfl ?_
  refine Reg.tk 3 rfl ?_
  refine Reg.tk 4 rfl ?_
  refine Reg.tk 5 rfl ?_
  refine Reg.tk 6 rfl ?_
  refine Reg.tk 7 rfl ?_
  refine Reg.tk 8 rfl ?_
  refine Reg.tk 9 rfl ?_
  refine Reg.tk 10 rfl ?_
  refine Reg.tk 11 rfl ?_
  refine Reg.tk 12 rfl ?_
  refine Reg.tk 13 rfl ?_
  refine Reg.tk 14 rfl ?_
  refine Reg.tk 15 rfl ?_
  refine Reg.tk 16 rfl ?_
  refine Reg.tk 17 rfl ?_
  refine Reg.tk 18 rfl ?_
  refine wpAnyH_done (by kernel_rfl) ?_ _
  clear hHeld
  obtain ⟨y0, y1, y2, y3, y4, y5⟩ := CBox.cells C3.out
  go_wp2_with fail
  refine (HD w3 H3.out).out.mono ?_
  rintro e w4 ⟨xs', B, d, rfl, hD, hz, hr, hB⟩
  have N4 := Lib.hid (EBox.but N3.out hB (by have := H0.out.q_lt; omega))
  have D4 := Lib.hid hD
  have Q4 := Lib.hid hr
  have B4 := Lib.hid (But.trans (But.of_below (q := k.q) L3.out) hB)
  have M4 := Lib.hid hz
  clear hB hD hr hz y0 y1 y2 y3 y4 y5 HD
  obtain ⟨n0, n1, n2⟩ := N4.out.cells
  obtain ⟨f0, f1, f2⟩ := N4.out.frozen
  go_wp2_with fail
  refine bodyPost_ret_by (results_cell_row rfl _ _ (w.heap.size + 1) _ _ _ _ rfl (EBox.store N4.out _ _ B _ d) Tryz.underlying39 rfl (by kernel_rfl)) rfl ?_
  exact acted_end H0.out D4.out N4.out (by omega) B4.out _ B d Q4.out M4.out rfl

set_option maxRecDepth 100000 in
set_option maxHeartbeats 6400000 in
theorem do_close {k : Dk} {xs : List Zv} {w : World} {r : Nat} {x : Cx} (h : Desk k xs w) (ha : Acts w r k.g) {i : Nat} {v : Zv} (hc : CmdAt w x) (hd : x.c.d = 6) (hv : xs[i]? = some v) (hzi : x.c.zone = (i : Int)) (hep : x.c.epoch = v.z.fc) :
    Calls Tryz.prog 32 #[.pointer (some ⟨k.g, 0, none⟩), cxv x, .map (some r)] w (Acted k w (stepP k.cap k.op k.ac (xs.map Zv.z) x.c)) := by
  have hk : knownB x.c.d = true := by rw [hd]; decide
  have H0 := Lib.hid h
  have HA := Lib.hid ha
  have hln : (xs.map Zv.z).length = k.n := by rw [List.length_map]; exact h.len
  have hlt : (i : Int) < (k.n : Int) := by have := (List.getElem?_eq_some_iff.1 hv).1; have := h.len; omega
  have hi0 : (0 : Int) ≤ (i : Int) := by omega
  have HV := Lib.hid hv
  have hzd : decide ((i : Int) < 0) = false := decide_eq_false (by omega)
  have hzn : decide ((k.n : Int) ≤ (i : Int)) = false := decide_eq_false (by omega)
  obtain ⟨L1, C1, N1⟩ := act_new w x (i : Int)
  have H1 := Lib.hid (h.below L1.out)
  have hlk := run_lookup_act (d := x.c.d) (ha.below L1.out) hk
  have hst : stepP k.cap k.op k.ac (xs.map Zv.z) x.c = (bif !(x.c.d == 7) && !(x.c.epoch == v.z.fc) then (xs.map Zv.z, fail_ 42) else actP k.cap k.op k.ac (xs.map Zv.z) i x.c) := by
    have hcond : (!knownB x.c.d || (decide (x.c.zone < 0) || decide (((xs.map Zv.z).length : Int) ≤ x.c.zone))) = false := by
      rw [hln, hk, hzi, hzd, hzn]; rfl
    have hat := atI_of hv
    unfold stepP
    rw [hcond, hzi, Int.toNat_natCast, hat]
    rfl
  have HPL := Lib.hid (show actP k.cap k.op k.ac (xs.map Zv.z) i x.c = stepP k.cap k.op k.ac (xs.map Zv.z) x.c by rw [hst, hd, hep, beq_self_eq_true]; simp)
  have HPA := Lib.hid (show actP k.cap k.op k.ac (xs.map Zv.z) i x.c = closeP (xs.map Zv.z) i by unfold actP; rw [hd]; rfl)
  have HD := fun w (h : Desk k xs w) => Lib.hid (close_act (x := x) h hv hzi)
  have HCM := Lib.hid hc
  have hfa : actF x.c.d = 52 := by rw [hd]; rfl
  rw [hfa] at hlk
  have e7 : (x.c.d != 7) = true := by rw [hd]; decide
  have ee : (x.c.epoch != v.z.fc) = false := by rw [hep]; simp
  rw [← HPL.out, HPA.out]
  clear h ha hln hst hv hk hc hfa hd hep
  generalize closeP (xs.map Zv.z) i = rr at *
  unfold cxv Acted at *
  rw [hzi] at HD ⊢
  go_enter Tryz.func32, Tryz.ntmps32
  go_upto_region 1 with fail
  generalize (w.alloc (.cells #[.int .i64 x.c.d, .int .i64 (i : Int), .int .i64 x.c.epoch, .int .i64 x.c.off, .int .i64 x.c.n, .slice x.B x.c.b.length x.k] 43)).alloc (.cells #[.int .i64 0, .int .i64 0, .slice none 0 0] 39) = w1 at *
  obtain ⟨y0, y1, y2, y3, y4, y5⟩ := CBox.cells C1.out
  obtain ⟨d0, d1, d2, d3, d4⟩ := H1.out.cells
  go_upto_region 5 with fail
  have H2 : Hid (Desk k xs w1.drew) := H1.out.below (Below.refl _ w1).drew
  have C2 : Hid (CBox w1.drew w.heap.size x.c.d i x.c.epoch x.c.off x.c.n x.B x.c.b.length x.k) := C1
  have L2 : Hid (Below w.heap.size w w1.drew) := L1.out.drew
  have N2 : Hid (EBox w1.drew (w.heap.size + 1) 0 0 none 0 0) := N1
  clear H1 C1 L1 N1 hlk y0 y1 y2 y3 y4 y5 d0 d1 d2 d3 d4
  refine wp_region_held_drew (S := fun W => (W.cell? ⟨k.g, 3, none⟩ = some (.slice (some ⟨k.q, k.o, none⟩) k.n k.c)) ∧ (W.cell? ⟨w.heap.size, 0, none⟩ = some (.int .i64 x.c.d) ∧ W.cell? ⟨w.heap.size, 1, none⟩ = some (.int .i64 (i : Int)) ∧ W.cell? ⟨w.heap.size, 2, none⟩ = some (.int .i64 x.c.epoch) ∧ W.cell? ⟨w.heap.size, 3, none⟩ = some (.int .i64 x.c.off) ∧ W.cell? ⟨w.heap.size, 4, none⟩ = some (.int .i64 x.c.n) ∧ W.cell? ⟨w.heap.size, 5, none⟩ = some (.slice x.B x.c.b.length x.k)))
    (by kernel_rfl) ⟨H2.out.cells.2.2.2.1, CBox.cells C2.out⟩ (fun hHeld => ?_)
  generalize w1.drew = w2 at *
  refine Reg.tk 0 rfl ?_
  refine Reg.tk 1 rfl ?_
  refine Reg.tk 2 rfl ?_
  refine Reg.tk 3 rfl ?_
  refine Reg.tk 4 rfl ?_
  refine Reg.tk 5 rfl ?_
  refine Reg.tk 6 rfl ?_
  refine Reg.tk 7 rfl ?_
  refine Reg.tk 8 rfl ?_
  refine Reg.tk 9 rfl ?_
  refine wpAnyH_done (by kernel_rfl) ?_ _
  clear hHeld
  go_upto_region 7 with fail
  have H3 : Hid (Desk k xs w2.drew) := H2.out.below (Below.refl _ w2).drew
  have C3 : Hid (CBox w2.drew w.heap.size x.c.d i x.c.epoch x.c.off x.c.n x.B x.c.b.length x.k) := C2
  have L3 : Hid (Below w.heap.size w w2.drew) := L2.out.drew
  have N3 : Hid (EBox w2.drew (w.heap.size + 1) 0 0 none 0 0) := N2
  clear H2 C2 L2 N2
  refine wp_region_held_drew (S := fun W => (W.cell? ⟨k.g, 3, none⟩ = some (.slice (some ⟨k.q, k.o, none⟩) k.n k.c)) ∧ (W.cell? ⟨w.heap.size, 0, none⟩ = some (.int .i64 x.c.d) ∧ W.cell? ⟨w.heap.size, 1, none⟩ = some (.int .i64 (i : Int)) ∧ W.cell? ⟨w.heap.size, 2, none⟩ = some (.int .i64 x.c.epoch) ∧ W.cell? ⟨w.heap.size, 3, none⟩ = some (.int .i64 x.c.off) ∧ W.cell? ⟨w.heap.size, 4, none⟩ = some (.int .i64 x.c.n) ∧ W.cell? ⟨w.heap.size, 5, none⟩ = some (.slice x.B x.c.b.length x.k)) ∧ (W.cell? ⟨k.q, k.o + i * 3, none⟩ = some (.int .i64 v.z.st) ∧ W.cell? ⟨k.q, k.o + i * 3 + 1, none⟩ = some (.int .i64 v.z.fc) ∧ W.cell? ⟨k.q, k.o + i * 3 + 2, none⟩ = some (.slice v.D v.z.data.length v.c)))
    (by kernel_rfl) ⟨H3.out.cells.2.2.2.1, CBox.cells C3.out, H3.out.elem HV.out⟩ (fun hHeld => ?_)
  generalize w2.drew = w3 at *
  refine Reg.tk 0 rfl ?_
  refine Reg.tk 1 rfl ?_
  refine Reg.tk 2 rfl ?_
  refine Reg.tk 3 rfl ?_
  refine Reg.tk 4 rfl ?_
  refine Reg.tk 5 rfl ?_
  refine Reg.tk 6 rfl ?_
  refine Reg.tk 7 rfl ?_
  refine Reg.tk 8 rfl ?_
  refine Reg.tk 9 rfl ?_
  refine Reg.tk 10 rfl ?_
  refine Reg.tk 11 rfl ?_
  refine Reg.tk 12 rfl ?_
  refine Reg.tk 13 rfl ?_
  refine Reg.tk 14 rfl ?_
  refine Reg.tk 15 rfl ?_
  refine Reg.tk 16 rfl ?_
  refine Reg.tk 17 rfl ?_
  refine Reg.tk 18 rfl ?_
  refine wpAnyH_done (by kernel_rfl) ?_ _
  clear hHeld
  obtain ⟨y0, y1, y2, y3, y4, y5⟩ := CBox.cells C3.out
  go_wp2_with fail
  refine (HD w3 H3.out).out.mono ?_
  rintro e w4 ⟨xs', B, d, rfl, hD, hz, hr, hB⟩
  have N4 := Lib.hid (EBox.but N3.out hB (by have := H0.out.q_lt; omega))
  have D4 := Lib.hid hD
  have Q4 := Lib.hid hr
  have B4 := Lib.hid (But.trans (But.of_below (q := k.q) L3.out) hB)
  have M4 := Lib.hid hz
  clear hB hD hr hz y0 y1 y2 y3 y4 y5 HD
  obtain ⟨n0, n1, n2⟩ := N4.out.cells
  obtain ⟨f0, f1, f2⟩ := N4.out.frozen
  go_wp2_with fail
  refine bodyPost_ret_by (results_cell_row rfl _ _ (w.heap.size + 1) _ _ _ _ rfl (EBox.store N4.out _ _ B _ d) Tryz.underlying39 rfl (by kernel_rfl)) rfl ?_
  exact acted_end H0.out D4.out N4.out (by omega) B4.out _ B d Q4.out M4.out rfl

set_option maxRecDepth 100000 in
set_option maxHeartbeats 6400000 in
theorem do_fences {k : Dk} {xs : List Zv} {w : World} {r : Nat} {x : Cx} (h : Desk k xs w) (ha : Acts w r k.g) {i : Nat} {v : Zv} (hc : CmdAt w x) (hd : x.c.d = 7) (hv : xs[i]? = some v) (hzi : x.c.zone = (i : Int)) :
    Calls Tryz.prog 32 #[.pointer (some ⟨k.g, 0, none⟩), cxv x, .map (some r)] w (Acted k w (stepP k.cap k.op k.ac (xs.map Zv.z) x.c)) := by
  have hk : knownB x.c.d = true := by rw [hd]; decide
  have H0 := Lib.hid h
  have HA := Lib.hid ha
  have hln : (xs.map Zv.z).length = k.n := by rw [List.length_map]; exact h.len
  have hlt : (i : Int) < (k.n : Int) := by have := (List.getElem?_eq_some_iff.1 hv).1; have := h.len; omega
  have hi0 : (0 : Int) ≤ (i : Int) := by omega
  have HV := Lib.hid hv
  have hzd : decide ((i : Int) < 0) = false := decide_eq_false (by omega)
  have hzn : decide ((k.n : Int) ≤ (i : Int)) = false := decide_eq_false (by omega)
  obtain ⟨L1, C1, N1⟩ := act_new w x (i : Int)
  have H1 := Lib.hid (h.below L1.out)
  have hlk := run_lookup_act (d := x.c.d) (ha.below L1.out) hk
  have hst : stepP k.cap k.op k.ac (xs.map Zv.z) x.c = (bif !(x.c.d == 7) && !(x.c.epoch == v.z.fc) then (xs.map Zv.z, fail_ 42) else actP k.cap k.op k.ac (xs.map Zv.z) i x.c) := by
    have hcond : (!knownB x.c.d || (decide (x.c.zone < 0) || decide (((xs.map Zv.z).length : Int) ≤ x.c.zone))) = false := by
      rw [hln, hk, hzi, hzd, hzn]; rfl
    have hat := atI_of hv
    unfold stepP
    rw [hcond, hzi, Int.toNat_natCast, hat]
    rfl
  have HPL := Lib.hid (show actP k.cap k.op k.ac (xs.map Zv.z) i x.c = stepP k.cap k.op k.ac (xs.map Zv.z) x.c by rw [hst, hd]; simp)
  have HPA := Lib.hid (show actP k.cap k.op k.ac (xs.map Zv.z) i x.c = fenceP (xs.map Zv.z) i x.c by unfold actP; rw [hd]; rfl)
  have HD := fun w (h : Desk k xs w) => Lib.hid (fence_act (x := x) h hv hzi)
  have HCM := Lib.hid hc
  have hfa : actF x.c.d = 53 := by rw [hd]; rfl
  rw [hfa] at hlk
  have e7 : (x.c.d != 7) = false := by rw [hd]; decide

  rw [← HPL.out, HPA.out]
  clear h ha hln hst hv hk hc hfa hd 
  generalize fenceP (xs.map Zv.z) i x.c = rr at *
  unfold cxv Acted at *
  rw [hzi] at HD ⊢
  go_enter Tryz.func32, Tryz.ntmps32
  go_upto_region 1 with fail
  generalize (w.alloc (.cells #[.int .i64 x.c.d, .int .i64 (i : Int), .int .i64 x.c.epoch, .int .i64 x.c.off, .int .i64 x.c.n, .slice x.B x.c.b.length x.k] 43)).alloc (.cells #[.int .i64 0, .int .i64 0, .slice none 0 0] 39) = w1 at *
  obtain ⟨y0, y1, y2, y3, y4, y5⟩ := CBox.cells C1.out
  obtain ⟨d0, d1, d2, d3, d4⟩ := H1.out.cells
  go_upto_region 5 with fail
  have H2 : Hid (Desk k xs w1.drew) := H1.out.below (Below.refl _ w1).drew
  have C2 : Hid (CBox w1.drew w.heap.size x.c.d i x.c.epoch x.c.off x.c.n x.B x.c.b.length x.k) := C1
  have L2 : Hid (Below w.heap.size w w1.drew) := L1.out.drew
  have N2 : Hid (EBox w1.drew (w.heap.size + 1) 0 0 none 0 0) := N1
  clear H1 C1 L1 N1 hlk y0 y1 y2 y3 y4 y5 d0 d1 d2 d3 d4
  refine wp_region_held_drew (S := fun W => (W.cell? ⟨k.g, 3, none⟩ = some (.slice (some ⟨k.q, k.o, none⟩) k.n k.c)) ∧ (W.cell? ⟨w.heap.size, 0, none⟩ = some (.int .i64 x.c.d) ∧ W.cell? ⟨w.heap.size, 1, none⟩ = some (.int .i64 (i : Int)) ∧ W.cell? ⟨w.heap.size, 2, none⟩ = some (.int .i64 x.c.epoch) ∧ W.cell? ⟨w.heap.size, 3, none⟩ = some (.int .i64 x.c.off) ∧ W.cell? ⟨w.heap.size, 4, none⟩ = some (.int .i64 x.c.n) ∧ W.cell? ⟨w.heap.size, 5, none⟩ = some (.slice x.B x.c.b.length x.k)))
    (by kernel_rfl) ⟨H2.out.cells.2.2.2.1, CBox.cells C2.out⟩ (fun hHeld => ?_)
  generalize w1.drew = w2 at *
  refine Reg.tk 0 rfl ?_
  refine Reg.tk 1 rfl ?_
  refine Reg.tk 2 rfl ?_
  refine Reg.tk 3 rfl ?_
  refine Reg.tk 4 rfl ?_
  refine Reg.tk 5 rfl ?_
  refine Reg.tk 6 rfl ?_
  refine Reg.tk 7 rfl ?_
  refine Reg.tk 8 rfl ?_
  refine Reg.tk 9 rfl ?_
  refine wpAnyH_done (by kernel_rfl) ?_ _
  clear hHeld
  go_upto_region 7 with fail
  have H3 : Hid (Desk k xs w2.drew) := H2.out.below (Below.refl _ w2).drew
  have C3 : Hid (CBox w2.drew w.heap.size x.c.d i x.c.epoch x.c.off x.c.n x.B x.c.b.length x.k) := C2
  have L3 : Hid (Below w.heap.size w w2.drew) := L2.out.drew
  have N3 : Hid (EBox w2.drew (w.heap.size + 1) 0 0 none 0 0) := N2
  clear H2 C2 L2 N2
  refine wp_region_held_drew (S := fun W => (W.cell? ⟨k.g, 3, none⟩ = some (.slice (some ⟨k.q, k.o, none⟩) k.n k.c)) ∧ (W.cell? ⟨w.heap.size, 0, none⟩ = some (.int .i64 x.c.d) ∧ W.cell? ⟨w.heap.size, 1, none⟩ = some (.int .i64 (i : Int)) ∧ W.cell? ⟨w.heap.size, 2, none⟩ = some (.int .i64 x.c.epoch) ∧ W.cell? ⟨w.heap.size, 3, none⟩ = some (.int .i64 x.c.off) ∧ W.cell? ⟨w.heap.size, 4, none⟩ = some (.int .i64 x.c.n) ∧ W.cell? ⟨w.heap.size, 5, none⟩ = some (.slice x.B x.c.b.length x.k)) ∧ (W.cell? ⟨k.q, k.o + i * 3, none⟩ = some (.int .i64 v.z.st) ∧ W.cell? ⟨k.q, k.o + i * 3 + 1, none⟩ = some (.int .i64 v.z.fc) ∧ W.cell? ⟨k.q, k.o + i * 3 + 2, none⟩ = some (.slice v.D v.z.data.length v.c)))
    (by kernel_rfl) ⟨H3.out.cells.2.2.2.1, CBox.cells C3.out, H3.out.elem HV.out⟩ (fun hHeld => ?_)
  generalize w2.drew = w3 at *
  refine Reg.tk 0 rfl ?_
  refine Reg.tk 1 rfl ?_
  refine Reg.tk 2 rfl ?_
  refine Reg.tk 3 rfl ?_
  refine Reg.tk 4 rfl ?_
  refine Reg.tk 5 rfl ?_
  refine Reg.tk 6 rfl ?_
  refine Reg.tk 7 rfl ?_
  refine Reg.tk 8 rfl ?_
  refine Reg.tk 9 rfl ?_
  refine Reg.tk 10 rfl ?_
  refine Reg.tk 11 rfl ?_
  refine Reg.tk 12 rfl ?_
  refine Reg.tk 13 rfl ?_
  refine Reg.tk 14 rfl ?_
  refine Reg.tk 15 rfl ?_
  refine Reg.tk 16 rfl ?_
  refine Reg.tk 17 rfl ?_
  refine Reg.tk 18 rfl ?_
  refine wpAnyH_done (by kernel_rfl) ?_ _
  clear hHeld
  obtain ⟨y0, y1, y2, y3, y4, y5⟩ := CBox.cells C3.out
  go_wp2_with fail
  refine (HD w3 H3.out).out.mono ?_
  rintro e w4 ⟨xs', B, d, rfl, hD, hz, hr, hB⟩
  have N4 := Lib.hid (EBox.but N3.out hB (by have := H0.out.q_lt; omega))
  have D4 := Lib.hid hD
  have Q4 := Lib.hid hr
  have B4 := Lib.hid (But.trans (But.of_below (q := k.q) L3.out) hB)
  have M4 := Lib.hid hz
  clear hB hD hr hz y0 y1 y2 y3 y4 y5 HD
  obtain ⟨n0, n1, n2⟩ := N4.out.cells
  obtain ⟨f0, f1, f2⟩ := N4.out.frozen
  go_wp2_with fail
  refine bodyPost_ret_by (results_cell_row rfl _ _ (w.heap.size + 1) _ _ _ _ rfl (EBox.store N4.out _ _ B _ d) Tryz.underlying39 rfl (by kernel_rfl)) rfl ?_
  exact acted_end H0.out D4.out N4.out (by omega) B4.out _ B d Q4.out M4.out rfl

end Zns
end Go.Proofs.YtedandbkdjmfhaaGreat
/-
  (*desk).do, WHATEVER THE COMMAND; and what steps come to, one behind the other.
-/
namespace Go.Proofs.YtedandbkdjmfhaaGreat
open Go.RowKit Mem Zon
namespace Zns

theorem do_any {k : Dk} {xs : List Zv} {w : World} {r : Nat} {x : Cx} (h : Desk k xs w) (ha : Acts w r k.g) (hc : CmdAt w x) :
    Calls Tryz.prog 32 #[.pointer (some ⟨k.g, 0, none⟩), cxv x, .map (some r)] w (Acted k w (stepP k.cap k.op k.ac (xs.map Zv.z) x.c)) := by
  rcases hk : knownB x.c.d
  · exact do_arg h ha (.inl hk)
  · by_cases h0 : x.c.zone < 0
    · exact do_arg h ha (.inr (.inl h0))
    · by_cases h1 : (k.n : Int) ≤ x.c.zone
      · exact do_arg h ha (.inr (.inr h1))
      · obtain ⟨i, hzi⟩ : ∃ i : Nat, x.c.zone = (i : Int) := ⟨x.c.zone.toNat, by omega⟩
        obtain ⟨v, hv⟩ := h.get (i := i) (by omega)
        by_cases h7 : x.c.d = 7
        · exact do_fences h ha hc h7 hv hzi
        · by_cases hep : x.c.epoch = v.z.fc
          · rcases known_of hk with e | e | e | e | e | e | e | e
            · exact do_add h ha hc e hv hzi hep
            · exact do_tear h ha hc e hv hzi hep
            · exact do_read h ha hc e hv hzi hep
            · exact do_reset h ha hc e hv hzi hep
            · exact do_finish h ha hc e hv hzi hep
            · exact do_open h ha hc e hv hzi hep
            · exact do_close h ha hc e hv hzi hep
            · exact absurd e h7
          · exact do_fence h ha hk hv hzi h7 hep

def stepsP (cap op ac : Int) (zs : List Zn) (l : List Cm) : List Zn × List Dn :=
  l.foldl (fun s c => ((stepP cap op ac s.1 c).1, s.2 ++ [(stepP cap op ac s.1 c).2])) (zs, [])
theorem stepsP_snoc (cap op ac : Int) (zs : List Zn) (l : List Cm) (c : Cm) :
    stepsP cap op ac zs (l ++ [c]) = ((stepP cap op ac (stepsP cap op ac zs l).1 c).1, (stepsP cap op ac zs l).2 ++ [(stepP cap op ac (stepsP cap op ac zs l).1 c).2]) := by
  unfold stepsP
  rw [List.foldl_append]
  rfl
/-- What All comes to. -/
def runP (d : Dv) (l : List Cm) : Dv × List Dn :=
  bif okD d then (⟨d.cap, d.op, d.ac, (stepsP d.cap d.op d.ac d.zs l).1⟩, (stepsP d.cap d.op d.ac d.zs l).2) else (d, l.map fun _ => fail_ 1)
end Zns
end Go.Proofs.YtedandbkdjmfhaaGreat
