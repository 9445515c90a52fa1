/-
  A WALK OVER THE DOCUMENT'S OWN New. (Written by gen_refnew.py.)
-/
import Derived.Test.YtbmblgjilmgkeaaZnsNew
namespace Go.Proofs.Ytbmblgjilmgkeaa
open Go.RowKit Mem Zon
namespace Zns

theorem newP_bad {zones most op ac : Int} (h : boundsB zones most op ac = false) : newP zones most op ac = dx0.p ∧ errOf (boundsB zones most op ac) = 1 := by
  unfold newP
  rw [h]; exact ⟨rfl, rfl⟩

set_option maxRecDepth 100000 in
set_option maxHeartbeats 3200000 in
theorem refNew_any (zones most op ac : Int) (w : World) :
    Calls Try.prog 10 #[.int .i64 zones, .int .i64 most, .int .i64 op, .int .i64 ac] w (GaveD w (newP zones most op ac) (errOf (boundsB zones most op ac))) := by
  have L1 : Hid (Below w.heap.size w (w.alloc (.cells #[.int .i64 0, .int .i64 0, .int .i64 0, .slice none 0 0] 25))) := (Below.refl _ w).alloc (Nat.le_refl _) _
  have Z1 : Hid (Cells (w.alloc (.cells #[.int .i64 0, .int .i64 0, .int .i64 0, .slice none 0 0] 25)) w.heap.size 25 #[.int .i64 0, .int .i64 0, .int .i64 0, .slice none 0 0]) := Cells.new w _ _
  have HE : Hid (boundsB zones most op ac = false → newP zones most op ac = dx0.p ∧ errOf (boundsB zones most op ac) = 1) := newP_bad
  unfold GaveD
  rcases e1 : decide (zones < 1)
  · rcases e2 : decide ((64 : Int) < zones)
    · have e1' := of_decide_eq_false e1
      have e2' := of_decide_eq_false e2
      obtain ⟨n, rfl⟩ : ∃ n : Nat, zones = (n : Int) := ⟨zones.toNat, by omega⟩
      have hn : n ≤ 1000 := by omega
      obtain ⟨o, ho⟩ : ∃ o : Nat, o = 0 := ⟨0, rfl⟩
      have HO := Lib.hid ho
      have hmk : ∀ w : World, (Instr.makeSlice 23 (.int .i64 (n : Int)) (.int .i64 (n : Int))).run Try.prog w = .ok (.slice (some ⟨w.heap.size, o, none⟩) n n) (w.alloc (.cells (madeCells #[.int .i64 0, .int .i64 0, .slice none 0 0] (n * 3)) 42)) := by
        rw [ho]; exact fun w => run_make_zone w n hn
      have HM := fun w : World => Lib.hid (made_zone (w := w) n)
      have HC := fun w q (h : DevAt w ⟨most, op, ac, some ⟨q, o, none⟩, n, n, List.replicate n zeroV⟩) => Lib.hid (refCheck_dev h)
      have HGood : Hid (boundsB n most op ac = true → okD ⟨most, op, ac, List.replicate n nilZ⟩ = true ∧ newP n most op ac = ⟨most, op, ac, List.replicate n nilZ⟩) := by
        show _ → _
        intro h
        exact ⟨new_ok h, by unfold newP; rw [h]; rfl⟩
      have HBad : Hid (boundsB n most op ac = false → okD ⟨most, op, ac, List.replicate n nilZ⟩ = false) := new_bad
      clear ho e1' e2'
      unfold dxv at HC
      dsimp only at HC
      go_enter Try.func10, Try.ntmps10
      go_upto_region 1 with fail
      generalize w.alloc (.cells #[.int .i64 0, .int .i64 0, .int .i64 0, .slice none 0 0] 25) = w1 at *
      go_upto_region 3 with fail
      have b2 : Below w1.heap.size w1 (w1.alloc (.cells (madeCells #[.int .i64 0, .int .i64 0, .slice none 0 0] (n * 3)) 42)) := (Below.refl _ w1).alloc (Nat.le_refl _) _
      have Z2 := Lib.hid (Cells.below Z1.out b2)
      have L2 := Lib.hid (L1.out.trans (b2.mono L1.out.size))
      have M2 := HM w1
      have V2 : Hid (w.heap.size < w1.heap.size) := Cells.lt Z1.out
      have hmk2 := hmk w1
      clear hmk HM L1 Z1 b2
      generalize hw2 : w1.alloc (.cells (madeCells #[.int .i64 0, .int .i64 0, .slice none 0 0] (n * 3)) 42) = w2 at *
      clear hw2
      generalize w1.heap.size = q at *
      go_upto_region 4 with fail
      have b3 : Below w2.heap.size w2 (w2.alloc (.cells #[.int .i64 most, .int .i64 op, .int .i64 ac, .slice (some ⟨q, o, none⟩) n n] 25)) := (Below.refl _ w2).alloc (Nat.le_refl _) _
      have Z3 := Lib.hid (Cells.below Z2.out b3)
      have L3 := Lib.hid (L2.out.trans (b3.mono L2.out.size))
      have M3 := Lib.hid (M2.out.below b3)
      have V3 : Hid (w.heap.size < w2.heap.size) := Cells.lt Z2.out
      have D3 : Hid (DBox (w2.alloc (.cells #[.int .i64 most, .int .i64 op, .int .i64 ac, .slice (some ⟨q, o, none⟩) n n] 25)) w2.heap.size ⟨most, op, ac, some ⟨q, o, none⟩, n, n, List.replicate n zeroV⟩) := DBox.new w2 ⟨most, op, ac, some ⟨q, o, none⟩, n, n, List.replicate n zeroV⟩
      clear Z2 L2 M2 b3 hmk2
      generalize w2.alloc (.cells #[.int .i64 most, .int .i64 op, .int .i64 ac, .slice (some ⟨q, o, none⟩) n n] 25) = w3 at *
      generalize w2.heap.size = g at *
      obtain ⟨m0, m1, m2, m3⟩ := D3.out.cells
      dsimp only at m0 m1 m2 m3
      obtain ⟨k1, k2⟩ := made_dev (most := most) (op := op) (ac := ac) (by omega) HO.out M3.out
      have K1 := Lib.hid k1
      have K2 := Lib.hid k2
      have HC3 := HC w3 q k1
      rw [k2] at HC3
      clear k1 k2 HC
      rcases hb : boundsB n most op ac
      · have hk := HBad.out hb
        rw [hk] at HC3
        unfold errOf at HC3
        simp only [cond_false] at HC3
        have HPN := Lib.hid (HE.out hb).1
        have HPE := Lib.hid (HE.out hb).2
        clear hk
        go_wp2_with fail
        refine HC3.out.mono ?_
        rintro e w4 ⟨rfl, hb4⟩
        have Z4 := Lib.hid (Cells.below Z3.out hb4)
        have L4 := Lib.hid (L3.out.trans (hb4.mono L3.out.size))
        clear hb4 m0 m1 m2 m3
        have z0 : w4.cell? ⟨w.heap.size, 0, none⟩ = some (.int .i64 0) := Cells.cell Z4.out 0
        have z1 : w4.cell? ⟨w.heap.size, 1, none⟩ = some (.int .i64 0) := Cells.cell Z4.out 1
        have z2 : w4.cell? ⟨w.heap.size, 2, none⟩ = some (.int .i64 0) := Cells.cell Z4.out 2
        have z3 : w4.cell? ⟨w.heap.size, 3, none⟩ = some (.slice none 0 0) := Cells.cell Z4.out 3
        have f0 : w4.frozen? ⟨w.heap.size, 0, none⟩ = false := Cells.frozen Z4.out 0
        have f1 : w4.frozen? ⟨w.heap.size, 1, none⟩ = false := Cells.frozen Z4.out 1
        have f2 : w4.frozen? ⟨w.heap.size, 2, none⟩ = false := Cells.frozen Z4.out 2
        have f3 : w4.frozen? ⟨w.heap.size, 3, none⟩ = false := Cells.frozen Z4.out 3
        go_wp2_with fail
        refine bodyPost_ret_by (results_zone_tmp rfl _ _ w.heap.size _ _ _ _ rfl (Cells.set4 Z4.out (.int .i64 0) (.int .i64 0) (.int .i64 0) (.slice none 0 0)) Try.underlying25 rfl (by kernel_rfl)) rfl ?_
        exact ⟨dx0, by rw [HPE.out]; rfl, dev0 _, HPN.out.symm, below4 L4.out (Nat.le_refl _) _ _ _ _⟩
      · have hk := HGood.out hb
        rw [hk.1] at HC3
        unfold errOf at HC3
        simp only [cond_true] at HC3
        have HPN := Lib.hid hk.2
        clear hk
        go_wp2_with fail
        refine HC3.out.mono ?_
        rintro e w4 ⟨rfl, hb4⟩
        have Z4 := Lib.hid (Cells.below Z3.out hb4)
        have L4 := Lib.hid (L3.out.trans (hb4.mono L3.out.size))
        have D4 := Lib.hid (D3.out.below hb4)
        have M4 := Lib.hid (M3.out.below hb4)
        clear hb4 m0 m1 m2 m3
        obtain ⟨m0, m1, m2, m3⟩ := D4.out.cells
        dsimp only at m0 m1 m2 m3
        have z0 : w4.cell? ⟨w.heap.size, 0, none⟩ = some (.int .i64 0) := Cells.cell Z4.out 0
        have z1 : w4.cell? ⟨w.heap.size, 1, none⟩ = some (.int .i64 0) := Cells.cell Z4.out 1
        have z2 : w4.cell? ⟨w.heap.size, 2, none⟩ = some (.int .i64 0) := Cells.cell Z4.out 2
        have z3 : w4.cell? ⟨w.heap.size, 3, none⟩ = some (.slice none 0 0) := Cells.cell Z4.out 3
        have f0 : w4.frozen? ⟨w.heap.size, 0, none⟩ = false := Cells.frozen Z4.out 0
        have f1 : w4.frozen? ⟨w.heap.size, 1, none⟩ = false := Cells.frozen Z4.out 1
        have f2 : w4.frozen? ⟨w.heap.size, 2, none⟩ = false := Cells.frozen Z4.out 2
        have f3 : w4.frozen? ⟨w.heap.size, 3, none⟩ = false := Cells.frozen Z4.out 3
        go_wp2_with fail
        refine bodyPost_ret_by (results_zone_tmp rfl _ _ w.heap.size _ _ _ _ rfl (Cells.set4 Z4.out (.int .i64 most) (.int .i64 op) (.int .i64 ac) (.slice (some ⟨q, o, none⟩) n n)) Try.underlying25 rfl (by kernel_rfl)) rfl ?_
        obtain ⟨k1, k2⟩ := made_dev (most := most) (op := op) (ac := ac) (by omega) HO.out (M4.out.heap (w' := (((w4.setCell ⟨w.heap.size, 0, none⟩ (.int .i64 most)).setCell ⟨w.heap.size, 1, none⟩ (.int .i64 op)).setCell ⟨w.heap.size, 2, none⟩ (.int .i64 ac)).setCell ⟨w.heap.size, 3, none⟩ (.slice (some ⟨q, o, none⟩) n n)) ((But.set4 w4 w.heap.size _ _ _ _).block M4.out.lt (by have := V2.out; omega)))
        exact ⟨_, by rw [hb]; rfl, k1, k2.trans HPN.out.symm, below4 L4.out (Nat.le_refl _) _ _ _ _⟩
    · have hb : boundsB zones most op ac = false := by
        rcases h : boundsB zones most op ac
        · rfl
        · have := (bounds_parts.1 h).2.1; have := of_decide_eq_true e2; omega
      have HPN := Lib.hid (HE.out hb).1
      have HPE := Lib.hid (HE.out hb).2
      clear hb
      go_enter Try.func10, Try.ntmps10
      go_upto_region 1 with fail
      generalize w.alloc (.cells #[.int .i64 0, .int .i64 0, .int .i64 0, .slice none 0 0] 25) = w1 at *
      have z0 : w1.cell? ⟨w.heap.size, 0, none⟩ = some (.int .i64 0) := Cells.cell Z1.out 0
      have z1 : w1.cell? ⟨w.heap.size, 1, none⟩ = some (.int .i64 0) := Cells.cell Z1.out 1
      have z2 : w1.cell? ⟨w.heap.size, 2, none⟩ = some (.int .i64 0) := Cells.cell Z1.out 2
      have z3 : w1.cell? ⟨w.heap.size, 3, none⟩ = some (.slice none 0 0) := Cells.cell Z1.out 3
      have f0 : w1.frozen? ⟨w.heap.size, 0, none⟩ = false := Cells.frozen Z1.out 0
      have f1 : w1.frozen? ⟨w.heap.size, 1, none⟩ = false := Cells.frozen Z1.out 1
      have f2 : w1.frozen? ⟨w.heap.size, 2, none⟩ = false := Cells.frozen Z1.out 2
      have f3 : w1.frozen? ⟨w.heap.size, 3, none⟩ = false := Cells.frozen Z1.out 3
      go_wp2_with fail
      refine bodyPost_ret_by (results_zone_tmp rfl _ _ w.heap.size _ _ _ _ rfl (Cells.set4 Z1.out (.int .i64 0) (.int .i64 0) (.int .i64 0) (.slice none 0 0)) Try.underlying25 rfl (by kernel_rfl)) rfl ?_
      exact ⟨dx0, by rw [HPE.out]; rfl, dev0 _, HPN.out.symm, below4 L1.out (Nat.le_refl _) _ _ _ _⟩
  · have hb : boundsB zones most op ac = false := by
      rcases h : boundsB zones most op ac
      · rfl
      · have := (bounds_parts.1 h).1; have := of_decide_eq_true e1; omega
    have HPN := Lib.hid (HE.out hb).1
    have HPE := Lib.hid (HE.out hb).2
    clear hb
    go_enter Try.func10, Try.ntmps10
    go_upto_region 1 with fail
    generalize w.alloc (.cells #[.int .i64 0, .int .i64 0, .int .i64 0, .slice none 0 0] 25) = w1 at *
    have z0 : w1.cell? ⟨w.heap.size, 0, none⟩ = some (.int .i64 0) := Cells.cell Z1.out 0
    have z1 : w1.cell? ⟨w.heap.size, 1, none⟩ = some (.int .i64 0) := Cells.cell Z1.out 1
    have z2 : w1.cell? ⟨w.heap.size, 2, none⟩ = some (.int .i64 0) := Cells.cell Z1.out 2
    have z3 : w1.cell? ⟨w.heap.size, 3, none⟩ = some (.slice none 0 0) := Cells.cell Z1.out 3
    have f0 : w1.frozen? ⟨w.heap.size, 0, none⟩ = false := Cells.frozen Z1.out 0
    have f1 : w1.frozen? ⟨w.heap.size, 1, none⟩ = false := Cells.frozen Z1.out 1
    have f2 : w1.frozen? ⟨w.heap.size, 2, none⟩ = false := Cells.frozen Z1.out 2
    have f3 : w1.frozen? ⟨w.heap.size, 3, none⟩ = false := Cells.frozen Z1.out 3
    go_wp2_with fail
    refine bodyPost_ret_by (results_zone_tmp rfl _ _ w.heap.size _ _ _ _ rfl (Cells.set4 Z1.out (.int .i64 0) (.int .i64 0) (.int .i64 0) (.slice none 0 0)) Try.underlying25 rfl (by kernel_rfl)) rfl ?_
    exact ⟨dx0, by rw [HPE.out]; rfl, dev0 _, HPN.out.symm, below4 L1.out (Nat.le_refl _) _ _ _ _⟩
end Zns
end Go.Proofs.Ytbmblgjilmgkeaa
