/-
  WALKS: where an extent ends, whether it may be, whether blocks may be, whether two go on, an extent cut.
-/
import Derived.Test.YtnnphpfobdcmbaaExtOwn
import Derived.Test.YtnnphpfobdcmbaaExtEq
import Derived.BigQuiet
namespace Go.Proofs.Ytnnphpfobdcmbaa
open Go.RowKit Mem
namespace Ext

theorem wrap_small {z : Int} (h1 : -9000000000000000000 ≤ z) (h2 : z ≤ 9000000000000000000) : IntKind.i64.wrap z = z := by rw [IntKind.wrap_i64]; omega
set_option maxRecDepth 100000 in
set_option maxHeartbeats 800000 in
theorem end_any (x : Ex) (hm : MayX x) (w : World) : Calls Try.prog 41 #[xv x] w fun e w' => e = .returned (.int .i64 x.en) ∧ Below w.heap.size w w' := by
  have hw : IntKind.i64.wrap (x.lba + x.n) = x.lba + x.n := by obtain ⟨h1, h2, h3, -⟩ := hm; exact wrap_small (by omega) (by omega)
  have HE : Hid (x.en = x.lba + x.n) := rfl
  clear hm
  have A1 : Hid (Below w.heap.size w (w.alloc (.cells #[.int .i64 x.lba, .int .i64 x.n, .int .i64 x.ver, .int .i64 x.zone, .int .i64 x.off] 32))) := (Below.refl _ w).alloc (Nat.le_refl _) _
  have B1 : Hid (LBox (w.alloc (.cells #[.int .i64 x.lba, .int .i64 x.n, .int .i64 x.ver, .int .i64 x.zone, .int .i64 x.off] 32)) w.heap.size x) := Cells.new _ _ _
  obtain ⟨n0, n1, n2, n3, n4⟩ := LBox.cells B1.out
  go_enter Try.func41, Try.ntmps41
  go_wp2_with fail
  go_ret
  exact ⟨by rw [HE.out]; rfl, A1.out⟩

set_option maxRecDepth 100000 in
set_option maxHeartbeats 800000 in
theorem blocks_any (a n : Int) (hn : n ≤ 9223372036854775807) (w : World) : Calls Try.prog 45 #[.int .i64 a, .int .i64 n] w fun e w' => e = .returned (.bool (rangeB a n)) ∧ w' = w := by
  unfold rangeB
  rcases e1 : decide (0 ≤ a)
  · go_enter Try.func45, Try.ntmps45
    go_wp2
    go_ret
    exact ⟨rfl, rfl⟩
  · rcases e2 : decide (1 ≤ n)
    · go_enter Try.func45, Try.ntmps45
      go_wp2
      go_ret
      exact ⟨rfl, rfl⟩
    · have hw : IntKind.i64.wrap (1099511627776 - n) = 1099511627776 - n := by have := of_decide_eq_true e2; rw [IntKind.wrap_i64]; omega
      rcases e3 : decide (a ≤ 1099511627776 - n)
      · go_enter Try.func45, Try.ntmps45
        go_wp2
        go_ret
        exact ⟨rfl, rfl⟩
      · go_enter Try.func45, Try.ntmps45
        go_wp2
        go_ret
        exact ⟨rfl, rfl⟩

set_option maxRecDepth 100000 in
set_option maxHeartbeats 1600000 in
theorem mayBe_any (x : Ex) (hm : MayX x) (w : World) : Calls Try.prog 40 #[xv x] w fun e w' => e = .returned (.bool true) ∧ Below w.heap.size w w' := by
  have HB := fun w => Lib.hid (blocks_any x.lba x.n (by obtain ⟨h1, h2, h3, -⟩ := hm; omega) w)
  rw [rangeB_iff.2 ⟨hm.1, hm.2.1, hm.2.2.1⟩] at HB
  have f1 : decide (x.ver < 0) = false := decide_eq_false (by have := hm.2.2.2.1; omega)
  have A1 : Hid (Below w.heap.size w (w.alloc (.cells #[.int .i64 x.lba, .int .i64 x.n, .int .i64 x.ver, .int .i64 x.zone, .int .i64 x.off] 32))) := (Below.refl _ w).alloc (Nat.le_refl _) _
  have B1 : Hid (LBox (w.alloc (.cells #[.int .i64 x.lba, .int .i64 x.n, .int .i64 x.ver, .int .i64 x.zone, .int .i64 x.off] 32)) w.heap.size x) := Cells.new _ _ _
  obtain ⟨n0, n1, n2, n3, n4⟩ := LBox.cells B1.out
  generalize HW : w.alloc (.cells #[.int .i64 x.lba, .int .i64 x.n, .int .i64 x.ver, .int .i64 x.zone, .int .i64 x.off] 32) = w1 at *
  rcases hz : (x.zone == -1)
  · have hz' : ¬ x.zone = -1 := by simpa using hz
    obtain ⟨g1, g2, g3, g4⟩ := hm.2.2.2.2.resolve_left (fun h => hz' h.1)
    have f2 : decide (0 ≤ x.zone) = true := decide_eq_true g1
    have f3 : decide (x.zone ≤ 1099511627776) = true := decide_eq_true g2
    have f4 : decide (0 ≤ x.off) = true := decide_eq_true g3
    have k1 := hm.2.1
    have k2 := hm.1
    have k3 := hm.2.2.1
    have hw1 : IntKind.i64.wrap (x.n * 16) = x.n * 16 := wrap_small (by omega) (by omega)
    have hw2 : IntKind.i64.wrap (1125899906842624 - x.n * 16) = 1125899906842624 - x.n * 16 := wrap_small (by omega) (by omega)
    have f5 : decide (x.off ≤ 1125899906842624 - x.n * 16) = true := decide_eq_true (by omega)
    clear hm g1 g2 g3 g4 k1 k2 k3 hz'
    subst HW
    go_enter Try.func40, Try.ntmps40
    go_wp2_with (go_at_call 45; refine (HB _).out.mono ?_; rintro e w2 ⟨rfl, rfl⟩)
    go_ret
    exact ⟨rfl, A1.out⟩
  · have hz' : x.zone = -1 := by simpa using hz
    have f2 : (x.off == 0) = true := by have := may_zone hm hz'; simpa using this
    clear hm hz'
    subst HW
    go_enter Try.func40, Try.ntmps40
    go_wp2_with (go_at_call 45; refine (HB _).out.mono ?_; rintro e w2 ⟨rfl, rfl⟩)
    go_ret
    exact ⟨by rfl, A1.out⟩

theorem two_boxes (w : World) (x y : Ex) : Hid (Below w.heap.size w ((w.alloc (.cells #[.int .i64 x.lba, .int .i64 x.n, .int .i64 x.ver, .int .i64 x.zone, .int .i64 x.off] 32)).alloc (.cells #[.int .i64 y.lba, .int .i64 y.n, .int .i64 y.ver, .int .i64 y.zone, .int .i64 y.off] 32))) ∧ Hid (LBox ((w.alloc (.cells #[.int .i64 x.lba, .int .i64 x.n, .int .i64 x.ver, .int .i64 x.zone, .int .i64 x.off] 32)).alloc (.cells #[.int .i64 y.lba, .int .i64 y.n, .int .i64 y.ver, .int .i64 y.zone, .int .i64 y.off] 32)) w.heap.size x) ∧ Hid (LBox ((w.alloc (.cells #[.int .i64 x.lba, .int .i64 x.n, .int .i64 x.ver, .int .i64 x.zone, .int .i64 x.off] 32)).alloc (.cells #[.int .i64 y.lba, .int .i64 y.n, .int .i64 y.ver, .int .i64 y.zone, .int .i64 y.off] 32)) (w.heap.size + 1) y) := by
  have A1 : Below w.heap.size w (w.alloc (.cells #[.int .i64 x.lba, .int .i64 x.n, .int .i64 x.ver, .int .i64 x.zone, .int .i64 x.off] 32)) := (Below.refl _ w).alloc (Nat.le_refl _) _
  refine ⟨A1.alloc A1.size _, Cells.alloc (Cells.new _ _ _) _, ?_⟩
  have := Cells.new (w.alloc (.cells #[.int .i64 x.lba, .int .i64 x.n, .int .i64 x.ver, .int .i64 x.zone, .int .i64 x.off] 32)) #[.int .i64 y.lba, .int .i64 y.n, .int .i64 y.ver, .int .i64 y.zone, .int .i64 y.off] 32
  show LBox _ _ _
  simpa using this

set_option maxRecDepth 100000 in
set_option maxHeartbeats 3200000 in
theorem cut_any (x : Ex) (a b : Int) (hx : MayX x) (ha : 0 ≤ a) (ha2 : a ≤ 1099511627776) (hb : 0 ≤ b) (hb2 : b ≤ 1099511627776) (w : World) : Calls Try.prog 68 #[xv x, .int .i64 a, .int .i64 b] w fun e w' => e = .returned (xv (cutE x a b)) ∧ Below w.heap.size w w' := by
  have hw1 : IntKind.i64.wrap (a - x.lba) = a - x.lba := by obtain ⟨h1, h2, h3, h4, -⟩ := hx; exact wrap_small (by omega) (by omega)
  have hw2 : IntKind.i64.wrap ((a - x.lba) * 16) = (a - x.lba) * 16 := by obtain ⟨h1, h2, h3, h4, -⟩ := hx; exact wrap_small (by omega) (by omega)
  have hw3 : IntKind.i64.wrap (x.off + (a - x.lba) * 16) = x.off + (a - x.lba) * 16 := by obtain ⟨h1, h2, h3, h4, h5⟩ := hx; rcases h5 with h5 | h5 <;> exact wrap_small (by omega) (by omega)
  have hw4 : IntKind.i64.wrap (b - a) = b - a := wrap_small (by omega) (by omega)
  clear hx ha ha2 hb hb2
  obtain ⟨L1, B1, B2⟩ := two_boxes w x ⟨0, 0, 0, 0, 0⟩
  dsimp only at L1 B1 B2
  have hne : w.heap.size ≠ w.heap.size + 1 := by omega
  go_enter Try.func68, Try.ntmps68
  go_upto_region 1 with fail
  generalize (w.alloc (.cells #[.int .i64 x.lba, .int .i64 x.n, .int .i64 x.ver, .int .i64 x.zone, .int .i64 x.off] 32)).alloc (.cells #[.int .i64 0, .int .i64 0, .int .i64 0, .int .i64 0, .int .i64 0] 32) = w1 at *
  obtain ⟨n0, n1, n2, n3, n4⟩ := LBox.cells B1.out
  obtain ⟨f0, f1, f2, f3, f4⟩ := LBox.frozen B1.out
  rcases hz : (x.zone != -1)
  · have HC : Hid (cutE x a b = ⟨a, b - a, x.ver, x.zone, x.off⟩) := cutE_none hz
    have E2 : Hid (LBox ((w1.setCell ⟨w.heap.size, 0, none⟩ (.int .i64 a)).setCell ⟨w.heap.size, 1, none⟩ (.int .i64 (b - a))) w.heap.size ⟨a, b - a, x.ver, x.zone, x.off⟩) := Cells.set_ (Cells.set_ B1.out 0 _) 1 _
    have D2 := Lib.hid (Cells.set_other (Cells.set_other B2.out hne 0 (.int .i64 a)) hne 1 (.int .i64 (b - a)))
    have L2 := Lib.hid (belowk (belowk L1.out (Nat.le_refl _) 0 (.int .i64 a)) (Nat.le_refl _) 1 (.int .i64 (b - a)))
    go_upto_region 4 with fail
    generalize (w1.setCell ⟨w.heap.size, 0, none⟩ (.int .i64 a)).setCell ⟨w.heap.size, 1, none⟩ (.int .i64 (b - a)) = w9 at *
    clear n0 n1 n2 n3 n4 f0 f1 f2 f3 f4
    obtain ⟨n0, n1, n2, n3, n4⟩ := LBox.cells E2.out
    obtain ⟨m0, m1, m2, m3, m4⟩ := LBox.cells (x := ⟨0, 0, 0, 0, 0⟩) D2.out
    obtain ⟨f0, f1, f2, f3, f4⟩ := LBox.frozen (x := ⟨0, 0, 0, 0, 0⟩) D2.out
    dsimp only at n0 n1 n2 n3 n4 m0 m1 m2 m3 m4
    have HR := Lib.hid (Cells.set5 D2.out (.int .i64 a) (.int .i64 (b - a)) (.int .i64 x.ver) (.int .i64 x.zone) (.int .i64 x.off))
    have L10 := Lib.hid (belowk (belowk (belowk (belowk (belowk L2.out (Nat.le_succ _) 0 (.int .i64 a)) (Nat.le_succ _) 1 (.int .i64 (b - a))) (Nat.le_succ _) 2 (.int .i64 x.ver)) (Nat.le_succ _) 3 (.int .i64 x.zone)) (Nat.le_succ _) 4 (.int .i64 x.off))
    go_wp2_with fail
    refine bodyPost_ret_by (results_c0 rfl _ _ (w.heap.size + 1) _ _ _ _ rfl HR.out Try.underlying32 rfl (by kernel_rfl)) rfl ?_
    exact ⟨by rw [HC.out], L10.out⟩
  · have HC : Hid (cutE x a b = ⟨a, b - a, x.ver, x.zone, x.off + (a - x.lba) * 16⟩) := cutE_some hz
    have E2 : Hid (LBox (w1.setCell ⟨w.heap.size, 4, none⟩ (.int .i64 (x.off + (a - x.lba) * 16))) w.heap.size ⟨x.lba, x.n, x.ver, x.zone, x.off + (a - x.lba) * 16⟩) := Cells.set_ B1.out 4 _
    have D2 := Lib.hid (Cells.set_other B2.out hne 4 (.int .i64 (x.off + (a - x.lba) * 16)))
    have L2 := Lib.hid (belowk L1.out (Nat.le_refl _) 4 (.int .i64 (x.off + (a - x.lba) * 16)))
    go_upto_region 3 with fail
    generalize w1.setCell ⟨w.heap.size, 4, none⟩ (.int .i64 (x.off + (a - x.lba) * 16)) = w2 at *
    clear n0 n1 n2 n3 n4 f0 f1 f2 f3 f4 B1 B2 L1
    obtain ⟨n0, n1, n2, n3, n4⟩ := LBox.cells E2.out
    obtain ⟨f0, f1, f2, f3, f4⟩ := LBox.frozen E2.out
    dsimp only at n0 n1 n2 n3 n4
    have B1 := E2
    have B2 := D2
    clear E2 D2
    have E3 : Hid (LBox ((w2.setCell ⟨w.heap.size, 0, none⟩ (.int .i64 a)).setCell ⟨w.heap.size, 1, none⟩ (.int .i64 (b - a))) w.heap.size ⟨a, b - a, x.ver, x.zone, (x.off + (a - x.lba) * 16)⟩) := Cells.set_ (Cells.set_ B1.out 0 _) 1 _
    have D3 := Lib.hid (Cells.set_other (Cells.set_other B2.out hne 0 (.int .i64 a)) hne 1 (.int .i64 (b - a)))
    have L3 := Lib.hid (belowk (belowk L2.out (Nat.le_refl _) 0 (.int .i64 a)) (Nat.le_refl _) 1 (.int .i64 (b - a)))
    go_upto_region 4 with fail
    generalize (w2.setCell ⟨w.heap.size, 0, none⟩ (.int .i64 a)).setCell ⟨w.heap.size, 1, none⟩ (.int .i64 (b - a)) = w9 at *
    clear n0 n1 n2 n3 n4 f0 f1 f2 f3 f4
    obtain ⟨n0, n1, n2, n3, n4⟩ := LBox.cells E3.out
    obtain ⟨m0, m1, m2, m3, m4⟩ := LBox.cells (x := ⟨0, 0, 0, 0, 0⟩) D3.out
    obtain ⟨f0, f1, f2, f3, f4⟩ := LBox.frozen (x := ⟨0, 0, 0, 0, 0⟩) D3.out
    dsimp only at n0 n1 n2 n3 n4 m0 m1 m2 m3 m4
    have HR := Lib.hid (Cells.set5 D3.out (.int .i64 a) (.int .i64 (b - a)) (.int .i64 x.ver) (.int .i64 x.zone) (.int .i64 (x.off + (a - x.lba) * 16)))
    have L10 := Lib.hid (belowk (belowk (belowk (belowk (belowk L3.out (Nat.le_succ _) 0 (.int .i64 a)) (Nat.le_succ _) 1 (.int .i64 (b - a))) (Nat.le_succ _) 2 (.int .i64 x.ver)) (Nat.le_succ _) 3 (.int .i64 x.zone)) (Nat.le_succ _) 4 (.int .i64 (x.off + (a - x.lba) * 16)))
    go_wp2_with fail
    refine bodyPost_ret_by (results_c0 rfl _ _ (w.heap.size + 1) _ _ _ _ rfl HR.out Try.underlying32 rfl (by kernel_rfl)) rfl ?_
    exact ⟨by rw [HC.out], L10.out⟩
end Ext
end Go.Proofs.Ytnnphpfobdcmbaa
