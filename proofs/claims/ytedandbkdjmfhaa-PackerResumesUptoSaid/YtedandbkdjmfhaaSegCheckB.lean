/-
  WALKS OVER seg'S Check AND Sameness.
-/
import Derived.Test.YtedandbkdjmfhaaSegCheck
import Derived.Deep.RegionHeld3
import Derived.DeepKeys
import Derived.Deep.MidRow
import Derived.Test.YtedandbkdjmfhaaReg
namespace Go.Proofs.Ytedandbkdjmfhaa
open Go.RowKit Mem
namespace Seg
open Wire

theorem may_n {r : Rc} (h : mayB r = true) : r.kind = 1 ∨ r.kind = 5 → 0 ≤ r.n ∧ r.n ≤ 256 := by
  intro hk
  unfold mayB at h
  split at h
  · rename_i hn
    have := nn_n hn
    refine ⟨this, ?_⟩
    rcases hk with hk | hk
    · rw [if_pos hk] at h
      simp only [blocksB, Bool.and_eq_true, decide_eq_true_eq] at h
      omega
    · rw [if_neg (by omega), if_neg (by omega), if_neg (by omega), if_neg (by omega), if_pos hk] at h
      simp only [blocksB, Bool.and_eq_true, decide_eq_true_eq] at h
      omega
  · cases h

set_option maxRecDepth 100000 in
set_option maxHeartbeats 3200000 in
theorem check_any (r : Rc) (hf : fits (nums r)) (D : Option Addr) (n c : Nat) (hn : r.data.length = n) (hb : n ≤ 140737488351232) (w : World) :
    Calls Try.prog 23 #[recV r D n c] w fun e w' => e = .returned (.int .i64 (check r : Nat)) ∧ Below w.heap.size w w' := by
  have HM := fun w => Lib.hid (numbersMayBe_any r hf D n c w)
  have HB := fun h w => Lib.hid (bytesOf_any r D n c w h)
  have B1 := Lib.hid (Box.new w r D n c)
  have L1 := Lib.hid ((Below.refl w.heap.size w).alloc (Nat.le_refl _) (.cells #[.int .i64 r.kind, .int .i64 r.lba, .int .i64 r.n, .int .i64 r.ver, .int .i64 r.zone, .int .i64 r.off, .slice D n c] 34))
  have hck : Hid (check r = if mayB r = true then (if (r.kind == 4) = true then (if 32768 < (n : Int) then 2 else 0) else if (n : Int) = bytesOf r then 0 else 1) else 1) := by
    show _ = _
    unfold check
    rw [hn]
    simp only [beq_iff_eq]
    by_cases h : 32768 < n
    · rw [if_pos h, if_pos (show (32768 : Int) < (n : Int) by omega)]
    · rw [if_neg h, if_neg (show ¬ (32768 : Int) < (n : Int) by omega)]
  unfold recV at *
  clear hf hn
  go_enter Try.func23, Try.ntmps23
  go_wp2_with fail
  generalize w.alloc (.cells #[.int .i64 r.kind, .int .i64 r.lba, .int .i64 r.n, .int .i64 r.ver, .int .i64 r.zone, .int .i64 r.off, .slice D n c] 34) = w1 at *
  refine (HM w1).out.mono ?_
  rintro e w2 ⟨rfl, hb2⟩
  have L2 := Lib.hid (L1.out.trans (hb2.mono L1.out.size))
  have B2 := Lib.hid (B1.out.below hb2)
  obtain ⟨c0, c1, c2, c3, c4, c5, c6⟩ := B2.out.cells
  clear hb2 B1 L1
  have hmn := Lib.hid (may_n (r := r))
  rcases hm : mayB r
  · go_wp2_with fail
    go_ret
    exact ⟨ret_int (by rw [hck.out, hm]; rfl), L2.out⟩
  · rcases e4 : (r.kind == 4)
    · have hbs := Lib.hid (HB (hmn.out hm))
      have e4' : (r.kind != 4) = true := by unfold bne; rw [e4]; rfl
      have hck2 : Hid (check r = if (n : Int) = bytesOf r then 0 else 1) := by show _ = _; rw [hck.out, hm, e4, if_pos rfl]; rfl
      generalize bytesOf r = q at *
      go_wp2_with fail
      go_region_held3 (fun W => W.cell? ⟨w.heap.size, 0, none⟩ = some (.int .i64 r.kind) ∧ W.cell? ⟨w.heap.size, 1, none⟩ = some (.int .i64 r.lba) ∧ W.cell? ⟨w.heap.size, 2, none⟩ = some (.int .i64 r.n) ∧ W.cell? ⟨w.heap.size, 3, none⟩ = some (.int .i64 r.ver) ∧ W.cell? ⟨w.heap.size, 4, none⟩ = some (.int .i64 r.zone) ∧ W.cell? ⟨w.heap.size, 5, none⟩ = some (.int .i64 r.off) ∧ W.cell? ⟨w.heap.size, 6, none⟩ = some (.slice D n c))
        (first | exact ⟨c0, c1, c2, c3, c4, c5, c6⟩ | exact ⟨d0, d1, d2, d3, d4, d5, d6⟩)
        ((first | (go_at_call 40; refine (hbs.out _).out.mono ?_; rintro e w3 ⟨rfl, hb3⟩; have L3 := Lib.hid (L2.out.trans ((Below.refl _ w2).drew.trans (hb3.mono (by simpa using L2.out.size)))); obtain ⟨d0, d1, d2, d3, d4, d5, d6⟩ := ((B2.out.below (Below.refl _ _).drew).below hb3).cells; clear hb3) | fail))
      all_goals
        rcases hq : ((n : Int) != q)
        · go_wp2_with fail
          go_ret
          exact ⟨ret_int (by rw [hck2.out, if_pos (bne_eq_false_iff_eq.1 hq)]; rfl), L3.out⟩
        · go_wp2_with fail
          go_ret
          exact ⟨ret_int (by rw [hck2.out, if_neg (bne_iff_ne.1 hq)]; rfl), L3.out⟩
    · by_cases hl : 32768 < (n : Int)
      · go_wp2_with fail
        go_ret
        exact ⟨ret_int (by rw [hck.out, hm, e4, if_pos rfl, if_pos rfl, if_pos hl]; rfl), L2.out⟩
      · have e4' : (r.kind != 4) = false := by unfold bne; rw [e4]; rfl
        have hck2 : Hid (check r = 0) := by show _ = _; rw [hck.out, hm, e4, if_pos rfl, if_pos rfl, if_neg hl]
        go_wp2_with fail
        go_quiet (fail)
        go_wp2_with fail
        go_ret
        exact ⟨ret_int (by rw [hck2.out]; rfl), L2.out.trans (below_drewN _ _ _)⟩

/-- Sameness. -/
def sameB (a b : Rc) : Bool := decide (nums a = nums b) && decide (a.data = b.data)
theorem sameB_iff (a b : Rc) : sameB a b = true ↔ a = b := by
  obtain ⟨a0, a1, a2, a3, a4, a5, a6⟩ := a
  obtain ⟨b0, b1, b2, b3, b4, b5, b6⟩ := b
  simp [sameB, nums]
  constructor
  · rintro ⟨⟨rfl, rfl, rfl, rfl, rfl, rfl⟩, rfl⟩; simp
  · rintro ⟨rfl, rfl, rfl, rfl, rfl, rfl, rfl⟩; simp

set_option maxRecDepth 100000 in
theorem eql_nums (a b : Rc) (w : World) : (binOp .eql 77 (numsV a) (numsV b)).run Try.prog w = .ok (.bool (decide (nums a = nums b))) w := by
  obtain ⟨i, hi, hz0, hz1, hz2⟩ := info_parts (show (Try.prog.info? 3).map (fun i => (i.zero, i.size, i.bytes)) = some (some (.int .i64 0), 1, 8) by kernel_rfl)
  have hc : Try.prog.cellsOf 3 = 1 := by kernel_rfl
  unfold numsV
  rw [run_eql_struct, run_equalIn_array w 9999 _ _ Try.underlying77 hi, hc]
  have hr : List.range 6 = [0, 1, 2, 3, 4, 5] := rfl
  rw [hr]
  have hd : ∀ x y : Int, (x == y) = decide (x = y) := fun x y => rfl
  simp [Op.eqItems, go_sem, hi, Try.underlying3, nums]
  repeat' split
  all_goals simp_all

theorem both {w : World} {g g' : Nat} {a b : Rc} {A B : Option Addr} {n c m d : Nat} (h : Box w g a A n c ∧ Box w g' b B m d) :
    (w.cell? ⟨g, 0, none⟩ = some (.int .i64 a.kind) ∧ w.cell? ⟨g, 1, none⟩ = some (.int .i64 a.lba) ∧ w.cell? ⟨g, 2, none⟩ = some (.int .i64 a.n) ∧ w.cell? ⟨g, 3, none⟩ = some (.int .i64 a.ver) ∧ w.cell? ⟨g, 4, none⟩ = some (.int .i64 a.zone) ∧ w.cell? ⟨g, 5, none⟩ = some (.int .i64 a.off) ∧ w.cell? ⟨g, 6, none⟩ = some (.slice A n c)) ∧
      (w.cell? ⟨g', 0, none⟩ = some (.int .i64 b.kind) ∧ w.cell? ⟨g', 1, none⟩ = some (.int .i64 b.lba) ∧ w.cell? ⟨g', 2, none⟩ = some (.int .i64 b.n) ∧ w.cell? ⟨g', 3, none⟩ = some (.int .i64 b.ver) ∧ w.cell? ⟨g', 4, none⟩ = some (.int .i64 b.zone) ∧ w.cell? ⟨g', 5, none⟩ = some (.int .i64 b.off) ∧ w.cell? ⟨g', 6, none⟩ = some (.slice B m d)) := ⟨h.1.cells, h.2.cells⟩
/-- Two boxes, one behind the other. -/
theorem two_boxes (w : World) (a b : Rc) (A B : Option Addr) (n c m d : Nat) :
    let w1 := (w.alloc (.cells #[.int .i64 a.kind, .int .i64 a.lba, .int .i64 a.n, .int .i64 a.ver, .int .i64 a.zone, .int .i64 a.off, .slice A n c] 34)).alloc (.cells #[.int .i64 b.kind, .int .i64 b.lba, .int .i64 b.n, .int .i64 b.ver, .int .i64 b.zone, .int .i64 b.off, .slice B m d] 34)
    (Box w1 w.heap.size a A n c ∧ Box w1 (w.heap.size + 1) b B m d) ∧ Below w.heap.size w w1 := by
  refine ⟨⟨heap_alloc2_old w _ _, heap_alloc2_new w _ _⟩, ((Below.refl _ w).alloc (Nat.le_refl _) _).alloc (by simp) _⟩

end Seg
end Go.Proofs.Ytedandbkdjmfhaa
