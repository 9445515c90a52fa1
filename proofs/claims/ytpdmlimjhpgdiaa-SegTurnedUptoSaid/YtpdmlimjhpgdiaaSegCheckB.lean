/-
  WALKS OVER seg'S Check AND Sameness.
-/
import Derived.Test.YtpdmlimjhpgdiaaSegCheck
import Derived.Deep.RegionHeld3
import Derived.DeepKeys
import Derived.Deep.MidRow
import Derived.Test.YtpdmlimjhpgdiaaReg
namespace Go.Proofs.Ytpdmlimjhpgdiaa
open Go.RowKit Mem
namespace Seg
open Wire

theorem may_n {r : Rc} (h : mayB r = true) : r.kind = 1 ∨ r.kind = 5 → 0 ≤ r.n ∧ r.n ≤ 256 := by
  intro hk
  unfold mayB at h
  split at h
  · rename_i hn
    have := nn_n hn
    refine ⟨this, ?_⟩
    rcases hk with hk | hk
    · rw [if_pos hk] at h
      simp only [blocksB, Bool.and_eq_true, decide_eq_true_eq] at h
      omega
    · rw [if_neg (by omega), if_neg (by omega), if_neg (by omega), if_neg (by omega), if_pos hk] at h
      simp only [blocksB, Bool.and_eq_true, decide_eq_true_eq] at h
      omega
  · cases h

set_option maxRecDepth 100000 in
set_option maxHeartbeats 3200000 in
theorem check_any (r : Rc) (hf : fits (nums r)) (D : Option Addr) (n c : Nat) (hn : r.data.length = n) (hb : n ≤ 140737488351232) (w : World) :
    Calls Try.prog 15 #[recV r D n c] w fun e w' => e = .returned (.int .i64 (check r : Nat)) ∧ Below w.heap.size w w' := by
  have HM := fun w => Lib.hid (numbersMayBe_any r hf D n c w)
  have HB := fun h w => Lib.hid (bytesOf_any r D n c w h)
  have B1 := Lib.hid (Box.new w r D n c)
  have L1 := Lib.hid ((Below.refl w.heap.size w).alloc (Nat.le_refl _) (.cells #[.int .i64 r.kind, .int .i64 r.lba, .int .i64 r.n, .int .i64 r.ver, .int .i64 r.zone, .int .i64 r.off, .slice D n c] 40))
  have hck : Hid (check r = if mayB r = true then (if (r.kind == 4) = true then (if 32768 < (n : Int) then 2 else 0) else if (n : Int) = bytesOf r then 0 else 1) else 1) := by
    show _ = _
    unfold check
    rw [hn]
    simp only [beq_iff_eq]
    by_cases h : 32768 < n
    · rw [if_pos h, if_pos (show (32768 : Int) < (n : Int) by omega)]
    · rw [if_neg h, if_neg (show ¬ (32768 : Int) < (n : Int) by omega)]
  unfold recV at *
  clear hf hn
  go_enter Try.func15, Try.ntmps15
  go_wp2_with fail
  generalize w.alloc (.cells #[.int .i64 r.kind, .int .i64 r.lba, .int .i64 r.n, .int .i64 r.ver, .int .i64 r.zone, .int .i64 r.off, .slice D n c] 40) = w1 at *
  refine (HM w1).out.mono ?_
  rintro e w2 ⟨rfl, hb2⟩
  have L2 := Lib.hid (L1.out.trans (hb2.mono L1.out.size))
  have B2 := Lib.hid (B1.out.below hb2)
  obtain ⟨c0, c1, c2, c3, c4, c5, c6⟩ := B2.out.cells
  clear hb2 B1 L1
  have hmn := Lib.hid (may_n (r := r))
  rcases hm : mayB r
  · go_wp2_with fail
    go_ret
    exact ⟨ret_int (by rw [hck.out, hm]; rfl), L2.out⟩
  · rcases e4 : (r.kind == 4)
    · have hbs := Lib.hid (HB (hmn.out hm))
      have e4' : (r.kind != 4) = true := by unfold bne; rw [e4]; rfl
      have hck2 : Hid (check r = if (n : Int) = bytesOf r then 0 else 1) := by show _ = _; rw [hck.out, hm, e4, if_pos rfl]; rfl
      generalize bytesOf r = q at *
      go_wp2_with fail
      go_region_held3 (fun W => W.cell? ⟨w.heap.size, 0, none⟩ = some (.int .i64 r.kind) ∧ W.cell? ⟨w.heap.size, 1, none⟩ = some (.int .i64 r.lba) ∧ W.cell? ⟨w.heap.size, 2, none⟩ = some (.int .i64 r.n) ∧ W.cell? ⟨w.heap.size, 3, none⟩ = some (.int .i64 r.ver) ∧ W.cell? ⟨w.heap.size, 4, none⟩ = some (.int .i64 r.zone) ∧ W.cell? ⟨w.heap.size, 5, none⟩ = some (.int .i64 r.off) ∧ W.cell? ⟨w.heap.size, 6, none⟩ = some (.slice D n c))
        (first | exact ⟨c0, c1, c2, c3, c4, c5, c6⟩ | exact ⟨d0, d1, d2, d3, d4, d5, d6⟩)
        ((first | (go_at_call 26; refine (hbs.out _).out.mono ?_; rintro e w3 ⟨rfl, hb3⟩; have L3 := Lib.hid (L2.out.trans ((Below.refl _ w2).drew.trans (hb3.mono (by simpa using L2.out.size)))); obtain ⟨d0, d1, d2, d3, d4, d5, d6⟩ := ((B2.out.below (Below.refl _ _).drew).below hb3).cells; clear hb3) | fail))
      all_goals
        rcases hq : ((n : Int) != q)
        · go_wp2_with fail
          go_ret
          exact ⟨ret_int (by rw [hck2.out, if_pos (bne_eq_false_iff_eq.1 hq)]; rfl), L3.out⟩
        · go_wp2_with fail
          go_ret
          exact ⟨ret_int (by rw [hck2.out, if_neg (bne_iff_ne.1 hq)]; rfl), L3.out⟩
    · by_cases hl : 32768 < (n : Int)
      · go_wp2_with fail
        go_ret
        exact ⟨ret_int (by rw [hck.out, hm, e4, if_pos rfl, if_pos rfl, if_pos hl]; rfl), L2.out⟩
      · have e4' : (r.kind != 4) = false := by unfold bne; rw [e4]; rfl
        have hck2 : Hid (check r = 0) := by show _ = _; rw [hck.out, hm, e4, if_pos rfl, if_pos rfl, if_neg hl]
        go_wp2_with fail
        go_quiet (fail)
        go_wp2_with fail
        go_ret
        exact ⟨ret_int (by rw [hck2.out]; rfl), L2.out.trans (below_drewN _ _ _)⟩

set_option maxRecDepth 100000 in
/-- bytes.Equal, of two rows. -/
theorem equal_any {A B : Option Addr} {n c m d : Nat} {l k : List B8} {w : World} (h1 : Row cb w A n c l) (h2 : Row cb w B m d k) :
    Calls Try.prog 28 #[.slice A n c, .slice B m d] w fun e w' => e = .returned (.bool (decide (l = k))) ∧ w = w' := by
  have s1 := run_str h1
  have s2 := run_str h2
  have hb := Lib.hid (str_beq l k)
  clear h1 h2
  generalize str l = x at *
  generalize str k = y at *
  go_enter Try.func28, Try.ntmps28
  go_wp2_with fail
  go_ret
  exact ⟨ret_bool hb.out, rfl⟩

/-- Sameness. -/
def sameB (a b : Rc) : Bool := decide (nums a = nums b) && decide (a.data = b.data)
theorem sameB_iff (a b : Rc) : sameB a b = true ↔ a = b := by
  obtain ⟨a0, a1, a2, a3, a4, a5, a6⟩ := a
  obtain ⟨b0, b1, b2, b3, b4, b5, b6⟩ := b
  simp [sameB, nums]
  constructor
  · rintro ⟨⟨rfl, rfl, rfl, rfl, rfl, rfl⟩, rfl⟩; simp
  · rintro ⟨rfl, rfl, rfl, rfl, rfl, rfl, rfl⟩; simp

set_option maxRecDepth 100000 in
theorem eql_nums (a b : Rc) (w : World) : (binOp .eql 61 (numsV a) (numsV b)).run Try.prog w = .ok (.bool (decide (nums a = nums b))) w := by
  obtain ⟨i, hi, hz0, hz1, hz2⟩ := info_parts (show (Try.prog.info? 3).map (fun i => (i.zero, i.size, i.bytes)) = some (some (.int .i64 0), 1, 8) by kernel_rfl)
  have hc : Try.prog.cellsOf 3 = 1 := by kernel_rfl
  unfold numsV
  rw [run_eql_struct, run_equalIn_array w 9999 _ _ Try.underlying61 hi, hc]
  have hr : List.range 6 = [0, 1, 2, 3, 4, 5] := rfl
  rw [hr]
  have hd : ∀ x y : Int, (x == y) = decide (x = y) := fun x y => rfl
  simp [Op.eqItems, go_sem, hi, Try.underlying3, nums]
  repeat' split
  all_goals simp_all

theorem both {w : World} {g g' : Nat} {a b : Rc} {A B : Option Addr} {n c m d : Nat} (h : Box w g a A n c ∧ Box w g' b B m d) :
    (w.cell? ⟨g, 0, none⟩ = some (.int .i64 a.kind) ∧ w.cell? ⟨g, 1, none⟩ = some (.int .i64 a.lba) ∧ w.cell? ⟨g, 2, none⟩ = some (.int .i64 a.n) ∧ w.cell? ⟨g, 3, none⟩ = some (.int .i64 a.ver) ∧ w.cell? ⟨g, 4, none⟩ = some (.int .i64 a.zone) ∧ w.cell? ⟨g, 5, none⟩ = some (.int .i64 a.off) ∧ w.cell? ⟨g, 6, none⟩ = some (.slice A n c)) ∧
      (w.cell? ⟨g', 0, none⟩ = some (.int .i64 b.kind) ∧ w.cell? ⟨g', 1, none⟩ = some (.int .i64 b.lba) ∧ w.cell? ⟨g', 2, none⟩ = some (.int .i64 b.n) ∧ w.cell? ⟨g', 3, none⟩ = some (.int .i64 b.ver) ∧ w.cell? ⟨g', 4, none⟩ = some (.int .i64 b.zone) ∧ w.cell? ⟨g', 5, none⟩ = some (.int .i64 b.off) ∧ w.cell? ⟨g', 6, none⟩ = some (.slice B m d)) := ⟨h.1.cells, h.2.cells⟩
/-- Two boxes, one behind the other. -/
theorem two_boxes (w : World) (a b : Rc) (A B : Option Addr) (n c m d : Nat) :
    let w1 := (w.alloc (.cells #[.int .i64 a.kind, .int .i64 a.lba, .int .i64 a.n, .int .i64 a.ver, .int .i64 a.zone, .int .i64 a.off, .slice A n c] 40)).alloc (.cells #[.int .i64 b.kind, .int .i64 b.lba, .int .i64 b.n, .int .i64 b.ver, .int .i64 b.zone, .int .i64 b.off, .slice B m d] 40)
    (Box w1 w.heap.size a A n c ∧ Box w1 (w.heap.size + 1) b B m d) ∧ Below w.heap.size w w1 := by
  refine ⟨⟨heap_alloc2_old w _ _, heap_alloc2_new w _ _⟩, ((Below.refl _ w).alloc (Nat.le_refl _) _).alloc (by simp) _⟩

set_option maxRecDepth 100000 in
set_option maxHeartbeats 3200000 in
theorem sameness_any (a b : Rc) {A B : Option Addr} {n c m d : Nat} {w : World} (h1 : Row cb w A n c a.data) (h2 : Row cb w B m d b.data) :
    Calls Try.prog 16 #[recV a A n c, recV b B m d] w fun e w' => e = .returned (.bool (sameB a b)) ∧ Below w.heap.size w w' := by
  have H1 := Lib.hid h1
  have H2 := Lib.hid h2
  have HA := fun w => Lib.hid (numbersOf_any a A n c w)
  have HB := fun w => Lib.hid (numbersOf_any b B m d w)
  clear h1 h2
  have hq := fun w => eql_nums a b w
  obtain ⟨X1, L1⟩ := two_boxes w a b A B n c m d
  have X1 := Lib.hid X1
  have L1 := Lib.hid L1
  unfold recV numsV at *
  go_enter Try.func16, Try.ntmps16
  go_wp2_with fail
  generalize (w.alloc (.cells #[.int .i64 a.kind, .int .i64 a.lba, .int .i64 a.n, .int .i64 a.ver, .int .i64 a.zone, .int .i64 a.off, .slice A n c] 40)).alloc (.cells #[.int .i64 b.kind, .int .i64 b.lba, .int .i64 b.n, .int .i64 b.ver, .int .i64 b.zone, .int .i64 b.off, .slice B m d] 40) = w1 at *
  have HC := both X1.out
  obtain ⟨⟨c0, c1, c2, c3, c4, c5, c6⟩, d0, d1, d2, d3, d4, d5, d6⟩ := HC
  have XD : Hid (Box w1.drew w.heap.size a A n c ∧ Box w1.drew (w.heap.size + 1) b B m d) := X1
  have LD : Hid (Below w.heap.size w w1.drew) := L1.out.trans ((Below.refl _ w1).drew.mono L1.out.size)
  clear c0 c1 c2 c3 c4 c5 c6 d0 d1 d2 d3 d4 d5 d6
  refine wp_region_held_drew (S := (fun W => (W.cell? ⟨w.heap.size, 0, none⟩ = some (.int .i64 a.kind) ∧ W.cell? ⟨w.heap.size, 1, none⟩ = some (.int .i64 a.lba) ∧ W.cell? ⟨w.heap.size, 2, none⟩ = some (.int .i64 a.n) ∧ W.cell? ⟨w.heap.size, 3, none⟩ = some (.int .i64 a.ver) ∧ W.cell? ⟨w.heap.size, 4, none⟩ = some (.int .i64 a.zone) ∧ W.cell? ⟨w.heap.size, 5, none⟩ = some (.int .i64 a.off) ∧ W.cell? ⟨w.heap.size, 6, none⟩ = some (.slice A n c)) ∧
        (W.cell? ⟨w.heap.size + 1, 0, none⟩ = some (.int .i64 b.kind) ∧ W.cell? ⟨w.heap.size + 1, 1, none⟩ = some (.int .i64 b.lba) ∧ W.cell? ⟨w.heap.size + 1, 2, none⟩ = some (.int .i64 b.n) ∧ W.cell? ⟨w.heap.size + 1, 3, none⟩ = some (.int .i64 b.ver) ∧ W.cell? ⟨w.heap.size + 1, 4, none⟩ = some (.int .i64 b.zone) ∧ W.cell? ⟨w.heap.size + 1, 5, none⟩ = some (.int .i64 b.off) ∧ W.cell? ⟨w.heap.size + 1, 6, none⟩ = some (.slice B m d)))) (by kernel_rfl) (both XD.out) (fun hHeld => ?_)
  (first | (refine Reg.take 0 (v := ?_) rfl (by kernel_rfl) (by kernel_rfl) (by kernel_rfl) (fun _ _ _ h => h) (Or.inl ⟨by rfl, ?_⟩) (by assumption) ?_; rotate_left; (focus ((intro W hSW); (try dsimp only at hSW); (try go_split_ands); go_simp; (try (with_reducible rfl)); done))) | (refine Reg.take 0 (v := undef) rfl (by kernel_rfl) (by kernel_rfl) (by kernel_rfl) (fun _ _ _ h => h) (Or.inr ⟨by rfl, rfl⟩) (by assumption) ?_))
  (try simp only [Act.put, List.setIfInBounds_toArray, List.set_cons_zero, List.set_cons_succ])
  (first | (refine Reg.take 2 (v := ?_) rfl (by kernel_rfl) (by kernel_rfl) (by kernel_rfl) (fun _ _ _ h => h) (Or.inl ⟨by rfl, ?_⟩) (by assumption) ?_; rotate_left; (focus ((intro W hSW); (try dsimp only at hSW); (try go_split_ands); go_simp; (try (with_reducible rfl)); done))) | (refine Reg.take 2 (v := undef) rfl (by kernel_rfl) (by kernel_rfl) (by kernel_rfl) (fun _ _ _ h => h) (Or.inr ⟨by rfl, rfl⟩) (by assumption) ?_))
  (try simp only [Act.put, List.setIfInBounds_toArray, List.set_cons_zero, List.set_cons_succ])
  refine Reg.step 1 rfl (by kernel_rfl) (by rfl) (fun K hK => ?_)
  go_simp
  refine (HA _).out.mono ?_
  rintro e wa ⟨rfl, hba⟩
  have LA := Lib.hid (LD.out.trans (hba.mono LD.out.size))
  have XA : Hid (Box wa w.heap.size a A n c ∧ Box wa (w.heap.size + 1) b B m d) := ⟨XD.out.1.below hba, XD.out.2.below hba⟩
  refine hK.out _ _ (both XA.out) (fun hHeld2 => ?_)
  clear hK K hHeld hba
  (try simp only [Act.put, List.setIfInBounds_toArray, List.set_cons_zero, List.set_cons_succ])
  refine Reg.step 3 rfl (by kernel_rfl) (by rfl) (fun K hK => ?_)
  go_simp
  refine (HB _).out.mono ?_
  rintro e wb ⟨rfl, hbb⟩
  have LB := Lib.hid (LA.out.trans (hbb.mono LA.out.size))
  have XB : Hid (Box wb w.heap.size a A n c ∧ Box wb (w.heap.size + 1) b B m d) := ⟨XA.out.1.below hbb, XA.out.2.below hbb⟩
  refine hK.out _ _ (both XB.out) (fun hHeld => ?_)
  clear hK K hHeld2 hbb
  (try simp only [Act.put, List.setIfInBounds_toArray, List.set_cons_zero, List.set_cons_succ])
  rcases hg : decide (nums a = nums b)
  · rw [hg] at hq
    (first | (refine Reg.take 4 (v := ?_) rfl (by kernel_rfl) (by kernel_rfl) (by kernel_rfl) (fun _ _ _ h => h) (Or.inl ⟨by rfl, ?_⟩) (by assumption) ?_; rotate_left; (focus ((intro W hSW); (try dsimp only at hSW); (try go_split_ands); go_simp; (try (with_reducible rfl)); done))) | (refine Reg.take 4 (v := undef) rfl (by kernel_rfl) (by kernel_rfl) (by kernel_rfl) (fun _ _ _ h => h) (Or.inr ⟨by rfl, rfl⟩) (by assumption) ?_))
    (try simp only [Act.put, List.setIfInBounds_toArray, List.set_cons_zero, List.set_cons_succ])
    (first | (refine Reg.take 5 (v := ?_) rfl (by kernel_rfl) (by kernel_rfl) (by kernel_rfl) (fun _ _ _ h => h) (Or.inl ⟨by rfl, ?_⟩) (by assumption) ?_; rotate_left; (focus ((intro W hSW); (try dsimp only at hSW); (try go_split_ands); go_simp; (try (with_reducible rfl)); done))) | (refine Reg.take 5 (v := undef) rfl (by kernel_rfl) (by kernel_rfl) (by kernel_rfl) (fun _ _ _ h => h) (Or.inr ⟨by rfl, rfl⟩) (by assumption) ?_))
    (try simp only [Act.put, List.setIfInBounds_toArray, List.set_cons_zero, List.set_cons_succ])
    (first | (refine Reg.take 6 (v := ?_) rfl (by kernel_rfl) (by kernel_rfl) (by kernel_rfl) (fun _ _ _ h => h) (Or.inl ⟨by rfl, ?_⟩) (by assumption) ?_; rotate_left; (focus ((intro W hSW); (try dsimp only at hSW); (try go_split_ands); go_simp; (try (with_reducible rfl)); done))) | (refine Reg.take 6 (v := undef) rfl (by kernel_rfl) (by kernel_rfl) (by kernel_rfl) (fun _ _ _ h => h) (Or.inr ⟨by rfl, rfl⟩) (by assumption) ?_))
    (try simp only [Act.put, List.setIfInBounds_toArray, List.set_cons_zero, List.set_cons_succ])
    (first | (refine Reg.take 7 (v := ?_) rfl (by kernel_rfl) (by kernel_rfl) (by kernel_rfl) (fun _ _ _ h => h) (Or.inl ⟨by rfl, ?_⟩) (by assumption) ?_; rotate_left; (focus ((intro W hSW); (try dsimp only at hSW); (try go_split_ands); go_simp; (try (with_reducible rfl)); done))) | (refine Reg.take 7 (v := undef) rfl (by kernel_rfl) (by kernel_rfl) (by kernel_rfl) (fun _ _ _ h => h) (Or.inr ⟨by rfl, rfl⟩) (by assumption) ?_))
    (try simp only [Act.put, List.setIfInBounds_toArray, List.set_cons_zero, List.set_cons_succ])
    (first | (refine Reg.take 8 (v := ?_) rfl (by kernel_rfl) (by kernel_rfl) (by kernel_rfl) (fun _ _ _ h => h) (Or.inl ⟨by rfl, ?_⟩) (by assumption) ?_; rotate_left; (focus ((intro W hSW); (try dsimp only at hSW); (try go_split_ands); go_simp; (try (with_reducible rfl)); done))) | (refine Reg.take 8 (v := undef) rfl (by kernel_rfl) (by kernel_rfl) (by kernel_rfl) (fun _ _ _ h => h) (Or.inr ⟨by rfl, rfl⟩) (by assumption) ?_))
    (try simp only [Act.put, List.setIfInBounds_toArray, List.set_cons_zero, List.set_cons_succ])
    (first | (refine Reg.take 9 (v := ?_) rfl (by kernel_rfl) (by kernel_rfl) (by kernel_rfl) (fun _ _ _ h => h) (Or.inl ⟨by rfl, ?_⟩) (by assumption) ?_; rotate_left; (focus ((intro W hSW); (try dsimp only at hSW); (try go_split_ands); go_simp; (try (with_reducible rfl)); done))) | (refine Reg.take 9 (v := undef) rfl (by kernel_rfl) (by kernel_rfl) (by kernel_rfl) (fun _ _ _ h => h) (Or.inr ⟨by rfl, rfl⟩) (by assumption) ?_))
    (try simp only [Act.put, List.setIfInBounds_toArray, List.set_cons_zero, List.set_cons_succ])
    (first | (refine Reg.take 10 (v := ?_) rfl (by kernel_rfl) (by kernel_rfl) (by kernel_rfl) (fun _ _ _ h => h) (Or.inl ⟨by rfl, ?_⟩) (by assumption) ?_; rotate_left; (focus ((intro W hSW); (try dsimp only at hSW); (try go_split_ands); go_simp; (try (with_reducible rfl)); done))) | (refine Reg.take 10 (v := undef) rfl (by kernel_rfl) (by kernel_rfl) (by kernel_rfl) (fun _ _ _ h => h) (Or.inr ⟨by rfl, rfl⟩) (by assumption) ?_))
    (try simp only [Act.put, List.setIfInBounds_toArray, List.set_cons_zero, List.set_cons_succ])
    (first | (refine Reg.take 11 (v := ?_) rfl (by kernel_rfl) (by kernel_rfl) (by kernel_rfl) (fun _ _ _ h => h) (Or.inl ⟨by rfl, ?_⟩) (by assumption) ?_; rotate_left; (focus ((intro W hSW); (try dsimp only at hSW); (try go_split_ands); go_simp; (try (with_reducible rfl)); done))) | (refine Reg.take 11 (v := undef) rfl (by kernel_rfl) (by kernel_rfl) (by kernel_rfl) (fun _ _ _ h => h) (Or.inr ⟨by rfl, rfl⟩) (by assumption) ?_))
    (try simp only [Act.put, List.setIfInBounds_toArray, List.set_cons_zero, List.set_cons_succ])
    (first | (refine Reg.take 12 (v := ?_) rfl (by kernel_rfl) (by kernel_rfl) (by kernel_rfl) (fun _ _ _ h => h) (Or.inl ⟨by rfl, ?_⟩) (by assumption) ?_; rotate_left; (focus ((intro W hSW); (try dsimp only at hSW); (try go_split_ands); go_simp; (try (with_reducible rfl)); done))) | (refine Reg.take 12 (v := undef) rfl (by kernel_rfl) (by kernel_rfl) (by kernel_rfl) (fun _ _ _ h => h) (Or.inr ⟨by rfl, rfl⟩) (by assumption) ?_))
    (try simp only [Act.put, List.setIfInBounds_toArray, List.set_cons_zero, List.set_cons_succ])
    refine wpAnyH_done (by kernel_rfl) ?_ _
    go_wp2_with fail
    go_ret
    exact ⟨ret_bool (by unfold sameB; rw [hg]; rfl), LB.out⟩
  · rw [hg] at hq
    (first | (refine Reg.take 4 (v := ?_) rfl (by kernel_rfl) (by kernel_rfl) (by kernel_rfl) (fun _ _ _ h => h) (Or.inl ⟨by rfl, ?_⟩) (by assumption) ?_; rotate_left; (focus ((intro W hSW); (try dsimp only at hSW); (try go_split_ands); go_simp; (try (with_reducible rfl)); done))) | (refine Reg.take 4 (v := undef) rfl (by kernel_rfl) (by kernel_rfl) (by kernel_rfl) (fun _ _ _ h => h) (Or.inr ⟨by rfl, rfl⟩) (by assumption) ?_))
    (try simp only [Act.put, List.setIfInBounds_toArray, List.set_cons_zero, List.set_cons_succ])
    (first | (refine Reg.take 5 (v := ?_) rfl (by kernel_rfl) (by kernel_rfl) (by kernel_rfl) (fun _ _ _ h => h) (Or.inl ⟨by rfl, ?_⟩) (by assumption) ?_; rotate_left; (focus ((intro W hSW); (try dsimp only at hSW); (try go_split_ands); go_simp; (try (with_reducible rfl)); done))) | (refine Reg.take 5 (v := undef) rfl (by kernel_rfl) (by kernel_rfl) (by kernel_rfl) (fun _ _ _ h => h) (Or.inr ⟨by rfl, rfl⟩) (by assumption) ?_))
    (try simp only [Act.put, List.setIfInBounds_toArray, List.set_cons_zero, List.set_cons_succ])
    (first | (refine Reg.take 6 (v := ?_) rfl (by kernel_rfl) (by kernel_rfl) (by kernel_rfl) (fun _ _ _ h => h) (Or.inl ⟨by rfl, ?_⟩) (by assumption) ?_; rotate_left; (focus ((intro W hSW); (try dsimp only at hSW); (try go_split_ands); go_simp; (try (with_reducible rfl)); done))) | (refine Reg.take 6 (v := undef) rfl (by kernel_rfl) (by kernel_rfl) (by kernel_rfl) (fun _ _ _ h => h) (Or.inr ⟨by rfl, rfl⟩) (by assumption) ?_))
    (try simp only [Act.put, List.setIfInBounds_toArray, List.set_cons_zero, List.set_cons_succ])
    (first | (refine Reg.take 7 (v := ?_) rfl (by kernel_rfl) (by kernel_rfl) (by kernel_rfl) (fun _ _ _ h => h) (Or.inl ⟨by rfl, ?_⟩) (by assumption) ?_; rotate_left; (focus ((intro W hSW); (try dsimp only at hSW); (try go_split_ands); go_simp; (try (with_reducible rfl)); done))) | (refine Reg.take 7 (v := undef) rfl (by kernel_rfl) (by kernel_rfl) (by kernel_rfl) (fun _ _ _ h => h) (Or.inr ⟨by rfl, rfl⟩) (by assumption) ?_))
    (try simp only [Act.put, List.setIfInBounds_toArray, List.set_cons_zero, List.set_cons_succ])
    (first | (refine Reg.take 8 (v := ?_) rfl (by kernel_rfl) (by kernel_rfl) (by kernel_rfl) (fun _ _ _ h => h) (Or.inl ⟨by rfl, ?_⟩) (by assumption) ?_; rotate_left; (focus ((intro W hSW); (try dsimp only at hSW); (try go_split_ands); go_simp; (try (with_reducible rfl)); done))) | (refine Reg.take 8 (v := undef) rfl (by kernel_rfl) (by kernel_rfl) (by kernel_rfl) (fun _ _ _ h => h) (Or.inr ⟨by rfl, rfl⟩) (by assumption) ?_))
    (try simp only [Act.put, List.setIfInBounds_toArray, List.set_cons_zero, List.set_cons_succ])
    (first | (refine Reg.take 9 (v := ?_) rfl (by kernel_rfl) (by kernel_rfl) (by kernel_rfl) (fun _ _ _ h => h) (Or.inl ⟨by rfl, ?_⟩) (by assumption) ?_; rotate_left; (focus ((intro W hSW); (try dsimp only at hSW); (try go_split_ands); go_simp; (try (with_reducible rfl)); done))) | (refine Reg.take 9 (v := undef) rfl (by kernel_rfl) (by kernel_rfl) (by kernel_rfl) (fun _ _ _ h => h) (Or.inr ⟨by rfl, rfl⟩) (by assumption) ?_))
    (try simp only [Act.put, List.setIfInBounds_toArray, List.set_cons_zero, List.set_cons_succ])
    refine Reg.step 10 rfl (by kernel_rfl) (by rfl) (fun K hK => ?_)
    go_simp
    refine (equal_any (H1.out.below LB.out) (H2.out.below LB.out)).mono ?_
    rintro e wc ⟨rfl, rfl⟩
    refine hK.out _ _ hHeld (fun _ => ?_)
    clear hK K
    (try simp only [Act.put, List.setIfInBounds_toArray, List.set_cons_zero, List.set_cons_succ])
    (first | (refine Reg.take 11 (v := ?_) rfl (by kernel_rfl) (by kernel_rfl) (by kernel_rfl) (fun _ _ _ h => h) (Or.inl ⟨by rfl, ?_⟩) (by assumption) ?_; rotate_left; (focus ((intro W hSW); (try dsimp only at hSW); (try go_split_ands); go_simp; (try (with_reducible rfl)); done))) | (refine Reg.take 11 (v := undef) rfl (by kernel_rfl) (by kernel_rfl) (by kernel_rfl) (fun _ _ _ h => h) (Or.inr ⟨by rfl, rfl⟩) (by assumption) ?_))
    (try simp only [Act.put, List.setIfInBounds_toArray, List.set_cons_zero, List.set_cons_succ])
    (first | (refine Reg.take 12 (v := ?_) rfl (by kernel_rfl) (by kernel_rfl) (by kernel_rfl) (fun _ _ _ h => h) (Or.inl ⟨by rfl, ?_⟩) (by assumption) ?_; rotate_left; (focus ((intro W hSW); (try dsimp only at hSW); (try go_split_ands); go_simp; (try (with_reducible rfl)); done))) | (refine Reg.take 12 (v := undef) rfl (by kernel_rfl) (by kernel_rfl) (by kernel_rfl) (fun _ _ _ h => h) (Or.inr ⟨by rfl, rfl⟩) (by assumption) ?_))
    (try simp only [Act.put, List.setIfInBounds_toArray, List.set_cons_zero, List.set_cons_succ])
    refine wpAnyH_done (by kernel_rfl) ?_ _
    go_wp2_with fail
    go_ret
    exact ⟨ret_bool (by unfold sameB; rw [hg]; rfl), LB.out⟩
end Seg
end Go.Proofs.Ytpdmlimjhpgdiaa
