/-
  A WALK OVER THE DOCUMENT'S OWN Torn; both Torns, in one.
-/
import Derived.Test.YtfcehlipbdngbaaZonRef
namespace Go.Proofs.Ytfcehlipbdngbaa
open Go.RowKit Mem
namespace Zon

set_option maxRecDepth 100000 in
set_option maxHeartbeats 3200000 in
theorem refTorn_bad {z : Zn} {D : Option Addr} {c : Nat} {most : Int} {n d : Nat} {B : Option Addr} {keep : Int} {w : World} {er : Int} (hn : n ≤ 140737488351232) (he : appErr z most n = er) (h0 : er ≠ 0) :
    Calls Try.prog 15 #[zv z D c, .int .i64 most, .slice B n d, .int .i64 keep] w (GaveZ w nilZ [.int .i64 er]) := by
  have HA := fun w => Lib.hid (refAppend_bad (z := z) (D := D) (c := c) (B := B) (d := d) (w := w) hn he h0)
  obtain ⟨L1, B1, N1⟩ := two_new w z D c
  have hb : (er != 0) = true := bne_iff_ne.2 h0
  clear he h0
  unfold GaveZ at *
  unfold zv at *
  go_enter Try.func15, Try.ntmps15
  go_wp2_with fail
  generalize (w.alloc (.cells #[.int .i64 z.st, .int .i64 z.fc, .slice D z.data.length c] 24)).alloc (.cells #[.int .i64 0, .int .i64 0, .slice none 0 0] 24) = w1 at *
  refine (HA w1).out.mono ?_
  rintro e w2 ⟨V, k0, rfl, -, hb2⟩
  have b23 : Below w2.heap.size w2 (w2.alloc (.cells #[.int .i64 nilZ.st, .int .i64 nilZ.fc, .slice V nilZ.data.length k0] 24)) := (Below.refl _ w2).alloc (Nat.le_refl _) _
  have L3 := Lib.hid ((L1.out.trans (hb2.mono L1.out.size)).trans (b23.mono (Nat.le_trans L1.out.size hb2.size)))
  have N3 := Lib.hid ((N1.out.below hb2).below b23)
  clear hb2 b23
  go_upto_region 2 with fail
  generalize w2.alloc (.cells #[.int .i64 nilZ.st, .int .i64 nilZ.fc, .slice V nilZ.data.length k0] 24) = w3 at *
  obtain ⟨n0, n1, n2⟩ := N3.out.cells
  obtain ⟨f0, f1, f2⟩ := N3.out.frozen
  go_wp2_with fail
  refine bodyPost_ret_by (results_zone_tmp rfl _ _ (w.heap.size + 1) _ _ _ _ rfl (Box.store N3.out nilZ none 0) Try.underlying24 rfl (by kernel_rfl)) rfl ?_
  exact gave_nil3 L3.out

set_option maxRecDepth 100000 in
set_option maxHeartbeats 3200000 in
theorem refTorn_keep {z : Zn} {D : Option Addr} {c : Nat} {most : Int} {b : List B8} {d : Nat} {B : Option Addr} {keep : Int} {w : World} (he : appErr z most b.length = 0) (h1 : Row cb w D z.data.length c z.data) (h2 : Row cb w B b.length d b) (h0 : keep < 0 ∨ (b.length : Int) < keep) :
    Calls Try.prog 15 #[zv z D c, .int .i64 most, .slice B b.length d, .int .i64 keep] w (GaveZ w nilZ [.int .i64 1]) := by
  have HA := fun w (h1 : Row cb w D z.data.length c z.data) (h2 : Row cb w B b.length d b) => Lib.hid (refAppend_ok h1 h2 he)
  have H1 := Lib.hid h1
  have H2 := Lib.hid h2
  obtain ⟨L1, B1, N1⟩ := two_new w z D c
  clear he h1 h2
  generalize appZ z most b = v at *
  unfold GaveZ at HA
  unfold zv Zn.len at *
  have hcond : ∃ p q, decide (keep < 0) = p ∧ decide ((b.length : Int) < keep) = q ∧ (p = true ∨ (p = false ∧ q = true)) := by
    refine ⟨_, _, rfl, rfl, ?_⟩
    by_cases hk : keep < 0
    · exact .inl (decide_eq_true hk)
    · exact .inr ⟨decide_eq_false hk, decide_eq_true (by omega)⟩
  obtain ⟨p, q0, e1, e2, hpq⟩ := hcond
  clear h0
  rcases hpq with rfl | ⟨rfl, rfl⟩
  all_goals
    go_enter Try.func15, Try.ntmps15
    go_wp2_with fail
    generalize (w.alloc (.cells #[.int .i64 z.st, .int .i64 z.fc, .slice D z.data.length c] 24)).alloc (.cells #[.int .i64 0, .int .i64 0, .slice none 0 0] 24) = w1 at *
    refine (HA w1 (H1.out.below L1.out) (H2.out.below L1.out)).out.mono ?_
    rintro e w2 ⟨V, k0, rfl, -, hb2⟩
    unfold zv at *
    have b23 : Below w2.heap.size w2 (w2.alloc (.cells #[.int .i64 v.st, .int .i64 v.fc, .slice V v.data.length k0] 24)) := (Below.refl _ w2).alloc (Nat.le_refl _) _
    have L3 := Lib.hid ((L1.out.trans (hb2.mono L1.out.size)).trans (b23.mono (Nat.le_trans L1.out.size hb2.size)))
    have N3 := Lib.hid ((N1.out.below hb2).below b23)
    clear hb2 b23
    go_upto_region 2 with fail
    generalize w2.alloc (.cells #[.int .i64 v.st, .int .i64 v.fc, .slice V v.data.length k0] 24) = w3 at *
    obtain ⟨n0, n1, n2⟩ := N3.out.cells
    obtain ⟨f0, f1, f2⟩ := N3.out.frozen
    go_wp2_with fail
    refine bodyPost_ret_by (results_zone_tmp rfl _ _ (w.heap.size + 1) _ _ _ _ rfl (Box.store N3.out nilZ none 0) Try.underlying24 rfl (by kernel_rfl)) rfl ?_
    exact gave_nil3 L3.out

set_option maxRecDepth 100000 in
set_option maxHeartbeats 3200000 in
theorem refTorn_none {z : Zn} {D : Option Addr} {c : Nat} {most : Int} {b : List B8} {d : Nat} {B : Option Addr} {w : World} (he : appErr z most b.length = 0) (h1 : Row cb w D z.data.length c z.data) (h2 : Row cb w B b.length d b) :
    Calls Try.prog 15 #[zv z D c, .int .i64 most, .slice B b.length d, .int .i64 0] w (GaveZ w z [.int .i64 0]) := by
  have HA := fun w (h1 : Row cb w D z.data.length c z.data) (h2 : Row cb w B b.length d b) => Lib.hid (refAppend_ok h1 h2 he)
  have HC := fun w (h : Row cb w D z.data.length c z.data) => Lib.hid (copy_any h)
  have H1 := Lib.hid h1
  have H2 := Lib.hid h2
  obtain ⟨L1, B1, N1⟩ := two_new w z D c
  have hd2 : decide ((b.length : Int) < 0) = false := by simp
  clear he h1 h2
  generalize appZ z most b = v at *
  unfold GaveZ at HA
  unfold GaveZ1 at HC
  unfold zv Zn.len at *
  go_enter Try.func15, Try.ntmps15
  go_wp2_with fail
  generalize (w.alloc (.cells #[.int .i64 z.st, .int .i64 z.fc, .slice D z.data.length c] 24)).alloc (.cells #[.int .i64 0, .int .i64 0, .slice none 0 0] 24) = w1 at *
  refine (HA w1 (H1.out.below L1.out) (H2.out.below L1.out)).out.mono ?_
  rintro e w2 ⟨V, k0, rfl, -, hb2⟩
  unfold zv at *
  have b23 : Below w2.heap.size w2 (w2.alloc (.cells #[.int .i64 v.st, .int .i64 v.fc, .slice V v.data.length k0] 24)) := (Below.refl _ w2).alloc (Nat.le_refl _) _
  have L3 := Lib.hid ((L1.out.trans (hb2.mono L1.out.size)).trans (b23.mono (Nat.le_trans L1.out.size hb2.size)))
  have N3 := Lib.hid ((N1.out.below hb2).below b23)
  have B3 := Lib.hid ((B1.out.below hb2).below b23)
  clear hb2 b23
  go_upto_region 2 with fail
  generalize w2.alloc (.cells #[.int .i64 v.st, .int .i64 v.fc, .slice V v.data.length k0] 24) = w3 at *
  obtain ⟨c0, c1, c2⟩ := B3.out.cells
  go_wp2_with fail
  refine (HC w3 (H1.out.below L3.out)).out.mono ?_
  rintro e w4 ⟨X, q, rfl, hX, hb4⟩
  unfold zv at *
  have N4 := Lib.hid (N3.out.below hb4)
  have L4 := Lib.hid (L3.out.trans (hb4.mono L3.out.size))
  have O4 := Lib.hid hX
  have HLT : Hid (w.heap.size + 1 < w3.heap.size) := N3.out.lt
  obtain ⟨f0, f1, f2⟩ := N4.out.frozen
  obtain ⟨n0, n1, n2⟩ := N4.out.cells
  clear hX hb4 c0 c1 c2
  go_wp2_with fail
  refine bodyPost_ret_by (results_zone_tmp rfl _ _ (w.heap.size + 1) _ _ _ _ rfl (Box.store N4.out z X q) Try.underlying24 rfl (by kernel_rfl)) rfl ?_
  exact ⟨X, q, rfl, (Owns.other3 (g := w.heap.size + 1) O4.out HLT.out _ _ _).mono (by have := HLT.out; omega), below3 L4.out (by omega) _ _ _⟩

set_option maxRecDepth 100000 in
set_option maxHeartbeats 3200000 in
theorem refTorn_some {z : Zn} {D : Option Addr} {c : Nat} {most : Int} {b : List B8} {d : Nat} {B : Option Addr} {k : Nat} {w : World} (he : appErr z most b.length = 0) (h1 : Row cb w D z.data.length c z.data) (h2 : Row cb w B b.length d b) (hk0 : 0 < k) (hk : k ≤ b.length) :
    Calls Try.prog 15 #[zv z D c, .int .i64 most, .slice B b.length d, .int .i64 (k : Int)] w (GaveZ w (appZ z most (b.take k)) [.int .i64 0]) := by
  have HF := fun w (h1 : Row cb w D z.data.length c z.data) (h2 : Row cb w B b.length d b) => Lib.hid (refAppend_ok h1 h2 he)
  obtain ⟨ho, hb0, h4, hle⟩ := appErr_zero he
  have htl : (b.take k).length = k := by rw [List.length_take]; omega
  have he2 : appErr z most (b.take k).length = 0 := appErr_of ho (by omega) h4 (by omega)
  have HA := fun w (h1 : Row cb w D z.data.length c z.data) (h2 : Row cb w B k d (b.take k)) => Lib.hid (refAppend_ok (b := b.take k) (d := d) h1 (by rw [htl]; exact h2) he2)
  rw [htl] at HA
  have H1 := Lib.hid h1
  have H0 := Lib.hid h2
  have H2 := Lib.hid (h2.head hk)
  have hsl := run_head B b.length d k (by have := h2.cap; omega)
  obtain ⟨L1, B1, N1⟩ := two_new w z D c
  have hd1 : decide ((k : Int) < 0) = false := by simp
  have hd2 : decide (b.length < k) = false := by simp; omega
  have hd3 : ((k : Int) == 0) = false := beq_eq_false_iff_ne.2 (by omega)
  clear he h1 h2 hb0 h4 hle he2 ho htl hk0 hk
  generalize appZ z most (b.take k) = y at *
  generalize appZ z most b = v at *
  unfold GaveZ at *
  unfold zv Zn.len at *
  have hcell := fun W (h : Box W w.heap.size z D c) => h.cells
  go_enter Try.func15, Try.ntmps15
  go_wp2_with fail
  generalize (w.alloc (.cells #[.int .i64 z.st, .int .i64 z.fc, .slice D z.data.length c] 24)).alloc (.cells #[.int .i64 0, .int .i64 0, .slice none 0 0] 24) = w1 at *
  refine (HF w1 (H1.out.below L1.out) (H0.out.below L1.out)).out.mono ?_
  rintro e w11 ⟨V, k0, rfl, -, hb11⟩
  unfold zv at *
  have b23 : Below w11.heap.size w11 (w11.alloc (.cells #[.int .i64 v.st, .int .i64 v.fc, .slice V v.data.length k0] 24)) := (Below.refl _ w11).alloc (Nat.le_refl _) _
  have L2 := Lib.hid ((L1.out.trans (hb11.mono L1.out.size)).trans (b23.mono (Nat.le_trans L1.out.size hb11.size)))
  have N2 := Lib.hid ((N1.out.below hb11).below b23)
  have B2 := Lib.hid ((B1.out.below hb11).below b23)
  clear hb11 b23 L1 N1 B1 HF H0
  go_upto_region 2 with fail
  generalize w11.alloc (.cells #[.int .i64 v.st, .int .i64 v.fc, .slice V v.data.length k0] 24) = w2 at *
  generalize w11.heap.size = g11 at *
  have A3 : Hid (Box w2.drew w.heap.size z D c) := B2
  have N3 : Hid (Box w2.drew (w.heap.size + 1) nilZ none 0) := N2
  have L3 : Hid (Below w.heap.size w w2.drew) := L2.out.drew
  clear B2 N2 L2
  go_wp2_with fail
  refine wp_region_held_drew (S := fun W => W.cell? ⟨w.heap.size, 0, none⟩ = some (.int .i64 z.st) ∧ W.cell? ⟨w.heap.size, 1, none⟩ = some (.int .i64 z.fc) ∧ W.cell? ⟨w.heap.size, 2, none⟩ = some (.slice D z.data.length c))
    (by kernel_rfl) (hcell _ A3.out) (fun hHeld => ?_)
  (first | (refine Reg.take 0 (v := ?_) rfl (by kernel_rfl) (by kernel_rfl) (by kernel_rfl) (fun _ _ _ h => h) (Or.inl ⟨by rfl, ?_⟩) (by assumption) ?_; rotate_left; (focus ((intro W hSW); (try dsimp only at hSW); (try go_split_ands); go_simp; (try (with_reducible rfl)); done))) | (refine Reg.take 0 (v := undef) rfl (by kernel_rfl) (by kernel_rfl) (by kernel_rfl) (fun _ _ _ h => h) (Or.inr ⟨by rfl, rfl⟩) (by assumption) ?_))
  (try simp only [Act.put, List.setIfInBounds_toArray, List.set_cons_zero, List.set_cons_succ])
  (first | (refine Reg.take 1 (v := ?_) rfl (by kernel_rfl) (by kernel_rfl) (by kernel_rfl) (fun _ _ _ h => h) (Or.inl ⟨by rfl, ?_⟩) (by assumption) ?_; rotate_left; (focus ((intro W hSW); (try dsimp only at hSW); (try go_split_ands); go_simp; (try (with_reducible rfl)); done))) | (refine Reg.take 1 (v := undef) rfl (by kernel_rfl) (by kernel_rfl) (by kernel_rfl) (fun _ _ _ h => h) (Or.inr ⟨by rfl, rfl⟩) (by assumption) ?_))
  (try simp only [Act.put, List.setIfInBounds_toArray, List.set_cons_zero, List.set_cons_succ])
  (first | (refine Reg.take 2 (v := ?_) rfl (by kernel_rfl) (by kernel_rfl) (by kernel_rfl) (fun _ _ _ h => h) (Or.inl ⟨by rfl, ?_⟩) (by assumption) ?_; rotate_left; (focus ((intro W hSW); (try dsimp only at hSW); (try go_split_ands); go_simp; (try (with_reducible rfl)); done))) | (refine Reg.take 2 (v := undef) rfl (by kernel_rfl) (by kernel_rfl) (by kernel_rfl) (fun _ _ _ h => h) (Or.inr ⟨by rfl, rfl⟩) (by assumption) ?_))
  (try simp only [Act.put, List.setIfInBounds_toArray, List.set_cons_zero, List.set_cons_succ])
  (first | (refine Reg.take 3 (v := ?_) rfl (by kernel_rfl) (by kernel_rfl) (by kernel_rfl) (fun _ _ _ h => h) (Or.inl ⟨by rfl, ?_⟩) (by assumption) ?_; rotate_left; (focus ((intro W hSW); (try dsimp only at hSW); (try go_split_ands); go_simp; (try (with_reducible rfl)); done))) | (refine Reg.take 3 (v := undef) rfl (by kernel_rfl) (by kernel_rfl) (by kernel_rfl) (fun _ _ _ h => h) (Or.inr ⟨by rfl, rfl⟩) (by assumption) ?_))
  (try simp only [Act.put, List.setIfInBounds_toArray, List.set_cons_zero, List.set_cons_succ])
  (first | (refine Reg.take 4 (v := ?_) rfl (by kernel_rfl) (by kernel_rfl) (by kernel_rfl) (fun _ _ _ h => h) (Or.inl ⟨by rfl, ?_⟩) (by assumption) ?_; rotate_left; (focus ((intro W hSW); (try dsimp only at hSW); (try go_split_ands); go_simp; (try (with_reducible rfl)); done))) | (refine Reg.take 4 (v := undef) rfl (by kernel_rfl) (by kernel_rfl) (by kernel_rfl) (fun _ _ _ h => h) (Or.inr ⟨by rfl, rfl⟩) (by assumption) ?_))
  (try simp only [Act.put, List.setIfInBounds_toArray, List.set_cons_zero, List.set_cons_succ])
  refine Reg.step2 5 10 rfl rfl (by kernel_rfl) (by rfl) (by rfl) (fun K hK => ?_) (fun K hK => ?_)
  · go_simp
    refine (HA w2.drew (H1.out.below L3.out) (H2.out.below L3.out)).out.mono ?_
    rintro e w5 ⟨X, q, rfl, hX, hb5⟩
    have A5 := Lib.hid (A3.out.below hb5)
    have N5 := Lib.hid (N3.out.below hb5)
    have L5 := Lib.hid (L3.out.trans (hb5.mono L3.out.size))
    have O5 := Lib.hid hX
    clear hX hb5
    refine hK.out _ _ (hcell _ A5.out) (fun hHeld4 => ?_)
    clear hK K
    (try simp only [Act.put, List.setIfInBounds_toArray, List.set_cons_zero, List.set_cons_succ])
    (first | (refine Reg.take 6 (v := ?_) rfl (by kernel_rfl) (by kernel_rfl) (by kernel_rfl) (fun _ _ _ h => h) (Or.inl ⟨by rfl, ?_⟩) (by assumption) ?_; rotate_left; (focus ((intro W hSW); (try dsimp only at hSW); (try go_split_ands); go_simp; (try (with_reducible rfl)); done))) | (refine Reg.take 6 (v := undef) rfl (by kernel_rfl) (by kernel_rfl) (by kernel_rfl) (fun _ _ _ h => h) (Or.inr ⟨by rfl, rfl⟩) (by assumption) ?_))
    (try simp only [Act.put, List.setIfInBounds_toArray, List.set_cons_zero, List.set_cons_succ])
    (first | (refine Reg.take 7 (v := ?_) rfl (by kernel_rfl) (by kernel_rfl) (by kernel_rfl) (fun _ _ _ h => h) (Or.inl ⟨by rfl, ?_⟩) (by assumption) ?_; rotate_left; (focus ((intro W hSW); (try dsimp only at hSW); (try go_split_ands); go_simp; (try (with_reducible rfl)); done))) | (refine Reg.take 7 (v := undef) rfl (by kernel_rfl) (by kernel_rfl) (by kernel_rfl) (fun _ _ _ h => h) (Or.inr ⟨by rfl, rfl⟩) (by assumption) ?_))
    (try simp only [Act.put, List.setIfInBounds_toArray, List.set_cons_zero, List.set_cons_succ])
    (first | (refine Reg.take 8 (v := ?_) rfl (by kernel_rfl) (by kernel_rfl) (by kernel_rfl) (fun _ _ _ h => h) (Or.inl ⟨by rfl, ?_⟩) (by assumption) ?_; rotate_left; (focus ((intro W hSW); (try dsimp only at hSW); (try go_split_ands); go_simp; (try (with_reducible rfl)); done))) | (refine Reg.take 8 (v := undef) rfl (by kernel_rfl) (by kernel_rfl) (by kernel_rfl) (fun _ _ _ h => h) (Or.inr ⟨by rfl, rfl⟩) (by assumption) ?_))
    (try simp only [Act.put, List.setIfInBounds_toArray, List.set_cons_zero, List.set_cons_succ])
    (first | (refine Reg.take 9 (v := ?_) rfl (by kernel_rfl) (by kernel_rfl) (by kernel_rfl) (fun _ _ _ h => h) (Or.inl ⟨by rfl, ?_⟩) (by assumption) ?_; rotate_left; (focus ((intro W hSW); (try dsimp only at hSW); (try go_split_ands); go_simp; (try (with_reducible rfl)); done))) | (refine Reg.take 9 (v := undef) rfl (by kernel_rfl) (by kernel_rfl) (by kernel_rfl) (fun _ _ _ h => h) (Or.inr ⟨by rfl, rfl⟩) (by assumption) ?_))
    (try simp only [Act.put, List.setIfInBounds_toArray, List.set_cons_zero, List.set_cons_succ])
    refine Reg.step 10 rfl (by kernel_rfl) (by rfl) (fun K hK => ?_)
    go_simp
    have A6 := Lib.hid (A5.out.alloc (.cells #[.int .i64 0, .int .i64 0, .slice none 0 0] 24))
    refine hK.out _ _ (hcell _ A6.out) (fun hHeld5 => ?_)
    clear hK K
    (try simp only [Act.put, List.setIfInBounds_toArray, List.set_cons_zero, List.set_cons_succ])
    refine Reg.step 11 rfl (by kernel_rfl) (by rfl) (fun K hK => ?_)
    go_simp
    have b58 : Below w5.heap.size w5 (w5.alloc (.cells #[.int .i64 y.st, .int .i64 y.fc, .slice X y.data.length q] 24)) := (Below.refl _ w5).alloc (Nat.le_refl _) _
    have A8 := Lib.hid (A5.out.below b58)
    have N8 := Lib.hid (N5.out.below b58)
    have L8 := Lib.hid (L5.out.trans (b58.mono L5.out.size))
    have O8 := Lib.hid (O5.out.below b58)
    have Y8 := Lib.hid (Box.new w5 y X q)
    have HLT : Hid (w.heap.size + 1 < w2.drew.heap.size) := N3.out.lt
    have HLE : Hid (w.heap.size ≤ w2.drew.heap.size) := L3.out.size
    refine hK.out _ _ (hcell _ A8.out) (fun hHeld6 => ?_)
    clear hK K b58 A5 N5 L5 O5 A6 A3 N3 L3
    (try simp only [Act.put, List.setIfInBounds_toArray, List.set_cons_zero, List.set_cons_succ])
    generalize w5.heap.size = g at *
    generalize w5.alloc (.cells #[.int .i64 y.st, .int .i64 y.fc, .slice X y.data.length q] 24) = w8 at *
    (first | (refine Reg.take 12 (v := ?_) rfl (by kernel_rfl) (by kernel_rfl) (by kernel_rfl) (fun _ _ _ h => h) (Or.inl ⟨by rfl, ?_⟩) (by assumption) ?_; rotate_left; (focus ((intro W hSW); (try dsimp only at hSW); (try go_split_ands); go_simp; (try (with_reducible rfl)); done))) | (refine Reg.take 12 (v := undef) rfl (by kernel_rfl) (by kernel_rfl) (by kernel_rfl) (fun _ _ _ h => h) (Or.inr ⟨by rfl, rfl⟩) (by assumption) ?_))
    (try simp only [Act.put, List.setIfInBounds_toArray, List.set_cons_zero, List.set_cons_succ])
    (first | (refine Reg.take 13 (v := ?_) rfl (by kernel_rfl) (by kernel_rfl) (by kernel_rfl) (fun _ _ _ h => h) (Or.inl ⟨by rfl, ?_⟩) (by assumption) ?_; rotate_left; (focus ((intro W hSW); (try dsimp only at hSW); (try go_split_ands); go_simp; (try (with_reducible rfl)); done))) | (refine Reg.take 13 (v := undef) rfl (by kernel_rfl) (by kernel_rfl) (by kernel_rfl) (fun _ _ _ h => h) (Or.inr ⟨by rfl, rfl⟩) (by assumption) ?_))
    (try simp only [Act.put, List.setIfInBounds_toArray, List.set_cons_zero, List.set_cons_succ])
    refine wpAnyH_done (by kernel_rfl) ?_ _
    obtain ⟨x0, x1, x2⟩ := Y8.out.cells
    obtain ⟨f0, f1, f2⟩ := N8.out.frozen
    obtain ⟨n0, n1, n2⟩ := N8.out.cells
    go_wp2_with fail
    refine bodyPost_ret_by (results_zone_tmp rfl _ _ (w.heap.size + 1) _ _ _ _ rfl (Box.store N8.out y X q) Try.underlying24 rfl (by kernel_rfl)) rfl ?_
    exact ⟨X, q, rfl, (Owns.other3 (g := w.heap.size + 1) O8.out HLT.out _ _ _).mono HLE.out, below3 L8.out (by omega) _ _ _⟩
  · go_simp
    have b34 : Below w2.drew.heap.size w2.drew (w2.alloc (.cells #[.int .i64 0, .int .i64 0, .slice none 0 0] 24)).drew := ((Below.refl _ w2.drew).alloc (Nat.le_refl _) (.cells #[.int .i64 0, .int .i64 0, .slice none 0 0] 24))
    have A4 := Lib.hid (A3.out.below b34)
    have N4 := Lib.hid (N3.out.below b34)
    have L4 := Lib.hid (L3.out.trans (b34.mono L3.out.size))
    have Y4 : Hid (Box (w2.alloc (.cells #[.int .i64 0, .int .i64 0, .slice none 0 0] 24)).drew w2.heap.size nilZ none 0) := Box.new w2 nilZ none 0
    have HLT0 : Hid (w.heap.size + 1 < w2.heap.size) := N3.out.lt
    have HLE0 : Hid (w.heap.size ≤ w2.heap.size) := L3.out.size
    refine hK.out _ _ (hcell _ A4.out) (fun hHeld3 => ?_)
    clear hK K b34 A3 N3 L3
    (try simp only [Act.put, List.setIfInBounds_toArray, List.set_cons_zero, List.set_cons_succ])
    generalize w2.heap.size = g at *
    generalize (w2.alloc (.cells #[.int .i64 0, .int .i64 0, .slice none 0 0] 24)).drew = w4 at *
    refine Reg.step 5 rfl (by kernel_rfl) (by rfl) (fun K hK => ?_)
    go_simp
    refine (HA w4 (H1.out.below L4.out) (H2.out.below L4.out)).out.mono ?_
    rintro e w5 ⟨X, q, rfl, hX, hb5⟩
    have A5 := Lib.hid (A4.out.below hb5)
    have N5 := Lib.hid (N4.out.below hb5)
    have Y5 := Lib.hid (Y4.out.below hb5)
    have L5 := Lib.hid (L4.out.trans (hb5.mono L4.out.size))
    have O5 := Lib.hid hX
    have HG : Hid (g < w4.heap.size) := Y4.out.lt
    have HLT : Hid (w.heap.size + 1 < w4.heap.size) := N4.out.lt
    have HLE : Hid (w.heap.size ≤ w4.heap.size) := L4.out.size
    clear hX hb5
    refine hK.out _ _ (hcell _ A5.out) (fun hHeld4 => ?_)
    clear hK K A4 N4 Y4 L4
    (try simp only [Act.put, List.setIfInBounds_toArray, List.set_cons_zero, List.set_cons_succ])
    (first | (refine Reg.take 6 (v := ?_) rfl (by kernel_rfl) (by kernel_rfl) (by kernel_rfl) (fun _ _ _ h => h) (Or.inl ⟨by rfl, ?_⟩) (by assumption) ?_; rotate_left; (focus ((intro W hSW); (try dsimp only at hSW); (try go_split_ands); go_simp; (try (with_reducible rfl)); done))) | (refine Reg.take 6 (v := undef) rfl (by kernel_rfl) (by kernel_rfl) (by kernel_rfl) (fun _ _ _ h => h) (Or.inr ⟨by rfl, rfl⟩) (by assumption) ?_))
    (try simp only [Act.put, List.setIfInBounds_toArray, List.set_cons_zero, List.set_cons_succ])
    (first | (refine Reg.take 7 (v := ?_) rfl (by kernel_rfl) (by kernel_rfl) (by kernel_rfl) (fun _ _ _ h => h) (Or.inl ⟨by rfl, ?_⟩) (by assumption) ?_; rotate_left; (focus ((intro W hSW); (try dsimp only at hSW); (try go_split_ands); go_simp; (try (with_reducible rfl)); done))) | (refine Reg.take 7 (v := undef) rfl (by kernel_rfl) (by kernel_rfl) (by kernel_rfl) (fun _ _ _ h => h) (Or.inr ⟨by rfl, rfl⟩) (by assumption) ?_))
    (try simp only [Act.put, List.setIfInBounds_toArray, List.set_cons_zero, List.set_cons_succ])
    (first | (refine Reg.take 8 (v := ?_) rfl (by kernel_rfl) (by kernel_rfl) (by kernel_rfl) (fun _ _ _ h => h) (Or.inl ⟨by rfl, ?_⟩) (by assumption) ?_; rotate_left; (focus ((intro W hSW); (try dsimp only at hSW); (try go_split_ands); go_simp; (try (with_reducible rfl)); done))) | (refine Reg.take 8 (v := undef) rfl (by kernel_rfl) (by kernel_rfl) (by kernel_rfl) (fun _ _ _ h => h) (Or.inr ⟨by rfl, rfl⟩) (by assumption) ?_))
    (try simp only [Act.put, List.setIfInBounds_toArray, List.set_cons_zero, List.set_cons_succ])
    (first | (refine Reg.take 9 (v := ?_) rfl (by kernel_rfl) (by kernel_rfl) (by kernel_rfl) (fun _ _ _ h => h) (Or.inl ⟨by rfl, ?_⟩) (by assumption) ?_; rotate_left; (focus ((intro W hSW); (try dsimp only at hSW); (try go_split_ands); go_simp; (try (with_reducible rfl)); done))) | (refine Reg.take 9 (v := undef) rfl (by kernel_rfl) (by kernel_rfl) (by kernel_rfl) (fun _ _ _ h => h) (Or.inr ⟨by rfl, rfl⟩) (by assumption) ?_))
    (try simp only [Act.put, List.setIfInBounds_toArray, List.set_cons_zero, List.set_cons_succ])
    refine Reg.step 11 rfl (by kernel_rfl) (by rfl) (fun K hK => ?_)
    obtain ⟨f0, f1, f2⟩ := Y5.out.frozen
    obtain ⟨n0, n1, n2⟩ := Y5.out.cells
    go_simp
    have A8 := Lib.hid (A5.out.other3 (g' := g) (by have := HLT0.out; omega) (.int .i64 y.st) (.int .i64 y.fc) (.slice X y.data.length q))
    have N8 := Lib.hid (N5.out.other3 (g' := g) (by have := HLT0.out; omega) (.int .i64 y.st) (.int .i64 y.fc) (.slice X y.data.length q))
    have Y8 := Lib.hid (Box.store Y5.out y X q)
    have L8 := Lib.hid (below3 (g := g) L5.out HLE0.out (.int .i64 y.st) (.int .i64 y.fc) (.slice X y.data.length q))
    have O8 := Lib.hid (Owns.other3 (g := g) O5.out HG.out (.int .i64 y.st) (.int .i64 y.fc) (.slice X y.data.length q))
    refine hK.out _ _ (hcell _ A8.out) (fun hHeld6 => ?_)
    clear hK K f0 f1 f2 n0 n1 n2 A5 N5 Y5 L5 O5
    (try simp only [Act.put, List.setIfInBounds_toArray, List.set_cons_zero, List.set_cons_succ])
    generalize ((w5.setCell ⟨g, 0, none⟩ (.int .i64 y.st)).setCell ⟨g, 1, none⟩ (.int .i64 y.fc)).setCell ⟨g, 2, none⟩ (.slice X y.data.length q) = w8 at *
    (first | (refine Reg.take 12 (v := ?_) rfl (by kernel_rfl) (by kernel_rfl) (by kernel_rfl) (fun _ _ _ h => h) (Or.inl ⟨by rfl, ?_⟩) (by assumption) ?_; rotate_left; (focus ((intro W hSW); (try dsimp only at hSW); (try go_split_ands); go_simp; (try (with_reducible rfl)); done))) | (refine Reg.take 12 (v := undef) rfl (by kernel_rfl) (by kernel_rfl) (by kernel_rfl) (fun _ _ _ h => h) (Or.inr ⟨by rfl, rfl⟩) (by assumption) ?_))
    (try simp only [Act.put, List.setIfInBounds_toArray, List.set_cons_zero, List.set_cons_succ])
    (first | (refine Reg.take 13 (v := ?_) rfl (by kernel_rfl) (by kernel_rfl) (by kernel_rfl) (fun _ _ _ h => h) (Or.inl ⟨by rfl, ?_⟩) (by assumption) ?_; rotate_left; (focus ((intro W hSW); (try dsimp only at hSW); (try go_split_ands); go_simp; (try (with_reducible rfl)); done))) | (refine Reg.take 13 (v := undef) rfl (by kernel_rfl) (by kernel_rfl) (by kernel_rfl) (fun _ _ _ h => h) (Or.inr ⟨by rfl, rfl⟩) (by assumption) ?_))
    (try simp only [Act.put, List.setIfInBounds_toArray, List.set_cons_zero, List.set_cons_succ])
    refine wpAnyH_done (by kernel_rfl) ?_ _
    obtain ⟨x0, x1, x2⟩ := Y8.out.cells
    obtain ⟨f0, f1, f2⟩ := N8.out.frozen
    obtain ⟨n0, n1, n2⟩ := N8.out.cells
    go_wp2_with fail
    refine bodyPost_ret_by (results_zone_tmp rfl _ _ (w.heap.size + 1) _ _ _ _ rfl (Box.store N8.out y X q) Try.underlying24 rfl (by kernel_rfl)) rfl ?_
    exact ⟨X, q, rfl, (Owns.other3 (g := w.heap.size + 1) O8.out HLT.out _ _ _).mono HLE.out, below3 L8.out (by omega) _ _ _⟩

theorem torn_any {z : Zn} {D : Option Addr} {c : Nat} {most : Int} {b : List B8} {d : Nat} {B : Option Addr} {keep : Int} {w : World} (h1 : Row cb w D z.data.length c z.data) (h2 : Row cb w B b.length d b) :
    Calls Try.prog 14 #[zv z D c, .int .i64 most, .slice B b.length d, .int .i64 keep] w (GaveZ w (tornZ z most b keep) [.int .i64 (tornErr z most b keep)]) := by
  unfold tornZ tornErr
  rcases e0 : (appErr z most b.length == 0)
  · have hne := beq_eq_false_iff_ne.1 e0
    simp only [cond_false, e0]
    exact torn_bad h2.big rfl hne
  · have he := beq_iff_eq.1 e0
    simp only [cond_true]
    rcases ek : (decide (keep < 0) || decide ((b.length : Int) < keep))
    · simp only [Bool.or_eq_false_iff, decide_eq_false_iff_not] at ek
      have e1 : ((0 : Int) == 0) = true := rfl
      simp only [cond_false, e1, cond_true]
      rcases k0 : (keep == 0)
      · obtain ⟨k, rfl⟩ := Int.eq_ofNat_of_zero_le (show 0 ≤ keep by omega)
        have := beq_eq_false_iff_ne.1 k0
        exact torn_some he h1 h2 (by omega) (by omega)
      · obtain rfl := beq_iff_eq.1 k0
        exact torn_none h2.big he h1
    · simp only [Bool.or_eq_true, decide_eq_true_eq] at ek
      exact torn_keep h2.big he ek
theorem refTorn_any {z : Zn} {D : Option Addr} {c : Nat} {most : Int} {b : List B8} {d : Nat} {B : Option Addr} {keep : Int} {w : World} (h1 : Row cb w D z.data.length c z.data) (h2 : Row cb w B b.length d b) :
    Calls Try.prog 15 #[zv z D c, .int .i64 most, .slice B b.length d, .int .i64 keep] w (GaveZ w (tornZ z most b keep) [.int .i64 (tornErr z most b keep)]) := by
  unfold tornZ tornErr
  rcases e0 : (appErr z most b.length == 0)
  · have hne := beq_eq_false_iff_ne.1 e0
    simp only [cond_false, e0]
    exact refTorn_bad h2.big rfl hne
  · have he := beq_iff_eq.1 e0
    simp only [cond_true]
    rcases ek : (decide (keep < 0) || decide ((b.length : Int) < keep))
    · simp only [Bool.or_eq_false_iff, decide_eq_false_iff_not] at ek
      have e1 : ((0 : Int) == 0) = true := rfl
      simp only [cond_false, e1, cond_true]
      rcases k0 : (keep == 0)
      · obtain ⟨k, rfl⟩ := Int.eq_ofNat_of_zero_le (show 0 ≤ keep by omega)
        have := beq_eq_false_iff_ne.1 k0
        exact refTorn_some he h1 h2 (by omega) (by omega)
      · obtain rfl := beq_iff_eq.1 k0
        exact refTorn_none he h1 h2
    · simp only [Bool.or_eq_true, decide_eq_true_eq] at ek
      exact refTorn_keep he h1 h2 ek

/-- What an append gives, its error, and where its bytes begin. -/
def appRes (z : Zn) (most : Int) (b : List B8) : Zn := bif appErr z most b.length == 0 then appZ z most b else nilZ
def appAt (z : Zn) (most : Int) (n : Nat) : Int := bif appErr z most n == 0 then z.len else 0
theorem append_any {z : Zn} {D : Option Addr} {c : Nat} {most : Int} {b : List B8} {d : Nat} {B : Option Addr} {w : World} (h1 : Row cb w D z.data.length c z.data) (h2 : Row cb w B b.length d b) :
    Calls Try.prog 12 #[zv z D c, .int .i64 most, .slice B b.length d] w (GaveZ w (appRes z most b) [.int .i64 (appAt z most b.length), .int .i64 (appErr z most b.length)]) := by
  unfold appRes appAt
  rcases e0 : (appErr z most b.length == 0)
  · exact append_bad h2.big rfl (beq_eq_false_iff_ne.1 e0)
  · have he := beq_iff_eq.1 e0
    rw [he]
    exact append_ok h1 h2 he
theorem refAppend_any {z : Zn} {D : Option Addr} {c : Nat} {most : Int} {b : List B8} {d : Nat} {B : Option Addr} {w : World} (h1 : Row cb w D z.data.length c z.data) (h2 : Row cb w B b.length d b) :
    Calls Try.prog 13 #[zv z D c, .int .i64 most, .slice B b.length d] w (GaveZ w (appRes z most b) [.int .i64 (appAt z most b.length), .int .i64 (appErr z most b.length)]) := by
  unfold appRes appAt
  rcases e0 : (appErr z most b.length == 0)
  · exact refAppend_bad h2.big rfl (beq_eq_false_iff_ne.1 e0)
  · have he := beq_iff_eq.1 e0
    rw [he]
    exact refAppend_ok h1 h2 he
end Zon
end Go.Proofs.Ytfcehlipbdngbaa
