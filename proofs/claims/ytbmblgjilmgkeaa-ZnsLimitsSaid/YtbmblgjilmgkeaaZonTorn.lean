/-
  A WALK OVER zone.Torn.
-/
import Derived.Test.YtbmblgjilmgkeaaZonMore
namespace Go.Proofs.Ytbmblgjilmgkeaa
open Go.RowKit Mem
namespace Zon

def tornErr (z : Zn) (most : Int) (b : List B8) (keep : Int) : Int := bif appErr z most b.length == 0 then (bif (decide (keep < 0) || decide ((b.length : Int) < keep)) then 1 else 0) else appErr z most b.length
def tornZ (z : Zn) (most : Int) (b : List B8) (keep : Int) : Zn := bif tornErr z most b keep == 0 then (bif keep == 0 then z else appZ z most (b.take keep.toNat)) else nilZ

set_option maxRecDepth 100000 in
set_option maxHeartbeats 3200000 in
theorem torn_bad {z : Zn} {D : Option Addr} {c : Nat} {most : Int} {n d : Nat} {B : Option Addr} {keep : Int} {w : World} {er : Int} (hn : n ≤ 140737488351232) (he : appErr z most n = er) (h0 : er ≠ 0) :
    Calls Try.prog 53 #[zv z D c, .int .i64 most, .slice B n d, .int .i64 keep] w (GaveZ w nilZ [.int .i64 er]) := by
  have HE := fun w => Lib.hid (appendError_any z D c most B n d hn w)
  rw [he] at HE
  obtain ⟨L1, -, B2⟩ := two_new w z D c
  have hb : (er != 0) = true := bne_iff_ne.2 h0
  clear he h0
  unfold zv at *
  go_enter Try.func53, Try.ntmps53
  go_wp2_with fail
  generalize (w.alloc (.cells #[.int .i64 z.st, .int .i64 z.fc, .slice D z.data.length c] 42)).alloc (.cells #[.int .i64 0, .int .i64 0, .slice none 0 0] 42) = w1 at *
  refine (HE w1).out.mono ?_
  rintro e w2 ⟨rfl, hb2⟩
  have L2 := Lib.hid (L1.out.trans (hb2.mono L1.out.size))
  have B3 := Lib.hid (B2.out.below hb2)
  obtain ⟨c0, c1, c2⟩ := B3.out.cells
  obtain ⟨f0, f1, f2⟩ := B3.out.frozen
  clear hb2
  go_wp2_with fail
  refine bodyPost_ret_by (results_zone_tmp rfl _ _ (w.heap.size + 1) _ _ _ _ rfl (Box.store B3.out nilZ none 0) Try.underlying42 rfl (by kernel_rfl)) rfl ?_
  exact GaveZ.nil (below3 L2.out (by omega) _ _ _)

set_option maxRecDepth 100000 in
set_option maxHeartbeats 3200000 in
theorem torn_keep {z : Zn} {D : Option Addr} {c : Nat} {most : Int} {n d : Nat} {B : Option Addr} {keep : Int} {w : World} (hn : n ≤ 140737488351232) (he : appErr z most n = 0) (h0 : keep < 0 ∨ (n : Int) < keep) :
    Calls Try.prog 53 #[zv z D c, .int .i64 most, .slice B n d, .int .i64 keep] w (GaveZ w nilZ [.int .i64 1]) := by
  have HE := fun w => Lib.hid (appendError_any z D c most B n d hn w)
  rw [he] at HE
  obtain ⟨L1, -, B2⟩ := two_new w z D c
  clear he
  unfold zv at *
  rcases e1 : decide (keep < 0)
  · have e2 : decide ((n : Int) < keep) = true := decide_eq_true (by have := of_decide_eq_false e1; omega)
    clear h0
    go_enter Try.func53, Try.ntmps53
    go_wp2_with fail
    generalize (w.alloc (.cells #[.int .i64 z.st, .int .i64 z.fc, .slice D z.data.length c] 42)).alloc (.cells #[.int .i64 0, .int .i64 0, .slice none 0 0] 42) = w1 at *
    refine (HE w1).out.mono ?_
    rintro e w2 ⟨rfl, hb2⟩
    have L2 := Lib.hid (L1.out.trans (hb2.mono L1.out.size))
    have B3 := Lib.hid (B2.out.below hb2)
    obtain ⟨c0, c1, c2⟩ := B3.out.cells
    obtain ⟨f0, f1, f2⟩ := B3.out.frozen
    clear hb2
    go_wp2_with fail
    refine bodyPost_ret_by (results_zone_tmp rfl _ _ (w.heap.size + 1) _ _ _ _ rfl (Box.store B3.out nilZ none 0) Try.underlying42 rfl (by kernel_rfl)) rfl ?_
    exact GaveZ.nil (below3 L2.out (by omega) _ _ _)
  · clear h0
    go_enter Try.func53, Try.ntmps53
    go_wp2_with fail
    generalize (w.alloc (.cells #[.int .i64 z.st, .int .i64 z.fc, .slice D z.data.length c] 42)).alloc (.cells #[.int .i64 0, .int .i64 0, .slice none 0 0] 42) = w1 at *
    refine (HE w1).out.mono ?_
    rintro e w2 ⟨rfl, hb2⟩
    have L2 := Lib.hid (L1.out.trans (hb2.mono L1.out.size))
    have B3 := Lib.hid (B2.out.below hb2)
    obtain ⟨c0, c1, c2⟩ := B3.out.cells
    obtain ⟨f0, f1, f2⟩ := B3.out.frozen
    clear hb2
    go_wp2_with fail
    refine bodyPost_ret_by (results_zone_tmp rfl _ _ (w.heap.size + 1) _ _ _ _ rfl (Box.store B3.out nilZ none 0) Try.underlying42 rfl (by kernel_rfl)) rfl ?_
    exact GaveZ.nil (below3 L2.out (by omega) _ _ _)

set_option maxRecDepth 100000 in
set_option maxHeartbeats 3200000 in
theorem torn_none {z : Zn} {D : Option Addr} {c : Nat} {most : Int} {n d : Nat} {B : Option Addr} {w : World} (hn : n ≤ 140737488351232) (he : appErr z most n = 0) (h : Row cb w D z.data.length c z.data) :
    Calls Try.prog 53 #[zv z D c, .int .i64 most, .slice B n d, .int .i64 0] w (GaveZ w z [.int .i64 0]) := by
  have HE := fun w => Lib.hid (appendError_any z D c most B n d hn w)
  rw [he] at HE
  have HI := fun w (h : Row cb w D z.data.length c z.data) => Lib.hid (in_any z.st h)
  have H1 := Lib.hid h
  obtain ⟨L1, B1, N1⟩ := two_new w z D c
  clear he h
  unfold zv inZ GaveZ1 at *
  go_enter Try.func53, Try.ntmps53
  go_wp2_with fail
  generalize (w.alloc (.cells #[.int .i64 z.st, .int .i64 z.fc, .slice D z.data.length c] 42)).alloc (.cells #[.int .i64 0, .int .i64 0, .slice none 0 0] 42) = w1 at *
  refine (HE w1).out.mono ?_
  rintro e w2 ⟨rfl, hb2⟩
  have L2 := Lib.hid (L1.out.trans (hb2.mono L1.out.size))
  have B2 := Lib.hid (B1.out.below hb2)
  have N2 := Lib.hid (N1.out.below hb2)
  obtain ⟨c0, c1, c2⟩ := B2.out.cells
  clear hb2
  go_wp2_with fail
  refine (HI w2 (H1.out.below L2.out)).out.mono ?_
  rintro e w3 ⟨X, q, rfl, hX, hb3⟩
  unfold zv at *
  have N3 := Lib.hid (N2.out.below hb3)
  have L3 := Lib.hid (L2.out.trans (hb3.mono L2.out.size))
  have O3 := Lib.hid hX
  obtain ⟨f0, f1, f2⟩ := N3.out.frozen
  obtain ⟨n0, n1, n2⟩ := N3.out.cells
  clear hX hb3 c0 c1 c2
  go_wp2_with fail
  refine bodyPost_ret_by (results_zone_tmp rfl _ _ (w.heap.size + 1) _ _ _ _ rfl (Box.store N3.out z X q) Try.underlying42 rfl (by kernel_rfl)) rfl ?_
  exact ⟨X, q, rfl, (Owns.other3 (g := w.heap.size + 1) O3.out (by have := N2.out.lt; omega) _ _ _).mono (by have := N2.out.lt; omega), below3 L3.out (by omega) _ _ _⟩

set_option maxRecDepth 100000 in
set_option maxHeartbeats 3200000 in
theorem torn_some {z : Zn} {D : Option Addr} {c : Nat} {most : Int} {b : List B8} {d : Nat} {B : Option Addr} {k : Nat} {w : World} (he : appErr z most b.length = 0) (h1 : Row cb w D z.data.length c z.data) (h2 : Row cb w B b.length d b) (hk0 : 0 < k) (hk : k ≤ b.length) :
    Calls Try.prog 53 #[zv z D c, .int .i64 most, .slice B b.length d, .int .i64 (k : Int)] w (GaveZ w (appZ z most (b.take k)) [.int .i64 0]) := by
  have HE := fun w => Lib.hid (appendError_any z D c most B b.length d h2.big w)
  rw [he] at HE
  obtain ⟨ho, hb0, h4, hle⟩ := appErr_zero he
  have htl : (b.take k).length = k := by rw [List.length_take]; omega
  have he2 : appErr z most (b.take k).length = 0 := appErr_of ho (by omega) h4 (by omega)
  have HA := fun w (h1 : Row cb w D z.data.length c z.data) (h2 : Row cb w B k d (b.take k)) => Lib.hid (append_ok (b := b.take k) (d := d) h1 (by rw [htl]; exact h2) he2)
  rw [htl] at HA
  have H1 := Lib.hid h1
  have H2 := Lib.hid (h2.head hk)
  have hsl := run_head B b.length d k (by have := h2.cap; omega)
  obtain ⟨L1, B1, N1⟩ := two_new w z D c
  have hd1 : decide ((k : Int) < 0) = false := by simp
  have hd2 : decide (b.length < k) = false := by simp; omega
  have hd3 : ((k : Int) == 0) = false := beq_eq_false_iff_ne.2 (by omega)
  clear he h1 h2 hb0 h4 hle he2 ho htl hk0 hk
  generalize appZ z most (b.take k) = y at *
  unfold GaveZ at *
  unfold zv Zn.len at *
  have hcell := fun W (h : Box W w.heap.size z D c) => h.cells
  go_enter Try.func53, Try.ntmps53
  go_wp2_with fail
  generalize (w.alloc (.cells #[.int .i64 z.st, .int .i64 z.fc, .slice D z.data.length c] 42)).alloc (.cells #[.int .i64 0, .int .i64 0, .slice none 0 0] 42) = w1 at *
  refine (HE w1).out.mono ?_
  rintro e w2 ⟨rfl, hb2⟩
  have A3 : Hid (Box w2.drew w.heap.size z D c) := B1.out.below hb2.drew
  have N3 : Hid (Box w2.drew (w.heap.size + 1) nilZ none 0) := N1.out.below hb2.drew
  have L3 : Hid (Below w.heap.size w w2.drew) := (L1.out.trans (hb2.mono L1.out.size)).drew
  clear hb2 B1 N1 L1 HE
  go_wp2_with fail
  refine wp_region_held_drew (S := fun W => W.cell? ⟨w.heap.size, 0, none⟩ = some (.int .i64 z.st) ∧ W.cell? ⟨w.heap.size, 1, none⟩ = some (.int .i64 z.fc) ∧ W.cell? ⟨w.heap.size, 2, none⟩ = some (.slice D z.data.length c))
    (by kernel_rfl) (hcell _ A3.out) (fun hHeld => ?_)
  (first | (refine Reg.take 0 (v := ?_) rfl (by kernel_rfl) (by kernel_rfl) (by kernel_rfl) (fun _ _ _ h => h) (Or.inl ⟨by rfl, ?_⟩) (by assumption) ?_; rotate_left; (focus ((intro W hSW); (try dsimp only at hSW); (try go_split_ands); go_simp; (try (with_reducible rfl)); done))) | (refine Reg.take 0 (v := undef) rfl (by kernel_rfl) (by kernel_rfl) (by kernel_rfl) (fun _ _ _ h => h) (Or.inr ⟨by rfl, rfl⟩) (by assumption) ?_))
  (try simp only [Act.put, List.setIfInBounds_toArray, List.set_cons_zero, List.set_cons_succ])
  (first | (refine Reg.take 1 (v := ?_) rfl (by kernel_rfl) (by kernel_rfl) (by kernel_rfl) (fun _ _ _ h => h) (Or.inl ⟨by rfl, ?_⟩) (by assumption) ?_; rotate_left; (focus ((intro W hSW); (try dsimp only at hSW); (try go_split_ands); go_simp; (try (with_reducible rfl)); done))) | (refine Reg.take 1 (v := undef) rfl (by kernel_rfl) (by kernel_rfl) (by kernel_rfl) (fun _ _ _ h => h) (Or.inr ⟨by rfl, rfl⟩) (by assumption) ?_))
  (try simp only [Act.put, List.setIfInBounds_toArray, List.set_cons_zero, List.set_cons_succ])
  (first | (refine Reg.take 2 (v := ?_) rfl (by kernel_rfl) (by kernel_rfl) (by kernel_rfl) (fun _ _ _ h => h) (Or.inl ⟨by rfl, ?_⟩) (by assumption) ?_; rotate_left; (focus ((intro W hSW); (try dsimp only at hSW); (try go_split_ands); go_simp; (try (with_reducible rfl)); done))) | (refine Reg.take 2 (v := undef) rfl (by kernel_rfl) (by kernel_rfl) (by kernel_rfl) (fun _ _ _ h => h) (Or.inr ⟨by rfl, rfl⟩) (by assumption) ?_))
  (try simp only [Act.put, List.setIfInBounds_toArray, List.set_cons_zero, List.set_cons_succ])
  (first | (refine Reg.take 3 (v := ?_) rfl (by kernel_rfl) (by kernel_rfl) (by kernel_rfl) (fun _ _ _ h => h) (Or.inl ⟨by rfl, ?_⟩) (by assumption) ?_; rotate_left; (focus ((intro W hSW); (try dsimp only at hSW); (try go_split_ands); go_simp; (try (with_reducible rfl)); done))) | (refine Reg.take 3 (v := undef) rfl (by kernel_rfl) (by kernel_rfl) (by kernel_rfl) (fun _ _ _ h => h) (Or.inr ⟨by rfl, rfl⟩) (by assumption) ?_))
  (try simp only [Act.put, List.setIfInBounds_toArray, List.set_cons_zero, List.set_cons_succ])
  (first | (refine Reg.take 4 (v := ?_) rfl (by kernel_rfl) (by kernel_rfl) (by kernel_rfl) (fun _ _ _ h => h) (Or.inl ⟨by rfl, ?_⟩) (by assumption) ?_; rotate_left; (focus ((intro W hSW); (try dsimp only at hSW); (try go_split_ands); go_simp; (try (with_reducible rfl)); done))) | (refine Reg.take 4 (v := undef) rfl (by kernel_rfl) (by kernel_rfl) (by kernel_rfl) (fun _ _ _ h => h) (Or.inr ⟨by rfl, rfl⟩) (by assumption) ?_))
  (try simp only [Act.put, List.setIfInBounds_toArray, List.set_cons_zero, List.set_cons_succ])
  refine Reg.step2 5 10 rfl rfl (by kernel_rfl) (by rfl) (by rfl) (fun K hK => ?_) (fun K hK => ?_)
  · go_simp
    refine (HA w2.drew (H1.out.below L3.out) (H2.out.below L3.out)).out.mono ?_
    rintro e w5 ⟨X, q, rfl, hX, hb5⟩
    have A5 := Lib.hid (A3.out.below hb5)
    have N5 := Lib.hid (N3.out.below hb5)
    have L5 := Lib.hid (L3.out.trans (hb5.mono L3.out.size))
    have O5 := Lib.hid hX
    clear hX hb5
    refine hK.out _ _ (hcell _ A5.out) (fun hHeld4 => ?_)
    clear hK K
    (try simp only [Act.put, List.setIfInBounds_toArray, List.set_cons_zero, List.set_cons_succ])
    (first | (refine Reg.take 6 (v := ?_) rfl (by kernel_rfl) (by kernel_rfl) (by kernel_rfl) (fun _ _ _ h => h) (Or.inl ⟨by rfl, ?_⟩) (by assumption) ?_; rotate_left; (focus ((intro W hSW); (try dsimp only at hSW); (try go_split_ands); go_simp; (try (with_reducible rfl)); done))) | (refine Reg.take 6 (v := undef) rfl (by kernel_rfl) (by kernel_rfl) (by kernel_rfl) (fun _ _ _ h => h) (Or.inr ⟨by rfl, rfl⟩) (by assumption) ?_))
    (try simp only [Act.put, List.setIfInBounds_toArray, List.set_cons_zero, List.set_cons_succ])
    (first | (refine Reg.take 7 (v := ?_) rfl (by kernel_rfl) (by kernel_rfl) (by kernel_rfl) (fun _ _ _ h => h) (Or.inl ⟨by rfl, ?_⟩) (by assumption) ?_; rotate_left; (focus ((intro W hSW); (try dsimp only at hSW); (try go_split_ands); go_simp; (try (with_reducible rfl)); done))) | (refine Reg.take 7 (v := undef) rfl (by kernel_rfl) (by kernel_rfl) (by kernel_rfl) (fun _ _ _ h => h) (Or.inr ⟨by rfl, rfl⟩) (by assumption) ?_))
    (try simp only [Act.put, List.setIfInBounds_toArray, List.set_cons_zero, List.set_cons_succ])
    (first | (refine Reg.take 8 (v := ?_) rfl (by kernel_rfl) (by kernel_rfl) (by kernel_rfl) (fun _ _ _ h => h) (Or.inl ⟨by rfl, ?_⟩) (by assumption) ?_; rotate_left; (focus ((intro W hSW); (try dsimp only at hSW); (try go_split_ands); go_simp; (try (with_reducible rfl)); done))) | (refine Reg.take 8 (v := undef) rfl (by kernel_rfl) (by kernel_rfl) (by kernel_rfl) (fun _ _ _ h => h) (Or.inr ⟨by rfl, rfl⟩) (by assumption) ?_))
    (try simp only [Act.put, List.setIfInBounds_toArray, List.set_cons_zero, List.set_cons_succ])
    (first | (refine Reg.take 9 (v := ?_) rfl (by kernel_rfl) (by kernel_rfl) (by kernel_rfl) (fun _ _ _ h => h) (Or.inl ⟨by rfl, ?_⟩) (by assumption) ?_; rotate_left; (focus ((intro W hSW); (try dsimp only at hSW); (try go_split_ands); go_simp; (try (with_reducible rfl)); done))) | (refine Reg.take 9 (v := undef) rfl (by kernel_rfl) (by kernel_rfl) (by kernel_rfl) (fun _ _ _ h => h) (Or.inr ⟨by rfl, rfl⟩) (by assumption) ?_))
    (try simp only [Act.put, List.setIfInBounds_toArray, List.set_cons_zero, List.set_cons_succ])
    refine Reg.step 10 rfl (by kernel_rfl) (by rfl) (fun K hK => ?_)
    go_simp
    have A6 := Lib.hid (A5.out.alloc (.cells #[.int .i64 0, .int .i64 0, .slice none 0 0] 42))
    refine hK.out _ _ (hcell _ A6.out) (fun hHeld5 => ?_)
    clear hK K
    (try simp only [Act.put, List.setIfInBounds_toArray, List.set_cons_zero, List.set_cons_succ])
    refine Reg.step 11 rfl (by kernel_rfl) (by rfl) (fun K hK => ?_)
    go_simp
    have b58 : Below w5.heap.size w5 (w5.alloc (.cells #[.int .i64 y.st, .int .i64 y.fc, .slice X y.data.length q] 42)) := (Below.refl _ w5).alloc (Nat.le_refl _) _
    have A8 := Lib.hid (A5.out.below b58)
    have N8 := Lib.hid (N5.out.below b58)
    have L8 := Lib.hid (L5.out.trans (b58.mono L5.out.size))
    have O8 := Lib.hid (O5.out.below b58)
    have Y8 := Lib.hid (Box.new w5 y X q)
    have HLT : Hid (w.heap.size + 1 < w2.drew.heap.size) := N3.out.lt
    have HLE : Hid (w.heap.size ≤ w2.drew.heap.size) := L3.out.size
    refine hK.out _ _ (hcell _ A8.out) (fun hHeld6 => ?_)
    clear hK K b58 A5 N5 L5 O5 A6 A3 N3 L3
    (try simp only [Act.put, List.setIfInBounds_toArray, List.set_cons_zero, List.set_cons_succ])
    generalize w5.heap.size = g at *
    generalize w5.alloc (.cells #[.int .i64 y.st, .int .i64 y.fc, .slice X y.data.length q] 42) = w8 at *
    (first | (refine Reg.take 12 (v := ?_) rfl (by kernel_rfl) (by kernel_rfl) (by kernel_rfl) (fun _ _ _ h => h) (Or.inl ⟨by rfl, ?_⟩) (by assumption) ?_; rotate_left; (focus ((intro W hSW); (try dsimp only at hSW); (try go_split_ands); go_simp; (try (with_reducible rfl)); done))) | (refine Reg.take 12 (v := undef) rfl (by kernel_rfl) (by kernel_rfl) (by kernel_rfl) (fun _ _ _ h => h) (Or.inr ⟨by rfl, rfl⟩) (by assumption) ?_))
    (try simp only [Act.put, List.setIfInBounds_toArray, List.set_cons_zero, List.set_cons_succ])
    (first | (refine Reg.take 13 (v := ?_) rfl (by kernel_rfl) (by kernel_rfl) (by kernel_rfl) (fun _ _ _ h => h) (Or.inl ⟨by rfl, ?_⟩) (by assumption) ?_; rotate_left; (focus ((intro W hSW); (try dsimp only at hSW); (try go_split_ands); go_simp; (try (with_reducible rfl)); done))) | (refine Reg.take 13 (v := undef) rfl (by kernel_rfl) (by kernel_rfl) (by kernel_rfl) (fun _ _ _ h => h) (Or.inr ⟨by rfl, rfl⟩) (by assumption) ?_))
    (try simp only [Act.put, List.setIfInBounds_toArray, List.set_cons_zero, List.set_cons_succ])
    refine wpAnyH_done (by kernel_rfl) ?_ _
    obtain ⟨x0, x1, x2⟩ := Y8.out.cells
    obtain ⟨f0, f1, f2⟩ := N8.out.frozen
    obtain ⟨n0, n1, n2⟩ := N8.out.cells
    go_wp2_with fail
    refine bodyPost_ret_by (results_zone_tmp rfl _ _ (w.heap.size + 1) _ _ _ _ rfl (Box.store N8.out y X q) Try.underlying42 rfl (by kernel_rfl)) rfl ?_
    exact ⟨X, q, rfl, (Owns.other3 (g := w.heap.size + 1) O8.out HLT.out _ _ _).mono HLE.out, below3 L8.out (by omega) _ _ _⟩
  · go_simp
    have b34 : Below w2.drew.heap.size w2.drew (w2.alloc (.cells #[.int .i64 0, .int .i64 0, .slice none 0 0] 42)).drew := ((Below.refl _ w2.drew).alloc (Nat.le_refl _) (.cells #[.int .i64 0, .int .i64 0, .slice none 0 0] 42))
    have A4 := Lib.hid (A3.out.below b34)
    have N4 := Lib.hid (N3.out.below b34)
    have L4 := Lib.hid (L3.out.trans (b34.mono L3.out.size))
    have Y4 : Hid (Box (w2.alloc (.cells #[.int .i64 0, .int .i64 0, .slice none 0 0] 42)).drew w2.heap.size nilZ none 0) := Box.new w2 nilZ none 0
    have HLT0 : Hid (w.heap.size + 1 < w2.heap.size) := N3.out.lt
    have HLE0 : Hid (w.heap.size ≤ w2.heap.size) := L3.out.size
    refine hK.out _ _ (hcell _ A4.out) (fun hHeld3 => ?_)
    clear hK K b34 A3 N3 L3
    (try simp only [Act.put, List.setIfInBounds_toArray, List.set_cons_zero, List.set_cons_succ])
    generalize w2.heap.size = g at *
    generalize (w2.alloc (.cells #[.int .i64 0, .int .i64 0, .slice none 0 0] 42)).drew = w4 at *
    refine Reg.step 5 rfl (by kernel_rfl) (by rfl) (fun K hK => ?_)
    go_simp
    refine (HA w4 (H1.out.below L4.out) (H2.out.below L4.out)).out.mono ?_
    rintro e w5 ⟨X, q, rfl, hX, hb5⟩
    have A5 := Lib.hid (A4.out.below hb5)
    have N5 := Lib.hid (N4.out.below hb5)
    have Y5 := Lib.hid (Y4.out.below hb5)
    have L5 := Lib.hid (L4.out.trans (hb5.mono L4.out.size))
    have O5 := Lib.hid hX
    have HG : Hid (g < w4.heap.size) := Y4.out.lt
    have HLT : Hid (w.heap.size + 1 < w4.heap.size) := N4.out.lt
    have HLE : Hid (w.heap.size ≤ w4.heap.size) := L4.out.size
    clear hX hb5
    refine hK.out _ _ (hcell _ A5.out) (fun hHeld4 => ?_)
    clear hK K A4 N4 Y4 L4
    (try simp only [Act.put, List.setIfInBounds_toArray, List.set_cons_zero, List.set_cons_succ])
    (first | (refine Reg.take 6 (v := ?_) rfl (by kernel_rfl) (by kernel_rfl) (by kernel_rfl) (fun _ _ _ h => h) (Or.inl ⟨by rfl, ?_⟩) (by assumption) ?_; rotate_left; (focus ((intro W hSW); (try dsimp only at hSW); (try go_split_ands); go_simp; (try (with_reducible rfl)); done))) | (refine Reg.take 6 (v := undef) rfl (by kernel_rfl) (by kernel_rfl) (by kernel_rfl) (fun _ _ _ h => h) (Or.inr ⟨by rfl, rfl⟩) (by assumption) ?_))
    (try simp only [Act.put, List.setIfInBounds_toArray, List.set_cons_zero, List.set_cons_succ])
    (first | (refine Reg.take 7 (v := ?_) rfl (by kernel_rfl) (by kernel_rfl) (by kernel_rfl) (fun _ _ _ h => h) (Or.inl ⟨by rfl, ?_⟩) (by assumption) ?_; rotate_left; (focus ((intro W hSW); (try dsimp only at hSW); (try go_split_ands); go_simp; (try (with_reducible rfl)); done))) | (refine Reg.take 7 (v := undef) rfl (by kernel_rfl) (by kernel_rfl) (by kernel_rfl) (fun _ _ _ h => h) (Or.inr ⟨by rfl, rfl⟩) (by assumption) ?_))
    (try simp only [Act.put, List.setIfInBounds_toArray, List.set_cons_zero, List.set_cons_succ])
    (first | (refine Reg.take 8 (v := ?_) rfl (by kernel_rfl) (by kernel_rfl) (by kernel_rfl) (fun _ _ _ h => h) (Or.inl ⟨by rfl, ?_⟩) (by assumption) ?_; rotate_left; (focus ((intro W hSW); (try dsimp only at hSW); (try go_split_ands); go_simp; (try (with_reducible rfl)); done))) | (refine Reg.take 8 (v := undef) rfl (by kernel_rfl) (by kernel_rfl) (by kernel_rfl) (fun _ _ _ h => h) (Or.inr ⟨by rfl, rfl⟩) (by assumption) ?_))
    (try simp only [Act.put, List.setIfInBounds_toArray, List.set_cons_zero, List.set_cons_succ])
    (first | (refine Reg.take 9 (v := ?_) rfl (by kernel_rfl) (by kernel_rfl) (by kernel_rfl) (fun _ _ _ h => h) (Or.inl ⟨by rfl, ?_⟩) (by assumption) ?_; rotate_left; (focus ((intro W hSW); (try dsimp only at hSW); (try go_split_ands); go_simp; (try (with_reducible rfl)); done))) | (refine Reg.take 9 (v := undef) rfl (by kernel_rfl) (by kernel_rfl) (by kernel_rfl) (fun _ _ _ h => h) (Or.inr ⟨by rfl, rfl⟩) (by assumption) ?_))
    (try simp only [Act.put, List.setIfInBounds_toArray, List.set_cons_zero, List.set_cons_succ])
    refine Reg.step 11 rfl (by kernel_rfl) (by rfl) (fun K hK => ?_)
    obtain ⟨f0, f1, f2⟩ := Y5.out.frozen
    obtain ⟨n0, n1, n2⟩ := Y5.out.cells
    go_simp
    have A8 := Lib.hid (A5.out.other3 (g' := g) (by have := HLT0.out; omega) (.int .i64 y.st) (.int .i64 y.fc) (.slice X y.data.length q))
    have N8 := Lib.hid (N5.out.other3 (g' := g) (by have := HLT0.out; omega) (.int .i64 y.st) (.int .i64 y.fc) (.slice X y.data.length q))
    have Y8 := Lib.hid (Box.store Y5.out y X q)
    have L8 := Lib.hid (below3 (g := g) L5.out HLE0.out (.int .i64 y.st) (.int .i64 y.fc) (.slice X y.data.length q))
    have O8 := Lib.hid (Owns.other3 (g := g) O5.out HG.out (.int .i64 y.st) (.int .i64 y.fc) (.slice X y.data.length q))
    refine hK.out _ _ (hcell _ A8.out) (fun hHeld6 => ?_)
    clear hK K f0 f1 f2 n0 n1 n2 A5 N5 Y5 L5 O5
    (try simp only [Act.put, List.setIfInBounds_toArray, List.set_cons_zero, List.set_cons_succ])
    generalize ((w5.setCell ⟨g, 0, none⟩ (.int .i64 y.st)).setCell ⟨g, 1, none⟩ (.int .i64 y.fc)).setCell ⟨g, 2, none⟩ (.slice X y.data.length q) = w8 at *
    (first | (refine Reg.take 12 (v := ?_) rfl (by kernel_rfl) (by kernel_rfl) (by kernel_rfl) (fun _ _ _ h => h) (Or.inl ⟨by rfl, ?_⟩) (by assumption) ?_; rotate_left; (focus ((intro W hSW); (try dsimp only at hSW); (try go_split_ands); go_simp; (try (with_reducible rfl)); done))) | (refine Reg.take 12 (v := undef) rfl (by kernel_rfl) (by kernel_rfl) (by kernel_rfl) (fun _ _ _ h => h) (Or.inr ⟨by rfl, rfl⟩) (by assumption) ?_))
    (try simp only [Act.put, List.setIfInBounds_toArray, List.set_cons_zero, List.set_cons_succ])
    (first | (refine Reg.take 13 (v := ?_) rfl (by kernel_rfl) (by kernel_rfl) (by kernel_rfl) (fun _ _ _ h => h) (Or.inl ⟨by rfl, ?_⟩) (by assumption) ?_; rotate_left; (focus ((intro W hSW); (try dsimp only at hSW); (try go_split_ands); go_simp; (try (with_reducible rfl)); done))) | (refine Reg.take 13 (v := undef) rfl (by kernel_rfl) (by kernel_rfl) (by kernel_rfl) (fun _ _ _ h => h) (Or.inr ⟨by rfl, rfl⟩) (by assumption) ?_))
    (try simp only [Act.put, List.setIfInBounds_toArray, List.set_cons_zero, List.set_cons_succ])
    refine wpAnyH_done (by kernel_rfl) ?_ _
    obtain ⟨x0, x1, x2⟩ := Y8.out.cells
    obtain ⟨f0, f1, f2⟩ := N8.out.frozen
    obtain ⟨n0, n1, n2⟩ := N8.out.cells
    go_wp2_with fail
    refine bodyPost_ret_by (results_zone_tmp rfl _ _ (w.heap.size + 1) _ _ _ _ rfl (Box.store N8.out y X q) Try.underlying42 rfl (by kernel_rfl)) rfl ?_
    exact ⟨X, q, rfl, (Owns.other3 (g := w.heap.size + 1) O8.out HLT.out _ _ _).mono HLE.out, below3 L8.out (by omega) _ _ _⟩
end Zon
end Go.Proofs.Ytbmblgjilmgkeaa
