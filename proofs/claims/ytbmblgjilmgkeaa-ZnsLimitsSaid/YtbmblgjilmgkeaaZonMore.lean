/-
  WALKS OVER zone'S OTHER CALLS: in, Open, Close, Finish, Reset, Read, Torn.
-/
import Derived.Test.YtbmblgjilmgkeaaZonApp
namespace Go.Proofs.Ytbmblgjilmgkeaa
open Go.RowKit Mem
namespace Zon

/-- A zone, whose bytes are the call's own, as a call gave it. -/
def GaveZ1 (w : World) (z : Zn) (en : Ending) (w' : World) : Prop :=
  ∃ D c, en = .returned (zv z D c) ∧ Owns cb 5 w.heap.size w' (.slice D z.data.length c) z.data.length z.data ∧ Below w.heap.size w w'

set_option maxRecDepth 100000 in
set_option maxHeartbeats 800000 in
theorem in_any {z : Zn} {D : Option Addr} {c : Nat} {w : World} (st : Int) (h : Row cb w D z.data.length c z.data) :
    Calls Try.prog 67 #[zv z D c, .int .i64 st] w (GaveZ1 w (inZ z st)) := by
  have HC := fun w (h : Row cb w D z.data.length c z.data) => Lib.hid (clone_any h)
  have H1 := Lib.hid h
  have L1 := Lib.hid (((Below.refl w.heap.size w).alloc (Nat.le_refl _) (.cells #[.int .i64 z.st, .int .i64 z.fc, .slice D z.data.length c] 42)).alloc (by simp) (.cells #[.int .i64 0, .int .i64 0, .slice none 0 0] 42))
  have B1 : Hid (Box ((w.alloc (.cells #[.int .i64 z.st, .int .i64 z.fc, .slice D z.data.length c] 42)).alloc (.cells #[.int .i64 0, .int .i64 0, .slice none 0 0] 42)) w.heap.size z D c) := heap_alloc2_old w _ _
  have N1 : Hid (Box ((w.alloc (.cells #[.int .i64 z.st, .int .i64 z.fc, .slice D z.data.length c] 42)).alloc (.cells #[.int .i64 0, .int .i64 0, .slice none 0 0] 42)) (w.heap.size + 1) nilZ none 0) := heap_alloc2_new w _ _
  have hcell := fun W (h : Box W w.heap.size z D c) => h.cells
  unfold zv inZ at *
  clear h
  go_enter Try.func67, Try.ntmps67
  go_wp2_with fail
  generalize (w.alloc (.cells #[.int .i64 z.st, .int .i64 z.fc, .slice D z.data.length c] 42)).alloc (.cells #[.int .i64 0, .int .i64 0, .slice none 0 0] 42) = w1 at *
  have A3 : Hid (Box w1.drew w.heap.size z D c) := B1
  have N3 : Hid (Box w1.drew (w.heap.size + 1) nilZ none 0) := N1
  have L3 : Hid (Below w.heap.size w w1.drew) := L1.out.trans ((Below.refl _ w1).drew.mono L1.out.size)
  clear B1 N1 L1
  refine wp_region_held_drew (S := fun W => W.cell? ⟨w.heap.size, 0, none⟩ = some (.int .i64 z.st) ∧ W.cell? ⟨w.heap.size, 1, none⟩ = some (.int .i64 z.fc) ∧ W.cell? ⟨w.heap.size, 2, none⟩ = some (.slice D z.data.length c))
    (by kernel_rfl) (hcell _ A3.out) (fun hHeld => ?_)
  (first | (refine Reg.take 0 (v := ?_) rfl (by kernel_rfl) (by kernel_rfl) (by kernel_rfl) (fun _ _ _ h => h) (Or.inl ⟨by rfl, ?_⟩) (by assumption) ?_; rotate_left; (focus ((intro W hSW); (try dsimp only at hSW); (try go_split_ands); go_simp; (try (with_reducible rfl)); done))) | (refine Reg.take 0 (v := undef) rfl (by kernel_rfl) (by kernel_rfl) (by kernel_rfl) (fun _ _ _ h => h) (Or.inr ⟨by rfl, rfl⟩) (by assumption) ?_))
  (try simp only [Act.put, List.setIfInBounds_toArray, List.set_cons_zero, List.set_cons_succ])
  (first | (refine Reg.take 1 (v := ?_) rfl (by kernel_rfl) (by kernel_rfl) (by kernel_rfl) (fun _ _ _ h => h) (Or.inl ⟨by rfl, ?_⟩) (by assumption) ?_; rotate_left; (focus ((intro W hSW); (try dsimp only at hSW); (try go_split_ands); go_simp; (try (with_reducible rfl)); done))) | (refine Reg.take 1 (v := undef) rfl (by kernel_rfl) (by kernel_rfl) (by kernel_rfl) (fun _ _ _ h => h) (Or.inr ⟨by rfl, rfl⟩) (by assumption) ?_))
  (try simp only [Act.put, List.setIfInBounds_toArray, List.set_cons_zero, List.set_cons_succ])
  (first | (refine Reg.take 2 (v := ?_) rfl (by kernel_rfl) (by kernel_rfl) (by kernel_rfl) (fun _ _ _ h => h) (Or.inl ⟨by rfl, ?_⟩) (by assumption) ?_; rotate_left; (focus ((intro W hSW); (try dsimp only at hSW); (try go_split_ands); go_simp; (try (with_reducible rfl)); done))) | (refine Reg.take 2 (v := undef) rfl (by kernel_rfl) (by kernel_rfl) (by kernel_rfl) (fun _ _ _ h => h) (Or.inr ⟨by rfl, rfl⟩) (by assumption) ?_))
  (try simp only [Act.put, List.setIfInBounds_toArray, List.set_cons_zero, List.set_cons_succ])
  (first | (refine Reg.take 3 (v := ?_) rfl (by kernel_rfl) (by kernel_rfl) (by kernel_rfl) (fun _ _ _ h => h) (Or.inl ⟨by rfl, ?_⟩) (by assumption) ?_; rotate_left; (focus ((intro W hSW); (try dsimp only at hSW); (try go_split_ands); go_simp; (try (with_reducible rfl)); done))) | (refine Reg.take 3 (v := undef) rfl (by kernel_rfl) (by kernel_rfl) (by kernel_rfl) (fun _ _ _ h => h) (Or.inr ⟨by rfl, rfl⟩) (by assumption) ?_))
  (try simp only [Act.put, List.setIfInBounds_toArray, List.set_cons_zero, List.set_cons_succ])
  (first | (refine Reg.take 4 (v := ?_) rfl (by kernel_rfl) (by kernel_rfl) (by kernel_rfl) (fun _ _ _ h => h) (Or.inl ⟨by rfl, ?_⟩) (by assumption) ?_; rotate_left; (focus ((intro W hSW); (try dsimp only at hSW); (try go_split_ands); go_simp; (try (with_reducible rfl)); done))) | (refine Reg.take 4 (v := undef) rfl (by kernel_rfl) (by kernel_rfl) (by kernel_rfl) (fun _ _ _ h => h) (Or.inr ⟨by rfl, rfl⟩) (by assumption) ?_))
  (try simp only [Act.put, List.setIfInBounds_toArray, List.set_cons_zero, List.set_cons_succ])
  refine Reg.step 5 rfl (by kernel_rfl) (by rfl) (fun K hK => ?_)
  go_simp
  refine (HC w1.drew (H1.out.below L3.out)).out.mono ?_
  rintro e w5 ⟨X, k, q, rfl, hX, hb5⟩
  obtain rfl : k = z.data.length := hX.len.symm
  have A5 := Lib.hid (A3.out.below hb5)
  have N5 := Lib.hid (N3.out.below hb5)
  have L5 := Lib.hid (L3.out.trans (hb5.mono L3.out.size))
  have O5 := Lib.hid hX
  clear hX hb5
  refine hK.out _ _ (hcell _ A5.out) (fun hHeld4 => ?_)
  clear hK K
  (try simp only [Act.put, List.setIfInBounds_toArray, List.set_cons_zero, List.set_cons_succ])
  (first | (refine Reg.take 6 (v := ?_) rfl (by kernel_rfl) (by kernel_rfl) (by kernel_rfl) (fun _ _ _ h => h) (Or.inl ⟨by rfl, ?_⟩) (by assumption) ?_; rotate_left; (focus ((intro W hSW); (try dsimp only at hSW); (try go_split_ands); go_simp; (try (with_reducible rfl)); done))) | (refine Reg.take 6 (v := undef) rfl (by kernel_rfl) (by kernel_rfl) (by kernel_rfl) (fun _ _ _ h => h) (Or.inr ⟨by rfl, rfl⟩) (by assumption) ?_))
  (try simp only [Act.put, List.setIfInBounds_toArray, List.set_cons_zero, List.set_cons_succ])
  refine Reg.step 7 rfl (by kernel_rfl) (by rfl) (fun K hK => ?_)
  obtain ⟨f0, f1, f2⟩ := N5.out.frozen
  obtain ⟨n0, n1, n2⟩ := N5.out.cells
  go_simp
  refine hK.out _ _ (hcell _ (A5.out.other3 (by omega) _ _ _)) (fun hHeld5 => ?_)
  clear hK K
  refine wpAnyH_done (by kernel_rfl) ?_ _
  go_wp2_with fail
  refine bodyPost_ret_by (results_cell_row rfl _ _ (w.heap.size + 1) _ _ _ _ rfl (Box.store N5.out ⟨st, z.fc, z.data⟩ X q) Try.underlying42 rfl (by kernel_rfl)) rfl ?_
  exact ⟨X, q, rfl, (Owns.other3 (g := w.heap.size + 1) O5.out (by have := N3.out.lt; omega) _ _ _).mono (by have := N3.out.lt; omega), below3 L5.out (by omega) _ _ _⟩

set_option maxRecDepth 100000 in
set_option maxHeartbeats 800000 in
theorem finish_any {z : Zn} {D : Option Addr} {c : Nat} {w : World} (h : Row cb w D z.data.length c z.data) :
    Calls Try.prog 57 #[zv z D c] w (GaveZ w (inZ z 4) [.int .i64 0]) := by
  have HC := fun w (h : Row cb w D z.data.length c z.data) => Lib.hid (in_any 4 h)
  have H1 := Lib.hid h
  have L1 := Lib.hid (((Below.refl w.heap.size w).alloc (Nat.le_refl _) (.cells #[.int .i64 z.st, .int .i64 z.fc, .slice D z.data.length c] 42)).alloc (by simp) (.cells #[.int .i64 0, .int .i64 0, .slice none 0 0] 42))
  have N1 : Hid (Box ((w.alloc (.cells #[.int .i64 z.st, .int .i64 z.fc, .slice D z.data.length c] 42)).alloc (.cells #[.int .i64 0, .int .i64 0, .slice none 0 0] 42)) (w.heap.size + 1) nilZ none 0) := heap_alloc2_new w _ _
  unfold zv inZ GaveZ1 at *
  clear h
  go_enter Try.func57, Try.ntmps57
  go_wp2_with fail
  generalize (w.alloc (.cells #[.int .i64 z.st, .int .i64 z.fc, .slice D z.data.length c] 42)).alloc (.cells #[.int .i64 0, .int .i64 0, .slice none 0 0] 42) = w1 at *
  refine (HC w1 (H1.out.below L1.out)).out.mono ?_
  rintro e w2 ⟨X, q, rfl, hX, hb2⟩
  unfold zv at *
  have N2 := Lib.hid (N1.out.below hb2)
  have L2 := Lib.hid (L1.out.trans (hb2.mono L1.out.size))
  have O2 := Lib.hid hX
  obtain ⟨f0, f1, f2⟩ := N2.out.frozen
  obtain ⟨n0, n1, n2⟩ := N2.out.cells
  clear hX hb2
  go_wp2_with fail
  refine bodyPost_ret_by (results_zone_tmp rfl _ _ (w.heap.size + 1) _ _ _ _ rfl (Box.store N2.out ⟨4, z.fc, z.data⟩ X q) Try.underlying42 rfl (by kernel_rfl)) rfl ?_
  exact ⟨X, q, rfl, (Owns.other3 (g := w.heap.size + 1) O2.out (by have := N1.out.lt; omega) _ _ _).mono (by have := N1.out.lt; omega), below3 L2.out (by omega) _ _ _⟩

set_option maxRecDepth 100000 in
theorem reset_any (z : Zn) (D : Option Addr) (c : Nat) (w : World) :
    Calls Try.prog 55 #[zv z D c] w (GaveZ w ⟨0, z.fc, []⟩ [.int .i64 0]) := by
  have L1 := Lib.hid (((Below.refl w.heap.size w).alloc (Nat.le_refl _) (.cells #[.int .i64 z.st, .int .i64 z.fc, .slice D z.data.length c] 42)).alloc (by simp) (.cells #[.int .i64 0, .int .i64 0, .slice none 0 0] 42))
  have B1 : Hid (Box ((w.alloc (.cells #[.int .i64 z.st, .int .i64 z.fc, .slice D z.data.length c] 42)).alloc (.cells #[.int .i64 0, .int .i64 0, .slice none 0 0] 42)) w.heap.size z D c) := heap_alloc2_old w _ _
  have N1 : Hid (Box ((w.alloc (.cells #[.int .i64 z.st, .int .i64 z.fc, .slice D z.data.length c] 42)).alloc (.cells #[.int .i64 0, .int .i64 0, .slice none 0 0] 42)) (w.heap.size + 1) nilZ none 0) := heap_alloc2_new w _ _
  unfold zv at *
  go_enter Try.func55, Try.ntmps55
  go_upto_region 1 with fail
  generalize (w.alloc (.cells #[.int .i64 z.st, .int .i64 z.fc, .slice D z.data.length c] 42)).alloc (.cells #[.int .i64 0, .int .i64 0, .slice none 0 0] 42) = w1 at *
  obtain ⟨f0, f1, f2⟩ := N1.out.frozen
  obtain ⟨n0, n1, n2⟩ := N1.out.cells
  obtain ⟨c0, c1, c2⟩ := B1.out.cells
  go_wp2_with fail
  refine bodyPost_ret_by (results_zone_tmp rfl _ _ (w.heap.size + 1) _ _ _ _ rfl (Box.store N1.out ⟨0, z.fc, []⟩ none 0) Try.underlying42 rfl (by kernel_rfl)) rfl ?_
  exact GaveZ.nil (below3 L1.out (by omega) _ _ _)

/-- A zone that came in, and one that goes out, in blocks of their own. -/
theorem two_new (w : World) (z : Zn) (D : Option Addr) (c : Nat) :
    Hid (Below w.heap.size w ((w.alloc (.cells #[.int .i64 z.st, .int .i64 z.fc, .slice D z.data.length c] 42)).alloc (.cells #[.int .i64 0, .int .i64 0, .slice none 0 0] 42))) ∧ Hid (Box ((w.alloc (.cells #[.int .i64 z.st, .int .i64 z.fc, .slice D z.data.length c] 42)).alloc (.cells #[.int .i64 0, .int .i64 0, .slice none 0 0] 42)) w.heap.size z D c) ∧ Hid (Box ((w.alloc (.cells #[.int .i64 z.st, .int .i64 z.fc, .slice D z.data.length c] 42)).alloc (.cells #[.int .i64 0, .int .i64 0, .slice none 0 0] 42)) (w.heap.size + 1) nilZ none 0) :=
  ⟨((Below.refl w.heap.size w).alloc (Nat.le_refl _) _).alloc (by simp) _, heap_alloc2_old w _ _, heap_alloc2_new w _ _⟩

def openErr (z : Zn) (most : Int) : Int := bif !okB z most then 1 else bif z.st == 4 then 41 else 0
def openZ (z : Zn) (most : Int) : Zn := bif openErr z most == 0 then inZ z 2 else nilZ

set_option maxRecDepth 100000 in
set_option maxHeartbeats 1600000 in
theorem open_any {z : Zn} {D : Option Addr} {c : Nat} {w : World} (most : Int) (h : Row cb w D z.data.length c z.data) :
    Calls Try.prog 58 #[zv z D c, .int .i64 most] w (GaveZ w (openZ z most) [.int .i64 (openErr z most)]) := by
  have HC := fun w (h : Row cb w D z.data.length c z.data) => Lib.hid (in_any 2 h)
  have HK := fun w => Lib.hid (check_any z D c most w)
  have H1 := Lib.hid h
  obtain ⟨L1, B1, N1⟩ := two_new w z D c
  unfold openZ openErr
  unfold zv inZ GaveZ1 errOf at *
  clear h
  rcases ho : okB z most
  · rw [ho] at HK
    go_enter Try.func58, Try.ntmps58
    go_wp2_with fail
    generalize (w.alloc (.cells #[.int .i64 z.st, .int .i64 z.fc, .slice D z.data.length c] 42)).alloc (.cells #[.int .i64 0, .int .i64 0, .slice none 0 0] 42) = w1 at *
    refine (HK w1).out.mono ?_
    rintro e w2 ⟨rfl, hb2⟩
    have N2 := Lib.hid (N1.out.below hb2)
    have L2 := Lib.hid (L1.out.trans (hb2.mono L1.out.size))
    obtain ⟨f0, f1, f2⟩ := N2.out.frozen
    obtain ⟨n0, n1, n2⟩ := N2.out.cells
    clear hb2
    simp only [cond_false]
    go_wp2_with fail
    refine bodyPost_ret_by (results_zone_tmp rfl _ _ (w.heap.size + 1) _ _ _ _ rfl (Box.store N2.out nilZ none 0) Try.underlying42 rfl (by kernel_rfl)) rfl ?_
    exact GaveZ.nil (below3 L2.out (by omega) _ _ _)
  · rw [ho] at HK
    rcases e4 : (z.st == 4)
    · go_enter Try.func58, Try.ntmps58
      go_wp2_with fail
      generalize (w.alloc (.cells #[.int .i64 z.st, .int .i64 z.fc, .slice D z.data.length c] 42)).alloc (.cells #[.int .i64 0, .int .i64 0, .slice none 0 0] 42) = w1 at *
      refine (HK w1).out.mono ?_
      rintro e w2 ⟨rfl, hb2⟩
      have B2 := Lib.hid (B1.out.below hb2)
      have N2 := Lib.hid (N1.out.below hb2)
      have L2 := Lib.hid (L1.out.trans (hb2.mono L1.out.size))
      obtain ⟨c0, c1, c2⟩ := B2.out.cells
      clear hb2
      simp only [cond_true]
      go_wp2_with fail
      refine (HC w2 (H1.out.below L2.out)).out.mono ?_
      rintro e w3 ⟨X, q, rfl, hX, hb3⟩
      unfold zv at *
      have N3 := Lib.hid (N2.out.below hb3)
      have L3 := Lib.hid (L2.out.trans (hb3.mono L2.out.size))
      have O3 := Lib.hid hX
      obtain ⟨f0, f1, f2⟩ := N3.out.frozen
      obtain ⟨n0, n1, n2⟩ := N3.out.cells
      clear hX hb3 c0 c1 c2
      go_wp2_with fail
      refine bodyPost_ret_by (results_zone_tmp rfl _ _ (w.heap.size + 1) _ _ _ _ rfl (Box.store N3.out ⟨2, z.fc, z.data⟩ X q) Try.underlying42 rfl (by kernel_rfl)) rfl ?_
      exact ⟨X, q, rfl, (Owns.other3 (g := w.heap.size + 1) O3.out (by have := N2.out.lt; omega) _ _ _).mono (by have := N2.out.lt; omega), below3 L3.out (by omega) _ _ _⟩
    · go_enter Try.func58, Try.ntmps58
      go_wp2_with fail
      generalize (w.alloc (.cells #[.int .i64 z.st, .int .i64 z.fc, .slice D z.data.length c] 42)).alloc (.cells #[.int .i64 0, .int .i64 0, .slice none 0 0] 42) = w1 at *
      refine (HK w1).out.mono ?_
      rintro e w2 ⟨rfl, hb2⟩
      have B2 := Lib.hid (B1.out.below hb2)
      have N2 := Lib.hid (N1.out.below hb2)
      have L2 := Lib.hid (L1.out.trans (hb2.mono L1.out.size))
      obtain ⟨c0, c1, c2⟩ := B2.out.cells
      obtain ⟨f0, f1, f2⟩ := N2.out.frozen
      obtain ⟨n0, n1, n2⟩ := N2.out.cells
      clear hb2
      simp only [cond_true]
      go_wp2_with fail
      refine bodyPost_ret_by (results_zone_tmp rfl _ _ (w.heap.size + 1) _ _ _ _ rfl (Box.store N2.out nilZ none 0) Try.underlying42 rfl (by kernel_rfl)) rfl ?_
      exact GaveZ.nil (below3 L2.out (by omega) _ _ _)

def closeErr (z : Zn) : Int := bif (z.st == 0 || z.st == 4) then 41 else 0
def closeZ (z : Zn) : Zn := bif (z.st == 0 || z.st == 4) then nilZ else bif z.data.length == 0 then inZ z 0 else inZ z 3

set_option maxRecDepth 100000 in
set_option maxHeartbeats 1600000 in
theorem close_any {z : Zn} {D : Option Addr} {c : Nat} {w : World} (h : Row cb w D z.data.length c z.data) :
    Calls Try.prog 59 #[zv z D c] w (GaveZ w (closeZ z) [.int .i64 (closeErr z)]) := by
  have HC := fun (st : Int) w (h : Row cb w D z.data.length c z.data) => Lib.hid (in_any st h)
  have H1 := Lib.hid h
  obtain ⟨L1, B1, N1⟩ := two_new w z D c
  unfold closeZ closeErr
  unfold zv inZ GaveZ1 at *
  clear h
  have hlen : ((z.data.length : Int) == 0) = (z.data.length == 0) := by
    rw [Bool.eq_iff_iff]; simp
  rcases e0 : (z.st == 0)
  · rcases e4 : (z.st == 4)
    · rcases el : (z.data.length == 0)
      · rw [el] at hlen
        go_enter Try.func59, Try.ntmps59
        go_upto_region 1 with fail
        generalize (w.alloc (.cells #[.int .i64 z.st, .int .i64 z.fc, .slice D z.data.length c] 42)).alloc (.cells #[.int .i64 0, .int .i64 0, .slice none 0 0] 42) = w1 at *
        obtain ⟨c0, c1, c2⟩ := B1.out.cells
        go_wp2_with fail
        refine (HC 3 w1 (H1.out.below L1.out)).out.mono ?_
        rintro e w3 ⟨X, q, rfl, hX, hb3⟩
        unfold zv at *
        have N3 := Lib.hid (N1.out.below hb3)
        have L3 := Lib.hid (L1.out.trans (hb3.mono L1.out.size))
        have O3 := Lib.hid hX
        obtain ⟨f0, f1, f2⟩ := N3.out.frozen
        obtain ⟨n0, n1, n2⟩ := N3.out.cells
        clear hX hb3 c0 c1 c2
        go_wp2_with fail
        refine bodyPost_ret_by (results_zone_tmp rfl _ _ (w.heap.size + 1) _ _ _ _ rfl (Box.store N3.out ⟨3, z.fc, z.data⟩ X q) Try.underlying42 rfl (by kernel_rfl)) rfl ?_
        exact ⟨X, q, rfl, (Owns.other3 (g := w.heap.size + 1) O3.out (by have := N1.out.lt; omega) _ _ _).mono (by have := N1.out.lt; omega), below3 L3.out (by omega) _ _ _⟩
      · rw [el] at hlen
        go_enter Try.func59, Try.ntmps59
        go_upto_region 1 with fail
        generalize (w.alloc (.cells #[.int .i64 z.st, .int .i64 z.fc, .slice D z.data.length c] 42)).alloc (.cells #[.int .i64 0, .int .i64 0, .slice none 0 0] 42) = w1 at *
        obtain ⟨c0, c1, c2⟩ := B1.out.cells
        go_wp2_with fail
        refine (HC 0 w1 (H1.out.below L1.out)).out.mono ?_
        rintro e w3 ⟨X, q, rfl, hX, hb3⟩
        unfold zv at *
        have N3 := Lib.hid (N1.out.below hb3)
        have L3 := Lib.hid (L1.out.trans (hb3.mono L1.out.size))
        have O3 := Lib.hid hX
        obtain ⟨f0, f1, f2⟩ := N3.out.frozen
        obtain ⟨n0, n1, n2⟩ := N3.out.cells
        clear hX hb3 c0 c1 c2
        go_wp2_with fail
        refine bodyPost_ret_by (results_zone_tmp rfl _ _ (w.heap.size + 1) _ _ _ _ rfl (Box.store N3.out ⟨0, z.fc, z.data⟩ X q) Try.underlying42 rfl (by kernel_rfl)) rfl ?_
        exact ⟨X, q, rfl, (Owns.other3 (g := w.heap.size + 1) O3.out (by have := N1.out.lt; omega) _ _ _).mono (by have := N1.out.lt; omega), below3 L3.out (by omega) _ _ _⟩
    · go_enter Try.func59, Try.ntmps59
      go_upto_region 1 with fail
      generalize (w.alloc (.cells #[.int .i64 z.st, .int .i64 z.fc, .slice D z.data.length c] 42)).alloc (.cells #[.int .i64 0, .int .i64 0, .slice none 0 0] 42) = w1 at *
      obtain ⟨c0, c1, c2⟩ := B1.out.cells
      obtain ⟨f0, f1, f2⟩ := N1.out.frozen
      obtain ⟨n0, n1, n2⟩ := N1.out.cells
      go_wp2_with fail
      refine bodyPost_ret_by (results_zone_tmp rfl _ _ (w.heap.size + 1) _ _ _ _ rfl (Box.store N1.out nilZ none 0) Try.underlying42 rfl (by kernel_rfl)) rfl ?_
      exact GaveZ.nil (below3 L1.out (by omega) _ _ _)
  · go_enter Try.func59, Try.ntmps59
    go_upto_region 1 with fail
    generalize (w.alloc (.cells #[.int .i64 z.st, .int .i64 z.fc, .slice D z.data.length c] 42)).alloc (.cells #[.int .i64 0, .int .i64 0, .slice none 0 0] 42) = w1 at *
    obtain ⟨c0, c1, c2⟩ := B1.out.cells
    obtain ⟨f0, f1, f2⟩ := N1.out.frozen
    obtain ⟨n0, n1, n2⟩ := N1.out.cells
    go_wp2_with fail
    refine bodyPost_ret_by (results_zone_tmp rfl _ _ (w.heap.size + 1) _ _ _ _ rfl (Box.store N1.out nilZ none 0) Try.underlying42 rfl (by kernel_rfl)) rfl ?_
    exact GaveZ.nil (below3 L1.out (by omega) _ _ _)

/-- The bytes that are asked for are all there. -/
def readB (z : Zn) (off n : Int) : Bool := !decide (off < 0) && (!decide (n < 0) && !decide (z.len - off < n))
def readL (z : Zn) (off n : Int) : List B8 := bif readB z off n then (z.data.drop off.toNat).take n.toNat else []

set_option maxRecDepth 100000 in
set_option maxHeartbeats 1600000 in
theorem read_any {z : Zn} {D : Option Addr} {c : Nat} {w : World} (off n : Int) (ho : off ≤ 9223372036854775807) (h : Row cb w D z.data.length c z.data) :
    Calls Try.prog 54 #[zv z D c, .int .i64 off, .int .i64 n] w (GaveE cb 5 w.heap.size w (readL z off n) (errOf (readB z off n))) := by
  have HC := fun A k c l w (h : Row cb w A k c l) => Lib.hid (clone_any h)
  have H1 := Lib.hid h
  have hbig := h.big
  have hcap := h.cap
  have L1 := Lib.hid ((Below.refl w.heap.size w).alloc (Nat.le_refl _) (.cells #[.int .i64 z.st, .int .i64 z.fc, .slice D z.data.length c] 42))
  have B1 := Lib.hid (Box.new w z D c)
  unfold readL readB
  unfold zv Zn.len at *
  clear h
  rcases e1 : decide (off < 0)
  · rcases e2 : decide (n < 0)
    · have hsub : IntKind.i64.wrap ((z.data.length : Int) - off) = (z.data.length : Int) - off := by have := of_decide_eq_false e1; rw [IntKind.wrap_i64]; omega
      rcases e3 : decide ((z.data.length : Int) - off < n)
      · obtain ⟨k, rfl⟩ := Int.eq_ofNat_of_zero_le (show 0 ≤ off by have := of_decide_eq_false e1; omega)
        obtain ⟨m, rfl⟩ := Int.eq_ofNat_of_zero_le (show 0 ≤ n by have := of_decide_eq_false e2; omega)
        have hkm : k + m ≤ z.data.length := by have := of_decide_eq_false e3; omega
        have hadd : IntKind.i64.wrap ((k : Int) + (m : Int)) = (k : Int) + (m : Int) := by rw [IntKind.wrap_i64]; omega
        have hsl : ∀ w, (Instr.slice 34 (.slice D z.data.length c) (some (.int .i64 (k : Int))) (some (.int .i64 ((k : Int) + (m : Int)))) none).run Try.prog w = .ok (.slice (tailA D c k) m (c - k)) w := by
          intro w
          have := run_mid D z.data.length c k (k + m) (by omega) (by omega) w
          rwa [Int.natCast_add, Nat.add_sub_cancel_left] at this
        have hd0 : decide ((k : Int) < 0) = false := e1
        go_enter Try.func54, Try.ntmps54
        go_wp2_with fail
        generalize w.alloc (.cells #[.int .i64 z.st, .int .i64 z.fc, .slice D z.data.length c] 42) = w1 at *
        have hrow := Row.mid (H1.out.below L1.out) (k := k) (j := k + m) (by omega) hkm
        rw [Nat.add_sub_cancel_left] at hrow
        refine (HC _ _ _ _ w1 hrow).out.mono ?_
        rintro e w2 ⟨X, q, g, rfl, hX, hb2⟩
        have L2 := Lib.hid (L1.out.trans (hb2.mono L1.out.size))
        have O2 := Lib.hid (hX.mono L1.out.size)
        clear hX hb2 hrow
        go_wp2_with fail
        go_ret2
        exact ⟨_, _, _, rfl, O2.out, L2.out⟩
      · go_enter Try.func54, Try.ntmps54
        go_wp2_with fail
        go_ret2
        exact ⟨_, _, _, rfl, Owns.nil _ _ _ _, L1.out⟩
    · go_enter Try.func54, Try.ntmps54
      go_wp2_with fail
      go_ret2
      exact ⟨_, _, _, rfl, Owns.nil _ _ _ _, L1.out⟩
  · go_enter Try.func54, Try.ntmps54
    go_wp2_with fail
    go_ret2
    exact ⟨_, _, _, rfl, Owns.nil _ _ _ _, L1.out⟩
end Zon
end Go.Proofs.Ytbmblgjilmgkeaa
