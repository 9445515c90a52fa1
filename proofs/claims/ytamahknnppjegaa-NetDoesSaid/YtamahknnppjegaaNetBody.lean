/-
  WALKS: body: one operation.
-/
import Derived.Test.YtamahknnppjegaaNetGot
namespace Go.Proofs.Ytamahknnppjegaa
open Go.RowKit Mem Box
namespace Net
open Wire (B8 info_int)

set_option maxRecDepth 100000 in
set_option maxHeartbeats 6400000 in
theorem body_drop {w : World} {cap : Nat} {Q : Option Addr} {n c : Nat} {l : List Mx} (h : NetAt w Q n c l) (hn : n ≤ 5000) (L : Option Addr) (m e : Nat) (i : Int) :
    Calls Try.prog 17 #[nv cap Q n c, .agg #[.int .i64 2, .int .i64 i, .slice L m e]] w (GotB w ((dropR cap (l.map Mx.p) i).1, (dropR cap (l.map Mx.p) i).2.1, zM, (dropR cap (l.map Mx.p) i).2.2, 0)) := by
  have HN := Lib.hid h
  have HC := fun W (h : NetAt W Q n c l) => Lib.hid (got_drop (cap := cap) h hn i)
  generalize dropR cap (l.map Mx.p) i = R at *
  obtain ⟨cap2, pl, er⟩ := R
  show Calls _ _ _ _ (GotB w (cap2, pl, zM, er, 0))
  have L1 : Hid (Below w.heap.size w (((((w.alloc (.cells #[.int .i64 (cap : Int), .slice Q n c] 28)).alloc (.cells #[.int .i64 2, .int .i64 i, .slice L m e] 35)).alloc (.cells #[.int .i64 0, .slice none 0 0] 28)).alloc (.cells #[.int .i64 0, .int .i64 0, .int .i64 0, .int .i64 0, .slice none 0 0, .slice none 0 0] 39)).alloc (.cells #[.int .i64 0, .int .i64 0, .int .i64 0, .int .i64 0, .slice none 0 0, .slice none 0 0] 39))) := ((((((Below.refl _ w).alloc (by first | exact Nat.le_refl _ | (simp; try omega)) _).alloc (by first | exact Nat.le_refl _ | (simp; try omega)) _).alloc (by first | exact Nat.le_refl _ | (simp; try omega)) _).alloc (by first | exact Nat.le_refl _ | (simp; try omega)) _).alloc (by first | exact Nat.le_refl _ | (simp; try omega)) _)
  have X1 : Hid (Cells (((((w.alloc (.cells #[.int .i64 (cap : Int), .slice Q n c] 28)).alloc (.cells #[.int .i64 2, .int .i64 i, .slice L m e] 35)).alloc (.cells #[.int .i64 0, .slice none 0 0] 28)).alloc (.cells #[.int .i64 0, .int .i64 0, .int .i64 0, .int .i64 0, .slice none 0 0, .slice none 0 0] 39)).alloc (.cells #[.int .i64 0, .int .i64 0, .int .i64 0, .int .i64 0, .slice none 0 0, .slice none 0 0] 39)) (w.heap.size) 28 #[.int .i64 (cap : Int), .slice Q n c]) := by
    have := Cells.new w #[.int .i64 (cap : Int), .slice Q n c] 28
    (try simp only [World.size_alloc] at this)
    exact (Cells.alloc (Cells.alloc (Cells.alloc (Cells.alloc this _) _) _) _)
  have P1 : Hid (Cells (((((w.alloc (.cells #[.int .i64 (cap : Int), .slice Q n c] 28)).alloc (.cells #[.int .i64 2, .int .i64 i, .slice L m e] 35)).alloc (.cells #[.int .i64 0, .slice none 0 0] 28)).alloc (.cells #[.int .i64 0, .int .i64 0, .int .i64 0, .int .i64 0, .slice none 0 0, .slice none 0 0] 39)).alloc (.cells #[.int .i64 0, .int .i64 0, .int .i64 0, .int .i64 0, .slice none 0 0, .slice none 0 0] 39)) (w.heap.size + 1) 35 #[.int .i64 2, .int .i64 i, .slice L m e]) := by
    have := Cells.new (w.alloc (.cells #[.int .i64 (cap : Int), .slice Q n c] 28)) #[.int .i64 2, .int .i64 i, .slice L m e] 35
    (try simp only [World.size_alloc] at this)
    exact (Cells.alloc (Cells.alloc (Cells.alloc this _) _) _)
  have Z1 : Hid (Cells (((((w.alloc (.cells #[.int .i64 (cap : Int), .slice Q n c] 28)).alloc (.cells #[.int .i64 2, .int .i64 i, .slice L m e] 35)).alloc (.cells #[.int .i64 0, .slice none 0 0] 28)).alloc (.cells #[.int .i64 0, .int .i64 0, .int .i64 0, .int .i64 0, .slice none 0 0, .slice none 0 0] 39)).alloc (.cells #[.int .i64 0, .int .i64 0, .int .i64 0, .int .i64 0, .slice none 0 0, .slice none 0 0] 39)) (w.heap.size + 2) 28 #[.int .i64 0, .slice none 0 0]) := by
    have := Cells.new ((w.alloc (.cells #[.int .i64 (cap : Int), .slice Q n c] 28)).alloc (.cells #[.int .i64 2, .int .i64 i, .slice L m e] 35)) #[.int .i64 0, .slice none 0 0] 28
    (try simp only [World.size_alloc] at this)
    exact (Cells.alloc (Cells.alloc this _) _)
  have Y1 : Hid (Cells (((((w.alloc (.cells #[.int .i64 (cap : Int), .slice Q n c] 28)).alloc (.cells #[.int .i64 2, .int .i64 i, .slice L m e] 35)).alloc (.cells #[.int .i64 0, .slice none 0 0] 28)).alloc (.cells #[.int .i64 0, .int .i64 0, .int .i64 0, .int .i64 0, .slice none 0 0, .slice none 0 0] 39)).alloc (.cells #[.int .i64 0, .int .i64 0, .int .i64 0, .int .i64 0, .slice none 0 0, .slice none 0 0] 39)) (w.heap.size + 3) 39 #[.int .i64 0, .int .i64 0, .int .i64 0, .int .i64 0, .slice none 0 0, .slice none 0 0]) := by
    have := Cells.new (((w.alloc (.cells #[.int .i64 (cap : Int), .slice Q n c] 28)).alloc (.cells #[.int .i64 2, .int .i64 i, .slice L m e] 35)).alloc (.cells #[.int .i64 0, .slice none 0 0] 28)) #[.int .i64 0, .int .i64 0, .int .i64 0, .int .i64 0, .slice none 0 0, .slice none 0 0] 39
    (try simp only [World.size_alloc] at this)
    exact (Cells.alloc this _)
  have T1 : Hid (Cells (((((w.alloc (.cells #[.int .i64 (cap : Int), .slice Q n c] 28)).alloc (.cells #[.int .i64 2, .int .i64 i, .slice L m e] 35)).alloc (.cells #[.int .i64 0, .slice none 0 0] 28)).alloc (.cells #[.int .i64 0, .int .i64 0, .int .i64 0, .int .i64 0, .slice none 0 0, .slice none 0 0] 39)).alloc (.cells #[.int .i64 0, .int .i64 0, .int .i64 0, .int .i64 0, .slice none 0 0, .slice none 0 0] 39)) (w.heap.size + 4) 39 #[.int .i64 0, .int .i64 0, .int .i64 0, .int .i64 0, .slice none 0 0, .slice none 0 0]) := by
    have := Cells.new ((((w.alloc (.cells #[.int .i64 (cap : Int), .slice Q n c] 28)).alloc (.cells #[.int .i64 2, .int .i64 i, .slice L m e] 35)).alloc (.cells #[.int .i64 0, .slice none 0 0] 28)).alloc (.cells #[.int .i64 0, .int .i64 0, .int .i64 0, .int .i64 0, .slice none 0 0, .slice none 0 0] 39)) #[.int .i64 0, .int .i64 0, .int .i64 0, .int .i64 0, .slice none 0 0, .slice none 0 0] 39
    (try simp only [World.size_alloc] at this)
    exact this
  have SZ : Hid ((((((w.alloc (.cells #[.int .i64 (cap : Int), .slice Q n c] 28)).alloc (.cells #[.int .i64 2, .int .i64 i, .slice L m e] 35)).alloc (.cells #[.int .i64 0, .slice none 0 0] 28)).alloc (.cells #[.int .i64 0, .int .i64 0, .int .i64 0, .int .i64 0, .slice none 0 0, .slice none 0 0] 39)).alloc (.cells #[.int .i64 0, .int .i64 0, .int .i64 0, .int .i64 0, .slice none 0 0, .slice none 0 0] 39)).heap.size = w.heap.size + 5) := by show _ = _; simp
  clear h
  unfold nv at *
  go_enter Try.func17, Try.ntmps17
  go_upto_region 16 with (first | (go_at_call 32; refine (HC _ (HN.out.below L1.out)).out.mono ?_; rintro en w2 ⟨Q2, n2, c2, l2, rfl, hO, hP, hb⟩; have L2 := Lib.hid (L1.out.trans (hb.mono L1.out.size)); have X2 := Lib.hid (Cells.below X1.out hb); have Z2 := Lib.hid (Cells.below Z1.out hb); have Y2 := Lib.hid (Cells.below Y1.out hb); have T2 := Lib.hid (Cells.below T1.out hb); obtain ⟨k0, k1⟩ := NBox.cells X2.out; have g0 := Cells.frozen X2.out 0; have g1 := Cells.frozen X2.out 1; have N2 := Lib.hid ((hO.lower L1.out.size).base_ L1.out.size); have NW : Hid (∀ x ∈ l2, ∀ q, Bl x q → w.heap.size + 5 ≤ q) := (fun x hx q hq => by have h1 := hO.low x hx q hq; have h2 := SZ.out; omega); have NB : Hid (∀ q, (Value.slice Q2 n2 c2).ownBlock = some q → w.heap.size + 5 ≤ q) := (fun q hq => by have h1 := (hO.own.lt q hq).1; have h2 := SZ.out; omega); have LP := Lib.hid hP; (try unfold nv); (try unfold mxv); clear hb hO hP) | fail)
  clear k0 k1 g0 g1 L1 X1 P1 Z1 Y1 T1 SZ HC HN
  have bt : Mov [w.heap.size] w2 ((w2.setCell ⟨w.heap.size, 0, none⟩ (.int .i64 (cap2 : Int))).setCell ⟨w.heap.size, 1, none⟩ (.slice Q2 n2 c2)) := Mov.set2 _ _ _ _
  have L3 := Lib.hid (L2.out.trans (bt.up L2.out.size (by omega)))
  have X3 : Hid (NBox ((w2.setCell ⟨w.heap.size, 0, none⟩ (.int .i64 (cap2 : Int))).setCell ⟨w.heap.size, 1, none⟩ (.slice Q2 n2 c2)) (w.heap.size) cap2 Q2 n2 c2) := Cells.set2 X2.out _ _
  have Z3 := Lib.hid (Cells.mov Z2.out bt (by simp; try omega))
  have Y3 := Lib.hid (Cells.mov Y2.out bt (by simp; try omega))
  have T3 := Lib.hid (Cells.mov T2.out bt (by simp; try omega))
  have N3 := Lib.hid (N2.out.mov_ (fun e => by have h1 := NB.out _ e; omega) (fun x hx q hq => by have h1 := NW.out x hx q hq; omega) bt)
  clear bt L2 X2 Z2 Y2 T2 N2
  generalize (w2.setCell ⟨w.heap.size, 0, none⟩ (.int .i64 (cap2 : Int))).setCell ⟨w.heap.size, 1, none⟩ (.slice Q2 n2 c2) = w3 at *
  have L4 := Lib.hid L3.out.drew
  have X4 := Lib.hid (Cells.below X3.out ((Below.refl _ w3).drew))
  have Z4 := Lib.hid (Cells.below Z3.out ((Below.refl _ w3).drew))
  have Y4 := Lib.hid (Cells.below Y3.out ((Below.refl _ w3).drew))
  have T4 := Lib.hid (Cells.below T3.out ((Below.refl _ w3).drew))
  have N4 := Lib.hid (OwnN.below N3.out ((Below.refl _ w3).drew))
  refine wp_region_held_drew (S := fun W => W.cell? ⟨w.heap.size, 0, none⟩ = some (.int .i64 (cap2 : Int)) ∧ W.cell? ⟨w.heap.size, 1, none⟩ = some (.slice Q2 n2 c2) ∧ W.cell? ⟨w.heap.size + 4, 0, none⟩ = some (.int .i64 0) ∧ W.cell? ⟨w.heap.size + 4, 1, none⟩ = some (.int .i64 0) ∧ W.cell? ⟨w.heap.size + 4, 2, none⟩ = some (.int .i64 0) ∧ W.cell? ⟨w.heap.size + 4, 3, none⟩ = some (.int .i64 0) ∧ W.cell? ⟨w.heap.size + 4, 4, none⟩ = some (.slice none 0 0) ∧ W.cell? ⟨w.heap.size + 4, 5, none⟩ = some (.slice none 0 0)) (by kernel_rfl) (And.intro (NBox.cells X4.out).1 (And.intro (NBox.cells X4.out).2 (show _ ∧ _ ∧ _ ∧ _ ∧ _ ∧ _ from MBox.cells (x := zeroX) T4.out))) (fun hHeld => ?_)
  generalize w3.drew = w4 at *
  clear L3 X3 Z3 Y3 T3 N3 
  (first | (refine Reg.take 0 (v := ?_) rfl (by kernel_rfl) (by kernel_rfl) (by kernel_rfl) (fun _ _ _ h => h) (Or.inl ⟨by rfl, ?_⟩) (by assumption) ?_; rotate_left; (focus ((intro W hSW); (try dsimp only at hSW); (try go_split_ands); go_simp; (try (with_reducible rfl)); done))) | (refine Reg.take 0 (v := undef) rfl (by kernel_rfl) (by kernel_rfl) (by kernel_rfl) (fun _ _ _ h => h) (Or.inr ⟨by rfl, rfl⟩) (by assumption) ?_))
  (try simp only [Act.put, List.setIfInBounds_toArray, List.set_cons_zero, List.set_cons_succ])
  (first | (refine Reg.take 1 (v := ?_) rfl (by kernel_rfl) (by kernel_rfl) (by kernel_rfl) (fun _ _ _ h => h) (Or.inl ⟨by rfl, ?_⟩) (by assumption) ?_; rotate_left; (focus ((intro W hSW); (try dsimp only at hSW); (try go_split_ands); go_simp; (try (with_reducible rfl)); done))) | (refine Reg.take 1 (v := undef) rfl (by kernel_rfl) (by kernel_rfl) (by kernel_rfl) (fun _ _ _ h => h) (Or.inr ⟨by rfl, rfl⟩) (by assumption) ?_))
  (try simp only [Act.put, List.setIfInBounds_toArray, List.set_cons_zero, List.set_cons_succ])
  (first | (refine Reg.take 2 (v := ?_) rfl (by kernel_rfl) (by kernel_rfl) (by kernel_rfl) (fun _ _ _ h => h) (Or.inl ⟨by rfl, ?_⟩) (by assumption) ?_; rotate_left; (focus ((intro W hSW); (try dsimp only at hSW); (try go_split_ands); go_simp; (try (with_reducible rfl)); done))) | (refine Reg.take 2 (v := undef) rfl (by kernel_rfl) (by kernel_rfl) (by kernel_rfl) (fun _ _ _ h => h) (Or.inr ⟨by rfl, rfl⟩) (by assumption) ?_))
  (try simp only [Act.put, List.setIfInBounds_toArray, List.set_cons_zero, List.set_cons_succ])
  (first | (refine Reg.take 3 (v := ?_) rfl (by kernel_rfl) (by kernel_rfl) (by kernel_rfl) (fun _ _ _ h => h) (Or.inl ⟨by rfl, ?_⟩) (by assumption) ?_; rotate_left; (focus ((intro W hSW); (try dsimp only at hSW); (try go_split_ands); go_simp; (try (with_reducible rfl)); done))) | (refine Reg.take 3 (v := undef) rfl (by kernel_rfl) (by kernel_rfl) (by kernel_rfl) (fun _ _ _ h => h) (Or.inr ⟨by rfl, rfl⟩) (by assumption) ?_))
  (try simp only [Act.put, List.setIfInBounds_toArray, List.set_cons_zero, List.set_cons_succ])
  have y0 := Cells.cell Z4.out 0
  have f0 := Cells.frozen Z4.out 0
  have y1 := Cells.cell Z4.out 1
  have f1 := Cells.frozen Z4.out 1
  refine Reg.step 4 rfl (by kernel_rfl) (by rfl) (fun K hK => ?_)
  go_simp
  have bt : Mov [w.heap.size + 2] w4 ((w4.setCell ⟨w.heap.size + 2, 0, none⟩ (.int .i64 (cap2 : Int))).setCell ⟨w.heap.size + 2, 1, none⟩ (.slice Q2 n2 c2)) := Mov.set2 _ _ _ _
  have L5 := Lib.hid (L4.out.trans (bt.up L4.out.size (by omega)))
  have X5 := Lib.hid (Cells.mov X4.out bt (by simp; try omega))
  have Z5 : Hid (Cells ((w4.setCell ⟨w.heap.size + 2, 0, none⟩ (.int .i64 (cap2 : Int))).setCell ⟨w.heap.size + 2, 1, none⟩ (.slice Q2 n2 c2)) (w.heap.size + 2) 28 #[.int .i64 (cap2 : Int), .slice Q2 n2 c2]) := Cells.set2 Z4.out _ _
  have Y5 := Lib.hid (Cells.mov Y4.out bt (by simp; try omega))
  have T5 := Lib.hid (Cells.mov T4.out bt (by simp; try omega))
  have N5 := Lib.hid (N4.out.mov Z4.out (by decide) (fun x hx q hq => by have h1 := NW.out x hx q hq; omega) bt)
  clear bt hHeld y0 f0 y1 f1
  clear L4 X4 Z4 Y4 T4 N4 
  generalize (w4.setCell ⟨w.heap.size + 2, 0, none⟩ (.int .i64 (cap2 : Int))).setCell ⟨w.heap.size + 2, 1, none⟩ (.slice Q2 n2 c2) = w5 at *
  refine hK.out _ _ (And.intro (NBox.cells X5.out).1 (And.intro (NBox.cells X5.out).2 (show _ ∧ _ ∧ _ ∧ _ ∧ _ ∧ _ from MBox.cells (x := zeroX) T5.out))) (fun hHeld => ?_)
  clear hK K
  (try simp only [Act.put, List.setIfInBounds_toArray, List.set_cons_zero, List.set_cons_succ])
  have y0 := Cells.cell Y5.out 0
  have f0 := Cells.frozen Y5.out 0
  have y1 := Cells.cell Y5.out 1
  have f1 := Cells.frozen Y5.out 1
  have y2 := Cells.cell Y5.out 2
  have f2 := Cells.frozen Y5.out 2
  have y3 := Cells.cell Y5.out 3
  have f3 := Cells.frozen Y5.out 3
  have y4 := Cells.cell Y5.out 4
  have f4 := Cells.frozen Y5.out 4
  have y5 := Cells.cell Y5.out 5
  have f5 := Cells.frozen Y5.out 5
  refine Reg.step 5 rfl (by kernel_rfl) (by rfl) (fun K hK => ?_)
  go_simp
  have bt : Mov [w.heap.size + 3] w5 ((((((w5.setCell ⟨w.heap.size + 3, 0, none⟩ (.int .i64 0)).setCell ⟨w.heap.size + 3, 1, none⟩ (.int .i64 0)).setCell ⟨w.heap.size + 3, 2, none⟩ (.int .i64 0)).setCell ⟨w.heap.size + 3, 3, none⟩ (.int .i64 0)).setCell ⟨w.heap.size + 3, 4, none⟩ (.slice none 0 0)).setCell ⟨w.heap.size + 3, 5, none⟩ (.slice none 0 0)) := Mov.set6 _ _ _ _ _ _ _ _
  have L6 := Lib.hid (L5.out.trans (bt.up L5.out.size (by omega)))
  have X6 := Lib.hid (Cells.mov X5.out bt (by simp; try omega))
  have Z6 := Lib.hid (Cells.mov Z5.out bt (by simp; try omega))
  have Y6 : Hid (Cells ((((((w5.setCell ⟨w.heap.size + 3, 0, none⟩ (.int .i64 0)).setCell ⟨w.heap.size + 3, 1, none⟩ (.int .i64 0)).setCell ⟨w.heap.size + 3, 2, none⟩ (.int .i64 0)).setCell ⟨w.heap.size + 3, 3, none⟩ (.int .i64 0)).setCell ⟨w.heap.size + 3, 4, none⟩ (.slice none 0 0)).setCell ⟨w.heap.size + 3, 5, none⟩ (.slice none 0 0)) (w.heap.size + 3) 39 #[.int .i64 0, .int .i64 0, .int .i64 0, .int .i64 0, .slice none 0 0, .slice none 0 0]) := Cells.set6 Y5.out _ _ _ _ _ _
  have T6 := Lib.hid (Cells.mov T5.out bt (by simp; try omega))
  have N6 := Lib.hid (N5.out.mov_ (fun e => by have h1 := NB.out _ e; omega) (fun x hx q hq => by have h1 := NW.out x hx q hq; omega) bt)
  clear bt hHeld y0 f0 y1 f1 y2 f2 y3 f3 y4 f4 y5 f5
  clear L5 X5 Z5 Y5 T5 N5 
  generalize (((((w5.setCell ⟨w.heap.size + 3, 0, none⟩ (.int .i64 0)).setCell ⟨w.heap.size + 3, 1, none⟩ (.int .i64 0)).setCell ⟨w.heap.size + 3, 2, none⟩ (.int .i64 0)).setCell ⟨w.heap.size + 3, 3, none⟩ (.int .i64 0)).setCell ⟨w.heap.size + 3, 4, none⟩ (.slice none 0 0)).setCell ⟨w.heap.size + 3, 5, none⟩ (.slice none 0 0) = w6 at *
  refine hK.out _ _ (And.intro (NBox.cells X6.out).1 (And.intro (NBox.cells X6.out).2 (show _ ∧ _ ∧ _ ∧ _ ∧ _ ∧ _ from MBox.cells (x := zeroX) T6.out))) (fun hHeld => ?_)
  clear hK K
  (try simp only [Act.put, List.setIfInBounds_toArray, List.set_cons_zero, List.set_cons_succ])
  (first | (refine Reg.take 6 (v := ?_) rfl (by kernel_rfl) (by kernel_rfl) (by kernel_rfl) (fun _ _ _ h => h) (Or.inl ⟨by rfl, ?_⟩) (by assumption) ?_; rotate_left; (focus ((intro W hSW); (try dsimp only at hSW); (try go_split_ands); go_simp; (try (with_reducible rfl)); done))) | (refine Reg.take 6 (v := undef) rfl (by kernel_rfl) (by kernel_rfl) (by kernel_rfl) (fun _ _ _ h => h) (Or.inr ⟨by rfl, rfl⟩) (by assumption) ?_))
  (try simp only [Act.put, List.setIfInBounds_toArray, List.set_cons_zero, List.set_cons_succ])
  (first | (refine Reg.take 7 (v := ?_) rfl (by kernel_rfl) (by kernel_rfl) (by kernel_rfl) (fun _ _ _ h => h) (Or.inl ⟨by rfl, ?_⟩) (by assumption) ?_; rotate_left; (focus ((intro W hSW); (try dsimp only at hSW); (try go_split_ands); go_simp; (try (with_reducible rfl)); done))) | (refine Reg.take 7 (v := undef) rfl (by kernel_rfl) (by kernel_rfl) (by kernel_rfl) (fun _ _ _ h => h) (Or.inr ⟨by rfl, rfl⟩) (by assumption) ?_))
  (try simp only [Act.put, List.setIfInBounds_toArray, List.set_cons_zero, List.set_cons_succ])
  refine wpAnyH_done (by kernel_rfl) ?_ _
  clear hHeld
  go_wp2_with fail
  refine bodyPost_ret_by (results_cc2 rfl _ _ (w.heap.size + 2) (w.heap.size + 3) _ _ _ _ _ _ _ _ rfl Z6.out Try.underlying28 rfl (by kernel_rfl) rfl Y6.out Try.underlying39 rfl (by kernel_rfl)) rfl ?_
  exact ⟨Q2, n2, c2, l2, zeroX, rfl, N6.out, LP.out, rfl, zero_at _, fun q hq => absurd hq zero_bl, zero_own _ _, fun q hq => absurd hq zero_bl, L6.out⟩

set_option maxRecDepth 100000 in
set_option maxHeartbeats 6400000 in
theorem body_double {w : World} {cap : Nat} {Q : Option Addr} {n c : Nat} {l : List Mx} (h : NetAt w Q n c l) (hn : n ≤ 5000) (L : Option Addr) (m e : Nat) (i : Int) :
    Calls Try.prog 17 #[nv cap Q n c, .agg #[.int .i64 3, .int .i64 i, .slice L m e]] w (GotB w ((doubleR cap (l.map Mx.p) i).1, (doubleR cap (l.map Mx.p) i).2.1, zM, (doubleR cap (l.map Mx.p) i).2.2, 0)) := by
  have HN := Lib.hid h
  have HC := fun W (h : NetAt W Q n c l) => Lib.hid (got_double (cap := cap) h hn i)
  generalize doubleR cap (l.map Mx.p) i = R at *
  obtain ⟨cap2, pl, er⟩ := R
  show Calls _ _ _ _ (GotB w (cap2, pl, zM, er, 0))
  have L1 : Hid (Below w.heap.size w (((((w.alloc (.cells #[.int .i64 (cap : Int), .slice Q n c] 28)).alloc (.cells #[.int .i64 3, .int .i64 i, .slice L m e] 35)).alloc (.cells #[.int .i64 0, .slice none 0 0] 28)).alloc (.cells #[.int .i64 0, .int .i64 0, .int .i64 0, .int .i64 0, .slice none 0 0, .slice none 0 0] 39)).alloc (.cells #[.int .i64 0, .int .i64 0, .int .i64 0, .int .i64 0, .slice none 0 0, .slice none 0 0] 39))) := ((((((Below.refl _ w).alloc (by first | exact Nat.le_refl _ | (simp; try omega)) _).alloc (by first | exact Nat.le_refl _ | (simp; try omega)) _).alloc (by first | exact Nat.le_refl _ | (simp; try omega)) _).alloc (by first | exact Nat.le_refl _ | (simp; try omega)) _).alloc (by first | exact Nat.le_refl _ | (simp; try omega)) _)
  have X1 : Hid (Cells (((((w.alloc (.cells #[.int .i64 (cap : Int), .slice Q n c] 28)).alloc (.cells #[.int .i64 3, .int .i64 i, .slice L m e] 35)).alloc (.cells #[.int .i64 0, .slice none 0 0] 28)).alloc (.cells #[.int .i64 0, .int .i64 0, .int .i64 0, .int .i64 0, .slice none 0 0, .slice none 0 0] 39)).alloc (.cells #[.int .i64 0, .int .i64 0, .int .i64 0, .int .i64 0, .slice none 0 0, .slice none 0 0] 39)) (w.heap.size) 28 #[.int .i64 (cap : Int), .slice Q n c]) := by
    have := Cells.new w #[.int .i64 (cap : Int), .slice Q n c] 28
    (try simp only [World.size_alloc] at this)
    exact (Cells.alloc (Cells.alloc (Cells.alloc (Cells.alloc this _) _) _) _)
  have P1 : Hid (Cells (((((w.alloc (.cells #[.int .i64 (cap : Int), .slice Q n c] 28)).alloc (.cells #[.int .i64 3, .int .i64 i, .slice L m e] 35)).alloc (.cells #[.int .i64 0, .slice none 0 0] 28)).alloc (.cells #[.int .i64 0, .int .i64 0, .int .i64 0, .int .i64 0, .slice none 0 0, .slice none 0 0] 39)).alloc (.cells #[.int .i64 0, .int .i64 0, .int .i64 0, .int .i64 0, .slice none 0 0, .slice none 0 0] 39)) (w.heap.size + 1) 35 #[.int .i64 3, .int .i64 i, .slice L m e]) := by
    have := Cells.new (w.alloc (.cells #[.int .i64 (cap : Int), .slice Q n c] 28)) #[.int .i64 3, .int .i64 i, .slice L m e] 35
    (try simp only [World.size_alloc] at this)
    exact (Cells.alloc (Cells.alloc (Cells.alloc this _) _) _)
  have Z1 : Hid (Cells (((((w.alloc (.cells #[.int .i64 (cap : Int), .slice Q n c] 28)).alloc (.cells #[.int .i64 3, .int .i64 i, .slice L m e] 35)).alloc (.cells #[.int .i64 0, .slice none 0 0] 28)).alloc (.cells #[.int .i64 0, .int .i64 0, .int .i64 0, .int .i64 0, .slice none 0 0, .slice none 0 0] 39)).alloc (.cells #[.int .i64 0, .int .i64 0, .int .i64 0, .int .i64 0, .slice none 0 0, .slice none 0 0] 39)) (w.heap.size + 2) 28 #[.int .i64 0, .slice none 0 0]) := by
    have := Cells.new ((w.alloc (.cells #[.int .i64 (cap : Int), .slice Q n c] 28)).alloc (.cells #[.int .i64 3, .int .i64 i, .slice L m e] 35)) #[.int .i64 0, .slice none 0 0] 28
    (try simp only [World.size_alloc] at this)
    exact (Cells.alloc (Cells.alloc this _) _)
  have Y1 : Hid (Cells (((((w.alloc (.cells #[.int .i64 (cap : Int), .slice Q n c] 28)).alloc (.cells #[.int .i64 3, .int .i64 i, .slice L m e] 35)).alloc (.cells #[.int .i64 0, .slice none 0 0] 28)).alloc (.cells #[.int .i64 0, .int .i64 0, .int .i64 0, .int .i64 0, .slice none 0 0, .slice none 0 0] 39)).alloc (.cells #[.int .i64 0, .int .i64 0, .int .i64 0, .int .i64 0, .slice none 0 0, .slice none 0 0] 39)) (w.heap.size + 3) 39 #[.int .i64 0, .int .i64 0, .int .i64 0, .int .i64 0, .slice none 0 0, .slice none 0 0]) := by
    have := Cells.new (((w.alloc (.cells #[.int .i64 (cap : Int), .slice Q n c] 28)).alloc (.cells #[.int .i64 3, .int .i64 i, .slice L m e] 35)).alloc (.cells #[.int .i64 0, .slice none 0 0] 28)) #[.int .i64 0, .int .i64 0, .int .i64 0, .int .i64 0, .slice none 0 0, .slice none 0 0] 39
    (try simp only [World.size_alloc] at this)
    exact (Cells.alloc this _)
  have T1 : Hid (Cells (((((w.alloc (.cells #[.int .i64 (cap : Int), .slice Q n c] 28)).alloc (.cells #[.int .i64 3, .int .i64 i, .slice L m e] 35)).alloc (.cells #[.int .i64 0, .slice none 0 0] 28)).alloc (.cells #[.int .i64 0, .int .i64 0, .int .i64 0, .int .i64 0, .slice none 0 0, .slice none 0 0] 39)).alloc (.cells #[.int .i64 0, .int .i64 0, .int .i64 0, .int .i64 0, .slice none 0 0, .slice none 0 0] 39)) (w.heap.size + 4) 39 #[.int .i64 0, .int .i64 0, .int .i64 0, .int .i64 0, .slice none 0 0, .slice none 0 0]) := by
    have := Cells.new ((((w.alloc (.cells #[.int .i64 (cap : Int), .slice Q n c] 28)).alloc (.cells #[.int .i64 3, .int .i64 i, .slice L m e] 35)).alloc (.cells #[.int .i64 0, .slice none 0 0] 28)).alloc (.cells #[.int .i64 0, .int .i64 0, .int .i64 0, .int .i64 0, .slice none 0 0, .slice none 0 0] 39)) #[.int .i64 0, .int .i64 0, .int .i64 0, .int .i64 0, .slice none 0 0, .slice none 0 0] 39
    (try simp only [World.size_alloc] at this)
    exact this
  have SZ : Hid ((((((w.alloc (.cells #[.int .i64 (cap : Int), .slice Q n c] 28)).alloc (.cells #[.int .i64 3, .int .i64 i, .slice L m e] 35)).alloc (.cells #[.int .i64 0, .slice none 0 0] 28)).alloc (.cells #[.int .i64 0, .int .i64 0, .int .i64 0, .int .i64 0, .slice none 0 0, .slice none 0 0] 39)).alloc (.cells #[.int .i64 0, .int .i64 0, .int .i64 0, .int .i64 0, .slice none 0 0, .slice none 0 0] 39)).heap.size = w.heap.size + 5) := by show _ = _; simp
  clear h
  unfold nv at *
  go_enter Try.func17, Try.ntmps17
  go_upto_region 16 with (first | (go_at_call 31; refine (HC _ (HN.out.below L1.out)).out.mono ?_; rintro en w2 ⟨Q2, n2, c2, l2, rfl, hO, hP, hb⟩; have L2 := Lib.hid (L1.out.trans (hb.mono L1.out.size)); have X2 := Lib.hid (Cells.below X1.out hb); have Z2 := Lib.hid (Cells.below Z1.out hb); have Y2 := Lib.hid (Cells.below Y1.out hb); have T2 := Lib.hid (Cells.below T1.out hb); obtain ⟨k0, k1⟩ := NBox.cells X2.out; have g0 := Cells.frozen X2.out 0; have g1 := Cells.frozen X2.out 1; have N2 := Lib.hid ((hO.lower L1.out.size).base_ L1.out.size); have NW : Hid (∀ x ∈ l2, ∀ q, Bl x q → w.heap.size + 5 ≤ q) := (fun x hx q hq => by have h1 := hO.low x hx q hq; have h2 := SZ.out; omega); have NB : Hid (∀ q, (Value.slice Q2 n2 c2).ownBlock = some q → w.heap.size + 5 ≤ q) := (fun q hq => by have h1 := (hO.own.lt q hq).1; have h2 := SZ.out; omega); have LP := Lib.hid hP; (try unfold nv); (try unfold mxv); clear hb hO hP) | fail)
  clear k0 k1 g0 g1 L1 X1 P1 Z1 Y1 T1 SZ HC HN
  have bt : Mov [w.heap.size] w2 ((w2.setCell ⟨w.heap.size, 0, none⟩ (.int .i64 (cap2 : Int))).setCell ⟨w.heap.size, 1, none⟩ (.slice Q2 n2 c2)) := Mov.set2 _ _ _ _
  have L3 := Lib.hid (L2.out.trans (bt.up L2.out.size (by omega)))
  have X3 : Hid (NBox ((w2.setCell ⟨w.heap.size, 0, none⟩ (.int .i64 (cap2 : Int))).setCell ⟨w.heap.size, 1, none⟩ (.slice Q2 n2 c2)) (w.heap.size) cap2 Q2 n2 c2) := Cells.set2 X2.out _ _
  have Z3 := Lib.hid (Cells.mov Z2.out bt (by simp; try omega))
  have Y3 := Lib.hid (Cells.mov Y2.out bt (by simp; try omega))
  have T3 := Lib.hid (Cells.mov T2.out bt (by simp; try omega))
  have N3 := Lib.hid (N2.out.mov_ (fun e => by have h1 := NB.out _ e; omega) (fun x hx q hq => by have h1 := NW.out x hx q hq; omega) bt)
  clear bt L2 X2 Z2 Y2 T2 N2
  generalize (w2.setCell ⟨w.heap.size, 0, none⟩ (.int .i64 (cap2 : Int))).setCell ⟨w.heap.size, 1, none⟩ (.slice Q2 n2 c2) = w3 at *
  have L4 := Lib.hid L3.out.drew
  have X4 := Lib.hid (Cells.below X3.out ((Below.refl _ w3).drew))
  have Z4 := Lib.hid (Cells.below Z3.out ((Below.refl _ w3).drew))
  have Y4 := Lib.hid (Cells.below Y3.out ((Below.refl _ w3).drew))
  have T4 := Lib.hid (Cells.below T3.out ((Below.refl _ w3).drew))
  have N4 := Lib.hid (OwnN.below N3.out ((Below.refl _ w3).drew))
  refine wp_region_held_drew (S := fun W => W.cell? ⟨w.heap.size, 0, none⟩ = some (.int .i64 (cap2 : Int)) ∧ W.cell? ⟨w.heap.size, 1, none⟩ = some (.slice Q2 n2 c2) ∧ W.cell? ⟨w.heap.size + 4, 0, none⟩ = some (.int .i64 0) ∧ W.cell? ⟨w.heap.size + 4, 1, none⟩ = some (.int .i64 0) ∧ W.cell? ⟨w.heap.size + 4, 2, none⟩ = some (.int .i64 0) ∧ W.cell? ⟨w.heap.size + 4, 3, none⟩ = some (.int .i64 0) ∧ W.cell? ⟨w.heap.size + 4, 4, none⟩ = some (.slice none 0 0) ∧ W.cell? ⟨w.heap.size + 4, 5, none⟩ = some (.slice none 0 0)) (by kernel_rfl) (And.intro (NBox.cells X4.out).1 (And.intro (NBox.cells X4.out).2 (show _ ∧ _ ∧ _ ∧ _ ∧ _ ∧ _ from MBox.cells (x := zeroX) T4.out))) (fun hHeld => ?_)
  generalize w3.drew = w4 at *
  clear L3 X3 Z3 Y3 T3 N3 
  (first | (refine Reg.take 0 (v := ?_) rfl (by kernel_rfl) (by kernel_rfl) (by kernel_rfl) (fun _ _ _ h => h) (Or.inl ⟨by rfl, ?_⟩) (by assumption) ?_; rotate_left; (focus ((intro W hSW); (try dsimp only at hSW); (try go_split_ands); go_simp; (try (with_reducible rfl)); done))) | (refine Reg.take 0 (v := undef) rfl (by kernel_rfl) (by kernel_rfl) (by kernel_rfl) (fun _ _ _ h => h) (Or.inr ⟨by rfl, rfl⟩) (by assumption) ?_))
  (try simp only [Act.put, List.setIfInBounds_toArray, List.set_cons_zero, List.set_cons_succ])
  (first | (refine Reg.take 1 (v := ?_) rfl (by kernel_rfl) (by kernel_rfl) (by kernel_rfl) (fun _ _ _ h => h) (Or.inl ⟨by rfl, ?_⟩) (by assumption) ?_; rotate_left; (focus ((intro W hSW); (try dsimp only at hSW); (try go_split_ands); go_simp; (try (with_reducible rfl)); done))) | (refine Reg.take 1 (v := undef) rfl (by kernel_rfl) (by kernel_rfl) (by kernel_rfl) (fun _ _ _ h => h) (Or.inr ⟨by rfl, rfl⟩) (by assumption) ?_))
  (try simp only [Act.put, List.setIfInBounds_toArray, List.set_cons_zero, List.set_cons_succ])
  (first | (refine Reg.take 2 (v := ?_) rfl (by kernel_rfl) (by kernel_rfl) (by kernel_rfl) (fun _ _ _ h => h) (Or.inl ⟨by rfl, ?_⟩) (by assumption) ?_; rotate_left; (focus ((intro W hSW); (try dsimp only at hSW); (try go_split_ands); go_simp; (try (with_reducible rfl)); done))) | (refine Reg.take 2 (v := undef) rfl (by kernel_rfl) (by kernel_rfl) (by kernel_rfl) (fun _ _ _ h => h) (Or.inr ⟨by rfl, rfl⟩) (by assumption) ?_))
  (try simp only [Act.put, List.setIfInBounds_toArray, List.set_cons_zero, List.set_cons_succ])
  (first | (refine Reg.take 3 (v := ?_) rfl (by kernel_rfl) (by kernel_rfl) (by kernel_rfl) (fun _ _ _ h => h) (Or.inl ⟨by rfl, ?_⟩) (by assumption) ?_; rotate_left; (focus ((intro W hSW); (try dsimp only at hSW); (try go_split_ands); go_simp; (try (with_reducible rfl)); done))) | (refine Reg.take 3 (v := undef) rfl (by kernel_rfl) (by kernel_rfl) (by kernel_rfl) (fun _ _ _ h => h) (Or.inr ⟨by rfl, rfl⟩) (by assumption) ?_))
  (try simp only [Act.put, List.setIfInBounds_toArray, List.set_cons_zero, List.set_cons_succ])
  have y0 := Cells.cell Z4.out 0
  have f0 := Cells.frozen Z4.out 0
  have y1 := Cells.cell Z4.out 1
  have f1 := Cells.frozen Z4.out 1
  refine Reg.step 4 rfl (by kernel_rfl) (by rfl) (fun K hK => ?_)
  go_simp
  have bt : Mov [w.heap.size + 2] w4 ((w4.setCell ⟨w.heap.size + 2, 0, none⟩ (.int .i64 (cap2 : Int))).setCell ⟨w.heap.size + 2, 1, none⟩ (.slice Q2 n2 c2)) := Mov.set2 _ _ _ _
  have L5 := Lib.hid (L4.out.trans (bt.up L4.out.size (by omega)))
  have X5 := Lib.hid (Cells.mov X4.out bt (by simp; try omega))
  have Z5 : Hid (Cells ((w4.setCell ⟨w.heap.size + 2, 0, none⟩ (.int .i64 (cap2 : Int))).setCell ⟨w.heap.size + 2, 1, none⟩ (.slice Q2 n2 c2)) (w.heap.size + 2) 28 #[.int .i64 (cap2 : Int), .slice Q2 n2 c2]) := Cells.set2 Z4.out _ _
  have Y5 := Lib.hid (Cells.mov Y4.out bt (by simp; try omega))
  have T5 := Lib.hid (Cells.mov T4.out bt (by simp; try omega))
  have N5 := Lib.hid (N4.out.mov Z4.out (by decide) (fun x hx q hq => by have h1 := NW.out x hx q hq; omega) bt)
  clear bt hHeld y0 f0 y1 f1
  clear L4 X4 Z4 Y4 T4 N4 
  generalize (w4.setCell ⟨w.heap.size + 2, 0, none⟩ (.int .i64 (cap2 : Int))).setCell ⟨w.heap.size + 2, 1, none⟩ (.slice Q2 n2 c2) = w5 at *
  refine hK.out _ _ (And.intro (NBox.cells X5.out).1 (And.intro (NBox.cells X5.out).2 (show _ ∧ _ ∧ _ ∧ _ ∧ _ ∧ _ from MBox.cells (x := zeroX) T5.out))) (fun hHeld => ?_)
  clear hK K
  (try simp only [Act.put, List.setIfInBounds_toArray, List.set_cons_zero, List.set_cons_succ])
  have y0 := Cells.cell Y5.out 0
  have f0 := Cells.frozen Y5.out 0
  have y1 := Cells.cell Y5.out 1
  have f1 := Cells.frozen Y5.out 1
  have y2 := Cells.cell Y5.out 2
  have f2 := Cells.frozen Y5.out 2
  have y3 := Cells.cell Y5.out 3
  have f3 := Cells.frozen Y5.out 3
  have y4 := Cells.cell Y5.out 4
  have f4 := Cells.frozen Y5.out 4
  have y5 := Cells.cell Y5.out 5
  have f5 := Cells.frozen Y5.out 5
  refine Reg.step 5 rfl (by kernel_rfl) (by rfl) (fun K hK => ?_)
  go_simp
  have bt : Mov [w.heap.size + 3] w5 ((((((w5.setCell ⟨w.heap.size + 3, 0, none⟩ (.int .i64 0)).setCell ⟨w.heap.size + 3, 1, none⟩ (.int .i64 0)).setCell ⟨w.heap.size + 3, 2, none⟩ (.int .i64 0)).setCell ⟨w.heap.size + 3, 3, none⟩ (.int .i64 0)).setCell ⟨w.heap.size + 3, 4, none⟩ (.slice none 0 0)).setCell ⟨w.heap.size + 3, 5, none⟩ (.slice none 0 0)) := Mov.set6 _ _ _ _ _ _ _ _
  have L6 := Lib.hid (L5.out.trans (bt.up L5.out.size (by omega)))
  have X6 := Lib.hid (Cells.mov X5.out bt (by simp; try omega))
  have Z6 := Lib.hid (Cells.mov Z5.out bt (by simp; try omega))
  have Y6 : Hid (Cells ((((((w5.setCell ⟨w.heap.size + 3, 0, none⟩ (.int .i64 0)).setCell ⟨w.heap.size + 3, 1, none⟩ (.int .i64 0)).setCell ⟨w.heap.size + 3, 2, none⟩ (.int .i64 0)).setCell ⟨w.heap.size + 3, 3, none⟩ (.int .i64 0)).setCell ⟨w.heap.size + 3, 4, none⟩ (.slice none 0 0)).setCell ⟨w.heap.size + 3, 5, none⟩ (.slice none 0 0)) (w.heap.size + 3) 39 #[.int .i64 0, .int .i64 0, .int .i64 0, .int .i64 0, .slice none 0 0, .slice none 0 0]) := Cells.set6 Y5.out _ _ _ _ _ _
  have T6 := Lib.hid (Cells.mov T5.out bt (by simp; try omega))
  have N6 := Lib.hid (N5.out.mov_ (fun e => by have h1 := NB.out _ e; omega) (fun x hx q hq => by have h1 := NW.out x hx q hq; omega) bt)
  clear bt hHeld y0 f0 y1 f1 y2 f2 y3 f3 y4 f4 y5 f5
  clear L5 X5 Z5 Y5 T5 N5 
  generalize (((((w5.setCell ⟨w.heap.size + 3, 0, none⟩ (.int .i64 0)).setCell ⟨w.heap.size + 3, 1, none⟩ (.int .i64 0)).setCell ⟨w.heap.size + 3, 2, none⟩ (.int .i64 0)).setCell ⟨w.heap.size + 3, 3, none⟩ (.int .i64 0)).setCell ⟨w.heap.size + 3, 4, none⟩ (.slice none 0 0)).setCell ⟨w.heap.size + 3, 5, none⟩ (.slice none 0 0) = w6 at *
  refine hK.out _ _ (And.intro (NBox.cells X6.out).1 (And.intro (NBox.cells X6.out).2 (show _ ∧ _ ∧ _ ∧ _ ∧ _ ∧ _ from MBox.cells (x := zeroX) T6.out))) (fun hHeld => ?_)
  clear hK K
  (try simp only [Act.put, List.setIfInBounds_toArray, List.set_cons_zero, List.set_cons_succ])
  (first | (refine Reg.take 6 (v := ?_) rfl (by kernel_rfl) (by kernel_rfl) (by kernel_rfl) (fun _ _ _ h => h) (Or.inl ⟨by rfl, ?_⟩) (by assumption) ?_; rotate_left; (focus ((intro W hSW); (try dsimp only at hSW); (try go_split_ands); go_simp; (try (with_reducible rfl)); done))) | (refine Reg.take 6 (v := undef) rfl (by kernel_rfl) (by kernel_rfl) (by kernel_rfl) (fun _ _ _ h => h) (Or.inr ⟨by rfl, rfl⟩) (by assumption) ?_))
  (try simp only [Act.put, List.setIfInBounds_toArray, List.set_cons_zero, List.set_cons_succ])
  (first | (refine Reg.take 7 (v := ?_) rfl (by kernel_rfl) (by kernel_rfl) (by kernel_rfl) (fun _ _ _ h => h) (Or.inl ⟨by rfl, ?_⟩) (by assumption) ?_; rotate_left; (focus ((intro W hSW); (try dsimp only at hSW); (try go_split_ands); go_simp; (try (with_reducible rfl)); done))) | (refine Reg.take 7 (v := undef) rfl (by kernel_rfl) (by kernel_rfl) (by kernel_rfl) (fun _ _ _ h => h) (Or.inr ⟨by rfl, rfl⟩) (by assumption) ?_))
  (try simp only [Act.put, List.setIfInBounds_toArray, List.set_cons_zero, List.set_cons_succ])
  refine wpAnyH_done (by kernel_rfl) ?_ _
  clear hHeld
  go_wp2_with fail
  refine bodyPost_ret_by (results_cc2 rfl _ _ (w.heap.size + 2) (w.heap.size + 3) _ _ _ _ _ _ _ _ rfl Z6.out Try.underlying28 rfl (by kernel_rfl) rfl Y6.out Try.underlying39 rfl (by kernel_rfl)) rfl ?_
  exact ⟨Q2, n2, c2, l2, zeroX, rfl, N6.out, LP.out, rfl, zero_at _, fun q hq => absurd hq zero_bl, zero_own _ _, fun q hq => absurd hq zero_bl, L6.out⟩

set_option maxRecDepth 100000 in
set_option maxHeartbeats 6400000 in
theorem body_later {w : World} {cap : Nat} {Q : Option Addr} {n c : Nat} {l : List Mx} (h : NetAt w Q n c l) (hn : n ≤ 5000) (L : Option Addr) (m e : Nat) (i : Int) :
    Calls Try.prog 17 #[nv cap Q n c, .agg #[.int .i64 4, .int .i64 i, .slice L m e]] w (GotB w ((laterR cap (l.map Mx.p) i).1, (laterR cap (l.map Mx.p) i).2.1, zM, (laterR cap (l.map Mx.p) i).2.2, 0)) := by
  have HN := Lib.hid h
  have HC := fun W (h : NetAt W Q n c l) => Lib.hid (got_later (cap := cap) h hn i)
  generalize laterR cap (l.map Mx.p) i = R at *
  obtain ⟨cap2, pl, er⟩ := R
  show Calls _ _ _ _ (GotB w (cap2, pl, zM, er, 0))
  have L1 : Hid (Below w.heap.size w (((((w.alloc (.cells #[.int .i64 (cap : Int), .slice Q n c] 28)).alloc (.cells #[.int .i64 4, .int .i64 i, .slice L m e] 35)).alloc (.cells #[.int .i64 0, .slice none 0 0] 28)).alloc (.cells #[.int .i64 0, .int .i64 0, .int .i64 0, .int .i64 0, .slice none 0 0, .slice none 0 0] 39)).alloc (.cells #[.int .i64 0, .int .i64 0, .int .i64 0, .int .i64 0, .slice none 0 0, .slice none 0 0] 39))) := ((((((Below.refl _ w).alloc (by first | exact Nat.le_refl _ | (simp; try omega)) _).alloc (by first | exact Nat.le_refl _ | (simp; try omega)) _).alloc (by first | exact Nat.le_refl _ | (simp; try omega)) _).alloc (by first | exact Nat.le_refl _ | (simp; try omega)) _).alloc (by first | exact Nat.le_refl _ | (simp; try omega)) _)
  have X1 : Hid (Cells (((((w.alloc (.cells #[.int .i64 (cap : Int), .slice Q n c] 28)).alloc (.cells #[.int .i64 4, .int .i64 i, .slice L m e] 35)).alloc (.cells #[.int .i64 0, .slice none 0 0] 28)).alloc (.cells #[.int .i64 0, .int .i64 0, .int .i64 0, .int .i64 0, .slice none 0 0, .slice none 0 0] 39)).alloc (.cells #[.int .i64 0, .int .i64 0, .int .i64 0, .int .i64 0, .slice none 0 0, .slice none 0 0] 39)) (w.heap.size) 28 #[.int .i64 (cap : Int), .slice Q n c]) := by
    have := Cells.new w #[.int .i64 (cap : Int), .slice Q n c] 28
    (try simp only [World.size_alloc] at this)
    exact (Cells.alloc (Cells.alloc (Cells.alloc (Cells.alloc this _) _) _) _)
  have P1 : Hid (Cells (((((w.alloc (.cells #[.int .i64 (cap : Int), .slice Q n c] 28)).alloc (.cells #[.int .i64 4, .int .i64 i, .slice L m e] 35)).alloc (.cells #[.int .i64 0, .slice none 0 0] 28)).alloc (.cells #[.int .i64 0, .int .i64 0, .int .i64 0, .int .i64 0, .slice none 0 0, .slice none 0 0] 39)).alloc (.cells #[.int .i64 0, .int .i64 0, .int .i64 0, .int .i64 0, .slice none 0 0, .slice none 0 0] 39)) (w.heap.size + 1) 35 #[.int .i64 4, .int .i64 i, .slice L m e]) := by
    have := Cells.new (w.alloc (.cells #[.int .i64 (cap : Int), .slice Q n c] 28)) #[.int .i64 4, .int .i64 i, .slice L m e] 35
    (try simp only [World.size_alloc] at this)
    exact (Cells.alloc (Cells.alloc (Cells.alloc this _) _) _)
  have Z1 : Hid (Cells (((((w.alloc (.cells #[.int .i64 (cap : Int), .slice Q n c] 28)).alloc (.cells #[.int .i64 4, .int .i64 i, .slice L m e] 35)).alloc (.cells #[.int .i64 0, .slice none 0 0] 28)).alloc (.cells #[.int .i64 0, .int .i64 0, .int .i64 0, .int .i64 0, .slice none 0 0, .slice none 0 0] 39)).alloc (.cells #[.int .i64 0, .int .i64 0, .int .i64 0, .int .i64 0, .slice none 0 0, .slice none 0 0] 39)) (w.heap.size + 2) 28 #[.int .i64 0, .slice none 0 0]) := by
    have := Cells.new ((w.alloc (.cells #[.int .i64 (cap : Int), .slice Q n c] 28)).alloc (.cells #[.int .i64 4, .int .i64 i, .slice L m e] 35)) #[.int .i64 0, .slice none 0 0] 28
    (try simp only [World.size_alloc] at this)
    exact (Cells.alloc (Cells.alloc this _) _)
  have Y1 : Hid (Cells (((((w.alloc (.cells #[.int .i64 (cap : Int), .slice Q n c] 28)).alloc (.cells #[.int .i64 4, .int .i64 i, .slice L m e] 35)).alloc (.cells #[.int .i64 0, .slice none 0 0] 28)).alloc (.cells #[.int .i64 0, .int .i64 0, .int .i64 0, .int .i64 0, .slice none 0 0, .slice none 0 0] 39)).alloc (.cells #[.int .i64 0, .int .i64 0, .int .i64 0, .int .i64 0, .slice none 0 0, .slice none 0 0] 39)) (w.heap.size + 3) 39 #[.int .i64 0, .int .i64 0, .int .i64 0, .int .i64 0, .slice none 0 0, .slice none 0 0]) := by
    have := Cells.new (((w.alloc (.cells #[.int .i64 (cap : Int), .slice Q n c] 28)).alloc (.cells #[.int .i64 4, .int .i64 i, .slice L m e] 35)).alloc (.cells #[.int .i64 0, .slice none 0 0] 28)) #[.int .i64 0, .int .i64 0, .int .i64 0, .int .i64 0, .slice none 0 0, .slice none 0 0] 39
    (try simp only [World.size_alloc] at this)
    exact (Cells.alloc this _)
  have T1 : Hid (Cells (((((w.alloc (.cells #[.int .i64 (cap : Int), .slice Q n c] 28)).alloc (.cells #[.int .i64 4, .int .i64 i, .slice L m e] 35)).alloc (.cells #[.int .i64 0, .slice none 0 0] 28)).alloc (.cells #[.int .i64 0, .int .i64 0, .int .i64 0, .int .i64 0, .slice none 0 0, .slice none 0 0] 39)).alloc (.cells #[.int .i64 0, .int .i64 0, .int .i64 0, .int .i64 0, .slice none 0 0, .slice none 0 0] 39)) (w.heap.size + 4) 39 #[.int .i64 0, .int .i64 0, .int .i64 0, .int .i64 0, .slice none 0 0, .slice none 0 0]) := by
    have := Cells.new ((((w.alloc (.cells #[.int .i64 (cap : Int), .slice Q n c] 28)).alloc (.cells #[.int .i64 4, .int .i64 i, .slice L m e] 35)).alloc (.cells #[.int .i64 0, .slice none 0 0] 28)).alloc (.cells #[.int .i64 0, .int .i64 0, .int .i64 0, .int .i64 0, .slice none 0 0, .slice none 0 0] 39)) #[.int .i64 0, .int .i64 0, .int .i64 0, .int .i64 0, .slice none 0 0, .slice none 0 0] 39
    (try simp only [World.size_alloc] at this)
    exact this
  have SZ : Hid ((((((w.alloc (.cells #[.int .i64 (cap : Int), .slice Q n c] 28)).alloc (.cells #[.int .i64 4, .int .i64 i, .slice L m e] 35)).alloc (.cells #[.int .i64 0, .slice none 0 0] 28)).alloc (.cells #[.int .i64 0, .int .i64 0, .int .i64 0, .int .i64 0, .slice none 0 0, .slice none 0 0] 39)).alloc (.cells #[.int .i64 0, .int .i64 0, .int .i64 0, .int .i64 0, .slice none 0 0, .slice none 0 0] 39)).heap.size = w.heap.size + 5) := by show _ = _; simp
  clear h
  unfold nv at *
  go_enter Try.func17, Try.ntmps17
  go_upto_region 16 with (first | (go_at_call 29; refine (HC _ (HN.out.below L1.out)).out.mono ?_; rintro en w2 ⟨Q2, n2, c2, l2, rfl, hO, hP, hb⟩; have L2 := Lib.hid (L1.out.trans (hb.mono L1.out.size)); have X2 := Lib.hid (Cells.below X1.out hb); have Z2 := Lib.hid (Cells.below Z1.out hb); have Y2 := Lib.hid (Cells.below Y1.out hb); have T2 := Lib.hid (Cells.below T1.out hb); obtain ⟨k0, k1⟩ := NBox.cells X2.out; have g0 := Cells.frozen X2.out 0; have g1 := Cells.frozen X2.out 1; have N2 := Lib.hid ((hO.lower L1.out.size).base_ L1.out.size); have NW : Hid (∀ x ∈ l2, ∀ q, Bl x q → w.heap.size + 5 ≤ q) := (fun x hx q hq => by have h1 := hO.low x hx q hq; have h2 := SZ.out; omega); have NB : Hid (∀ q, (Value.slice Q2 n2 c2).ownBlock = some q → w.heap.size + 5 ≤ q) := (fun q hq => by have h1 := (hO.own.lt q hq).1; have h2 := SZ.out; omega); have LP := Lib.hid hP; (try unfold nv); (try unfold mxv); clear hb hO hP) | fail)
  clear k0 k1 g0 g1 L1 X1 P1 Z1 Y1 T1 SZ HC HN
  have bt : Mov [w.heap.size] w2 ((w2.setCell ⟨w.heap.size, 0, none⟩ (.int .i64 (cap2 : Int))).setCell ⟨w.heap.size, 1, none⟩ (.slice Q2 n2 c2)) := Mov.set2 _ _ _ _
  have L3 := Lib.hid (L2.out.trans (bt.up L2.out.size (by omega)))
  have X3 : Hid (NBox ((w2.setCell ⟨w.heap.size, 0, none⟩ (.int .i64 (cap2 : Int))).setCell ⟨w.heap.size, 1, none⟩ (.slice Q2 n2 c2)) (w.heap.size) cap2 Q2 n2 c2) := Cells.set2 X2.out _ _
  have Z3 := Lib.hid (Cells.mov Z2.out bt (by simp; try omega))
  have Y3 := Lib.hid (Cells.mov Y2.out bt (by simp; try omega))
  have T3 := Lib.hid (Cells.mov T2.out bt (by simp; try omega))
  have N3 := Lib.hid (N2.out.mov_ (fun e => by have h1 := NB.out _ e; omega) (fun x hx q hq => by have h1 := NW.out x hx q hq; omega) bt)
  clear bt L2 X2 Z2 Y2 T2 N2
  generalize (w2.setCell ⟨w.heap.size, 0, none⟩ (.int .i64 (cap2 : Int))).setCell ⟨w.heap.size, 1, none⟩ (.slice Q2 n2 c2) = w3 at *
  have L4 := Lib.hid L3.out.drew
  have X4 := Lib.hid (Cells.below X3.out ((Below.refl _ w3).drew))
  have Z4 := Lib.hid (Cells.below Z3.out ((Below.refl _ w3).drew))
  have Y4 := Lib.hid (Cells.below Y3.out ((Below.refl _ w3).drew))
  have T4 := Lib.hid (Cells.below T3.out ((Below.refl _ w3).drew))
  have N4 := Lib.hid (OwnN.below N3.out ((Below.refl _ w3).drew))
  refine wp_region_held_drew (S := fun W => W.cell? ⟨w.heap.size, 0, none⟩ = some (.int .i64 (cap2 : Int)) ∧ W.cell? ⟨w.heap.size, 1, none⟩ = some (.slice Q2 n2 c2) ∧ W.cell? ⟨w.heap.size + 4, 0, none⟩ = some (.int .i64 0) ∧ W.cell? ⟨w.heap.size + 4, 1, none⟩ = some (.int .i64 0) ∧ W.cell? ⟨w.heap.size + 4, 2, none⟩ = some (.int .i64 0) ∧ W.cell? ⟨w.heap.size + 4, 3, none⟩ = some (.int .i64 0) ∧ W.cell? ⟨w.heap.size + 4, 4, none⟩ = some (.slice none 0 0) ∧ W.cell? ⟨w.heap.size + 4, 5, none⟩ = some (.slice none 0 0)) (by kernel_rfl) (And.intro (NBox.cells X4.out).1 (And.intro (NBox.cells X4.out).2 (show _ ∧ _ ∧ _ ∧ _ ∧ _ ∧ _ from MBox.cells (x := zeroX) T4.out))) (fun hHeld => ?_)
  generalize w3.drew = w4 at *
  clear L3 X3 Z3 Y3 T3 N3 
  (first | (refine Reg.take 0 (v := ?_) rfl (by kernel_rfl) (by kernel_rfl) (by kernel_rfl) (fun _ _ _ h => h) (Or.inl ⟨by rfl, ?_⟩) (by assumption) ?_; rotate_left; (focus ((intro W hSW); (try dsimp only at hSW); (try go_split_ands); go_simp; (try (with_reducible rfl)); done))) | (refine Reg.take 0 (v := undef) rfl (by kernel_rfl) (by kernel_rfl) (by kernel_rfl) (fun _ _ _ h => h) (Or.inr ⟨by rfl, rfl⟩) (by assumption) ?_))
  (try simp only [Act.put, List.setIfInBounds_toArray, List.set_cons_zero, List.set_cons_succ])
  (first | (refine Reg.take 1 (v := ?_) rfl (by kernel_rfl) (by kernel_rfl) (by kernel_rfl) (fun _ _ _ h => h) (Or.inl ⟨by rfl, ?_⟩) (by assumption) ?_; rotate_left; (focus ((intro W hSW); (try dsimp only at hSW); (try go_split_ands); go_simp; (try (with_reducible rfl)); done))) | (refine Reg.take 1 (v := undef) rfl (by kernel_rfl) (by kernel_rfl) (by kernel_rfl) (fun _ _ _ h => h) (Or.inr ⟨by rfl, rfl⟩) (by assumption) ?_))
  (try simp only [Act.put, List.setIfInBounds_toArray, List.set_cons_zero, List.set_cons_succ])
  (first | (refine Reg.take 2 (v := ?_) rfl (by kernel_rfl) (by kernel_rfl) (by kernel_rfl) (fun _ _ _ h => h) (Or.inl ⟨by rfl, ?_⟩) (by assumption) ?_; rotate_left; (focus ((intro W hSW); (try dsimp only at hSW); (try go_split_ands); go_simp; (try (with_reducible rfl)); done))) | (refine Reg.take 2 (v := undef) rfl (by kernel_rfl) (by kernel_rfl) (by kernel_rfl) (fun _ _ _ h => h) (Or.inr ⟨by rfl, rfl⟩) (by assumption) ?_))
  (try simp only [Act.put, List.setIfInBounds_toArray, List.set_cons_zero, List.set_cons_succ])
  (first | (refine Reg.take 3 (v := ?_) rfl (by kernel_rfl) (by kernel_rfl) (by kernel_rfl) (fun _ _ _ h => h) (Or.inl ⟨by rfl, ?_⟩) (by assumption) ?_; rotate_left; (focus ((intro W hSW); (try dsimp only at hSW); (try go_split_ands); go_simp; (try (with_reducible rfl)); done))) | (refine Reg.take 3 (v := undef) rfl (by kernel_rfl) (by kernel_rfl) (by kernel_rfl) (fun _ _ _ h => h) (Or.inr ⟨by rfl, rfl⟩) (by assumption) ?_))
  (try simp only [Act.put, List.setIfInBounds_toArray, List.set_cons_zero, List.set_cons_succ])
  have y0 := Cells.cell Z4.out 0
  have f0 := Cells.frozen Z4.out 0
  have y1 := Cells.cell Z4.out 1
  have f1 := Cells.frozen Z4.out 1
  refine Reg.step 4 rfl (by kernel_rfl) (by rfl) (fun K hK => ?_)
  go_simp
  have bt : Mov [w.heap.size + 2] w4 ((w4.setCell ⟨w.heap.size + 2, 0, none⟩ (.int .i64 (cap2 : Int))).setCell ⟨w.heap.size + 2, 1, none⟩ (.slice Q2 n2 c2)) := Mov.set2 _ _ _ _
  have L5 := Lib.hid (L4.out.trans (bt.up L4.out.size (by omega)))
  have X5 := Lib.hid (Cells.mov X4.out bt (by simp; try omega))
  have Z5 : Hid (Cells ((w4.setCell ⟨w.heap.size + 2, 0, none⟩ (.int .i64 (cap2 : Int))).setCell ⟨w.heap.size + 2, 1, none⟩ (.slice Q2 n2 c2)) (w.heap.size + 2) 28 #[.int .i64 (cap2 : Int), .slice Q2 n2 c2]) := Cells.set2 Z4.out _ _
  have Y5 := Lib.hid (Cells.mov Y4.out bt (by simp; try omega))
  have T5 := Lib.hid (Cells.mov T4.out bt (by simp; try omega))
  have N5 := Lib.hid (N4.out.mov Z4.out (by decide) (fun x hx q hq => by have h1 := NW.out x hx q hq; omega) bt)
  clear bt hHeld y0 f0 y1 f1
  clear L4 X4 Z4 Y4 T4 N4 
  generalize (w4.setCell ⟨w.heap.size + 2, 0, none⟩ (.int .i64 (cap2 : Int))).setCell ⟨w.heap.size + 2, 1, none⟩ (.slice Q2 n2 c2) = w5 at *
  refine hK.out _ _ (And.intro (NBox.cells X5.out).1 (And.intro (NBox.cells X5.out).2 (show _ ∧ _ ∧ _ ∧ _ ∧ _ ∧ _ from MBox.cells (x := zeroX) T5.out))) (fun hHeld => ?_)
  clear hK K
  (try simp only [Act.put, List.setIfInBounds_toArray, List.set_cons_zero, List.set_cons_succ])
  have y0 := Cells.cell Y5.out 0
  have f0 := Cells.frozen Y5.out 0
  have y1 := Cells.cell Y5.out 1
  have f1 := Cells.frozen Y5.out 1
  have y2 := Cells.cell Y5.out 2
  have f2 := Cells.frozen Y5.out 2
  have y3 := Cells.cell Y5.out 3
  have f3 := Cells.frozen Y5.out 3
  have y4 := Cells.cell Y5.out 4
  have f4 := Cells.frozen Y5.out 4
  have y5 := Cells.cell Y5.out 5
  have f5 := Cells.frozen Y5.out 5
  refine Reg.step 5 rfl (by kernel_rfl) (by rfl) (fun K hK => ?_)
  go_simp
  have bt : Mov [w.heap.size + 3] w5 ((((((w5.setCell ⟨w.heap.size + 3, 0, none⟩ (.int .i64 0)).setCell ⟨w.heap.size + 3, 1, none⟩ (.int .i64 0)).setCell ⟨w.heap.size + 3, 2, none⟩ (.int .i64 0)).setCell ⟨w.heap.size + 3, 3, none⟩ (.int .i64 0)).setCell ⟨w.heap.size + 3, 4, none⟩ (.slice none 0 0)).setCell ⟨w.heap.size + 3, 5, none⟩ (.slice none 0 0)) := Mov.set6 _ _ _ _ _ _ _ _
  have L6 := Lib.hid (L5.out.trans (bt.up L5.out.size (by omega)))
  have X6 := Lib.hid (Cells.mov X5.out bt (by simp; try omega))
  have Z6 := Lib.hid (Cells.mov Z5.out bt (by simp; try omega))
  have Y6 : Hid (Cells ((((((w5.setCell ⟨w.heap.size + 3, 0, none⟩ (.int .i64 0)).setCell ⟨w.heap.size + 3, 1, none⟩ (.int .i64 0)).setCell ⟨w.heap.size + 3, 2, none⟩ (.int .i64 0)).setCell ⟨w.heap.size + 3, 3, none⟩ (.int .i64 0)).setCell ⟨w.heap.size + 3, 4, none⟩ (.slice none 0 0)).setCell ⟨w.heap.size + 3, 5, none⟩ (.slice none 0 0)) (w.heap.size + 3) 39 #[.int .i64 0, .int .i64 0, .int .i64 0, .int .i64 0, .slice none 0 0, .slice none 0 0]) := Cells.set6 Y5.out _ _ _ _ _ _
  have T6 := Lib.hid (Cells.mov T5.out bt (by simp; try omega))
  have N6 := Lib.hid (N5.out.mov_ (fun e => by have h1 := NB.out _ e; omega) (fun x hx q hq => by have h1 := NW.out x hx q hq; omega) bt)
  clear bt hHeld y0 f0 y1 f1 y2 f2 y3 f3 y4 f4 y5 f5
  clear L5 X5 Z5 Y5 T5 N5 
  generalize (((((w5.setCell ⟨w.heap.size + 3, 0, none⟩ (.int .i64 0)).setCell ⟨w.heap.size + 3, 1, none⟩ (.int .i64 0)).setCell ⟨w.heap.size + 3, 2, none⟩ (.int .i64 0)).setCell ⟨w.heap.size + 3, 3, none⟩ (.int .i64 0)).setCell ⟨w.heap.size + 3, 4, none⟩ (.slice none 0 0)).setCell ⟨w.heap.size + 3, 5, none⟩ (.slice none 0 0) = w6 at *
  refine hK.out _ _ (And.intro (NBox.cells X6.out).1 (And.intro (NBox.cells X6.out).2 (show _ ∧ _ ∧ _ ∧ _ ∧ _ ∧ _ from MBox.cells (x := zeroX) T6.out))) (fun hHeld => ?_)
  clear hK K
  (try simp only [Act.put, List.setIfInBounds_toArray, List.set_cons_zero, List.set_cons_succ])
  (first | (refine Reg.take 6 (v := ?_) rfl (by kernel_rfl) (by kernel_rfl) (by kernel_rfl) (fun _ _ _ h => h) (Or.inl ⟨by rfl, ?_⟩) (by assumption) ?_; rotate_left; (focus ((intro W hSW); (try dsimp only at hSW); (try go_split_ands); go_simp; (try (with_reducible rfl)); done))) | (refine Reg.take 6 (v := undef) rfl (by kernel_rfl) (by kernel_rfl) (by kernel_rfl) (fun _ _ _ h => h) (Or.inr ⟨by rfl, rfl⟩) (by assumption) ?_))
  (try simp only [Act.put, List.setIfInBounds_toArray, List.set_cons_zero, List.set_cons_succ])
  (first | (refine Reg.take 7 (v := ?_) rfl (by kernel_rfl) (by kernel_rfl) (by kernel_rfl) (fun _ _ _ h => h) (Or.inl ⟨by rfl, ?_⟩) (by assumption) ?_; rotate_left; (focus ((intro W hSW); (try dsimp only at hSW); (try go_split_ands); go_simp; (try (with_reducible rfl)); done))) | (refine Reg.take 7 (v := undef) rfl (by kernel_rfl) (by kernel_rfl) (by kernel_rfl) (fun _ _ _ h => h) (Or.inr ⟨by rfl, rfl⟩) (by assumption) ?_))
  (try simp only [Act.put, List.setIfInBounds_toArray, List.set_cons_zero, List.set_cons_succ])
  refine wpAnyH_done (by kernel_rfl) ?_ _
  clear hHeld
  go_wp2_with fail
  refine bodyPost_ret_by (results_cc2 rfl _ _ (w.heap.size + 2) (w.heap.size + 3) _ _ _ _ _ _ _ _ rfl Z6.out Try.underlying28 rfl (by kernel_rfl) rfl Y6.out Try.underlying39 rfl (by kernel_rfl)) rfl ?_
  exact ⟨Q2, n2, c2, l2, zeroX, rfl, N6.out, LP.out, rfl, zero_at _, fun q hq => absurd hq zero_bl, zero_own _ _, fun q hq => absurd hq zero_bl, L6.out⟩

set_option maxRecDepth 100000 in
set_option maxHeartbeats 6400000 in
theorem body_cut {w : World} {cap : Nat} {Q : Option Addr} {n c : Nat} {l : List Mx} (h : NetAt w Q n c l) (hn : n ≤ 5000) (L : Option Addr) (m e : Nat) (i : Int) (d : Int) (h0 : d ≠ 0) (h1 : d ≠ 1) (h2 : d ≠ 2) (h3 : d ≠ 3) (h4 : d ≠ 4) :
    Calls Try.prog 17 #[nv cap Q n c, .agg #[.int .i64 d, .int .i64 i, .slice L m e]] w (GotB w ((cutR cap (l.map Mx.p) i).1, (cutR cap (l.map Mx.p) i).2.1, zM, 0, (cutR cap (l.map Mx.p) i).2.2)) := by
  have HN := Lib.hid h
  have HC := fun W (h : NetAt W Q n c l) => Lib.hid (got_cut (cap := cap) h hn i)
  have e0 : (d == 0) = false := by simpa using h0
  have e1 : (d == 1) = false := by simpa using h1
  have e2 : (d == 2) = false := by simpa using h2
  have e3 : (d == 3) = false := by simpa using h3
  have e4 : (d == 4) = false := by simpa using h4
  generalize cutR cap (l.map Mx.p) i = R at *
  obtain ⟨cap2, pl, er⟩ := R
  show Calls _ _ _ _ (GotB w (cap2, pl, zM, 0, er))
  have L1 : Hid (Below w.heap.size w (((((w.alloc (.cells #[.int .i64 (cap : Int), .slice Q n c] 28)).alloc (.cells #[.int .i64 d, .int .i64 i, .slice L m e] 35)).alloc (.cells #[.int .i64 0, .slice none 0 0] 28)).alloc (.cells #[.int .i64 0, .int .i64 0, .int .i64 0, .int .i64 0, .slice none 0 0, .slice none 0 0] 39)).alloc (.cells #[.int .i64 0, .int .i64 0, .int .i64 0, .int .i64 0, .slice none 0 0, .slice none 0 0] 39))) := ((((((Below.refl _ w).alloc (by first | exact Nat.le_refl _ | (simp; try omega)) _).alloc (by first | exact Nat.le_refl _ | (simp; try omega)) _).alloc (by first | exact Nat.le_refl _ | (simp; try omega)) _).alloc (by first | exact Nat.le_refl _ | (simp; try omega)) _).alloc (by first | exact Nat.le_refl _ | (simp; try omega)) _)
  have X1 : Hid (Cells (((((w.alloc (.cells #[.int .i64 (cap : Int), .slice Q n c] 28)).alloc (.cells #[.int .i64 d, .int .i64 i, .slice L m e] 35)).alloc (.cells #[.int .i64 0, .slice none 0 0] 28)).alloc (.cells #[.int .i64 0, .int .i64 0, .int .i64 0, .int .i64 0, .slice none 0 0, .slice none 0 0] 39)).alloc (.cells #[.int .i64 0, .int .i64 0, .int .i64 0, .int .i64 0, .slice none 0 0, .slice none 0 0] 39)) (w.heap.size) 28 #[.int .i64 (cap : Int), .slice Q n c]) := by
    have := Cells.new w #[.int .i64 (cap : Int), .slice Q n c] 28
    (try simp only [World.size_alloc] at this)
    exact (Cells.alloc (Cells.alloc (Cells.alloc (Cells.alloc this _) _) _) _)
  have P1 : Hid (Cells (((((w.alloc (.cells #[.int .i64 (cap : Int), .slice Q n c] 28)).alloc (.cells #[.int .i64 d, .int .i64 i, .slice L m e] 35)).alloc (.cells #[.int .i64 0, .slice none 0 0] 28)).alloc (.cells #[.int .i64 0, .int .i64 0, .int .i64 0, .int .i64 0, .slice none 0 0, .slice none 0 0] 39)).alloc (.cells #[.int .i64 0, .int .i64 0, .int .i64 0, .int .i64 0, .slice none 0 0, .slice none 0 0] 39)) (w.heap.size + 1) 35 #[.int .i64 d, .int .i64 i, .slice L m e]) := by
    have := Cells.new (w.alloc (.cells #[.int .i64 (cap : Int), .slice Q n c] 28)) #[.int .i64 d, .int .i64 i, .slice L m e] 35
    (try simp only [World.size_alloc] at this)
    exact (Cells.alloc (Cells.alloc (Cells.alloc this _) _) _)
  have Z1 : Hid (Cells (((((w.alloc (.cells #[.int .i64 (cap : Int), .slice Q n c] 28)).alloc (.cells #[.int .i64 d, .int .i64 i, .slice L m e] 35)).alloc (.cells #[.int .i64 0, .slice none 0 0] 28)).alloc (.cells #[.int .i64 0, .int .i64 0, .int .i64 0, .int .i64 0, .slice none 0 0, .slice none 0 0] 39)).alloc (.cells #[.int .i64 0, .int .i64 0, .int .i64 0, .int .i64 0, .slice none 0 0, .slice none 0 0] 39)) (w.heap.size + 2) 28 #[.int .i64 0, .slice none 0 0]) := by
    have := Cells.new ((w.alloc (.cells #[.int .i64 (cap : Int), .slice Q n c] 28)).alloc (.cells #[.int .i64 d, .int .i64 i, .slice L m e] 35)) #[.int .i64 0, .slice none 0 0] 28
    (try simp only [World.size_alloc] at this)
    exact (Cells.alloc (Cells.alloc this _) _)
  have Y1 : Hid (Cells (((((w.alloc (.cells #[.int .i64 (cap : Int), .slice Q n c] 28)).alloc (.cells #[.int .i64 d, .int .i64 i, .slice L m e] 35)).alloc (.cells #[.int .i64 0, .slice none 0 0] 28)).alloc (.cells #[.int .i64 0, .int .i64 0, .int .i64 0, .int .i64 0, .slice none 0 0, .slice none 0 0] 39)).alloc (.cells #[.int .i64 0, .int .i64 0, .int .i64 0, .int .i64 0, .slice none 0 0, .slice none 0 0] 39)) (w.heap.size + 3) 39 #[.int .i64 0, .int .i64 0, .int .i64 0, .int .i64 0, .slice none 0 0, .slice none 0 0]) := by
    have := Cells.new (((w.alloc (.cells #[.int .i64 (cap : Int), .slice Q n c] 28)).alloc (.cells #[.int .i64 d, .int .i64 i, .slice L m e] 35)).alloc (.cells #[.int .i64 0, .slice none 0 0] 28)) #[.int .i64 0, .int .i64 0, .int .i64 0, .int .i64 0, .slice none 0 0, .slice none 0 0] 39
    (try simp only [World.size_alloc] at this)
    exact (Cells.alloc this _)
  have T1 : Hid (Cells (((((w.alloc (.cells #[.int .i64 (cap : Int), .slice Q n c] 28)).alloc (.cells #[.int .i64 d, .int .i64 i, .slice L m e] 35)).alloc (.cells #[.int .i64 0, .slice none 0 0] 28)).alloc (.cells #[.int .i64 0, .int .i64 0, .int .i64 0, .int .i64 0, .slice none 0 0, .slice none 0 0] 39)).alloc (.cells #[.int .i64 0, .int .i64 0, .int .i64 0, .int .i64 0, .slice none 0 0, .slice none 0 0] 39)) (w.heap.size + 4) 39 #[.int .i64 0, .int .i64 0, .int .i64 0, .int .i64 0, .slice none 0 0, .slice none 0 0]) := by
    have := Cells.new ((((w.alloc (.cells #[.int .i64 (cap : Int), .slice Q n c] 28)).alloc (.cells #[.int .i64 d, .int .i64 i, .slice L m e] 35)).alloc (.cells #[.int .i64 0, .slice none 0 0] 28)).alloc (.cells #[.int .i64 0, .int .i64 0, .int .i64 0, .int .i64 0, .slice none 0 0, .slice none 0 0] 39)) #[.int .i64 0, .int .i64 0, .int .i64 0, .int .i64 0, .slice none 0 0, .slice none 0 0] 39
    (try simp only [World.size_alloc] at this)
    exact this
  have SZ : Hid ((((((w.alloc (.cells #[.int .i64 (cap : Int), .slice Q n c] 28)).alloc (.cells #[.int .i64 d, .int .i64 i, .slice L m e] 35)).alloc (.cells #[.int .i64 0, .slice none 0 0] 28)).alloc (.cells #[.int .i64 0, .int .i64 0, .int .i64 0, .int .i64 0, .slice none 0 0, .slice none 0 0] 39)).alloc (.cells #[.int .i64 0, .int .i64 0, .int .i64 0, .int .i64 0, .slice none 0 0, .slice none 0 0] 39)).heap.size = w.heap.size + 5) := by show _ = _; simp
  clear h
  unfold nv at *
  go_enter Try.func17, Try.ntmps17
  go_upto_region 16 with (first | (go_at_call 33; refine (HC _ (HN.out.below L1.out)).out.mono ?_; rintro en w2 ⟨Q2, n2, c2, l2, rfl, hO, hP, hb⟩; have L2 := Lib.hid (L1.out.trans (hb.mono L1.out.size)); have X2 := Lib.hid (Cells.below X1.out hb); have Z2 := Lib.hid (Cells.below Z1.out hb); have Y2 := Lib.hid (Cells.below Y1.out hb); have T2 := Lib.hid (Cells.below T1.out hb); obtain ⟨k0, k1⟩ := NBox.cells X2.out; have g0 := Cells.frozen X2.out 0; have g1 := Cells.frozen X2.out 1; have N2 := Lib.hid ((hO.lower L1.out.size).base_ L1.out.size); have NW : Hid (∀ x ∈ l2, ∀ q, Bl x q → w.heap.size + 5 ≤ q) := (fun x hx q hq => by have h1 := hO.low x hx q hq; have h2 := SZ.out; omega); have NB : Hid (∀ q, (Value.slice Q2 n2 c2).ownBlock = some q → w.heap.size + 5 ≤ q) := (fun q hq => by have h1 := (hO.own.lt q hq).1; have h2 := SZ.out; omega); have LP := Lib.hid hP; (try unfold nv); (try unfold mxv); clear hb hO hP) | fail)
  clear k0 k1 g0 g1 L1 X1 P1 Z1 Y1 T1 SZ HC HN
  have bt : Mov [w.heap.size] w2 ((w2.setCell ⟨w.heap.size, 0, none⟩ (.int .i64 (cap2 : Int))).setCell ⟨w.heap.size, 1, none⟩ (.slice Q2 n2 c2)) := Mov.set2 _ _ _ _
  have L3 := Lib.hid (L2.out.trans (bt.up L2.out.size (by omega)))
  have X3 : Hid (NBox ((w2.setCell ⟨w.heap.size, 0, none⟩ (.int .i64 (cap2 : Int))).setCell ⟨w.heap.size, 1, none⟩ (.slice Q2 n2 c2)) (w.heap.size) cap2 Q2 n2 c2) := Cells.set2 X2.out _ _
  have Z3 := Lib.hid (Cells.mov Z2.out bt (by simp; try omega))
  have Y3 := Lib.hid (Cells.mov Y2.out bt (by simp; try omega))
  have T3 := Lib.hid (Cells.mov T2.out bt (by simp; try omega))
  have N3 := Lib.hid (N2.out.mov_ (fun e => by have h1 := NB.out _ e; omega) (fun x hx q hq => by have h1 := NW.out x hx q hq; omega) bt)
  clear bt L2 X2 Z2 Y2 T2 N2
  generalize (w2.setCell ⟨w.heap.size, 0, none⟩ (.int .i64 (cap2 : Int))).setCell ⟨w.heap.size, 1, none⟩ (.slice Q2 n2 c2) = w3 at *
  have L4 := Lib.hid L3.out.drew
  have X4 := Lib.hid (Cells.below X3.out ((Below.refl _ w3).drew))
  have Z4 := Lib.hid (Cells.below Z3.out ((Below.refl _ w3).drew))
  have Y4 := Lib.hid (Cells.below Y3.out ((Below.refl _ w3).drew))
  have T4 := Lib.hid (Cells.below T3.out ((Below.refl _ w3).drew))
  have N4 := Lib.hid (OwnN.below N3.out ((Below.refl _ w3).drew))
  refine wp_region_held_drew (S := fun W => W.cell? ⟨w.heap.size, 0, none⟩ = some (.int .i64 (cap2 : Int)) ∧ W.cell? ⟨w.heap.size, 1, none⟩ = some (.slice Q2 n2 c2) ∧ W.cell? ⟨w.heap.size + 4, 0, none⟩ = some (.int .i64 0) ∧ W.cell? ⟨w.heap.size + 4, 1, none⟩ = some (.int .i64 0) ∧ W.cell? ⟨w.heap.size + 4, 2, none⟩ = some (.int .i64 0) ∧ W.cell? ⟨w.heap.size + 4, 3, none⟩ = some (.int .i64 0) ∧ W.cell? ⟨w.heap.size + 4, 4, none⟩ = some (.slice none 0 0) ∧ W.cell? ⟨w.heap.size + 4, 5, none⟩ = some (.slice none 0 0)) (by kernel_rfl) (And.intro (NBox.cells X4.out).1 (And.intro (NBox.cells X4.out).2 (show _ ∧ _ ∧ _ ∧ _ ∧ _ ∧ _ from MBox.cells (x := zeroX) T4.out))) (fun hHeld => ?_)
  generalize w3.drew = w4 at *
  clear L3 X3 Z3 Y3 T3 N3 
  (first | (refine Reg.take 0 (v := ?_) rfl (by kernel_rfl) (by kernel_rfl) (by kernel_rfl) (fun _ _ _ h => h) (Or.inl ⟨by rfl, ?_⟩) (by assumption) ?_; rotate_left; (focus ((intro W hSW); (try dsimp only at hSW); (try go_split_ands); go_simp; (try (with_reducible rfl)); done))) | (refine Reg.take 0 (v := undef) rfl (by kernel_rfl) (by kernel_rfl) (by kernel_rfl) (fun _ _ _ h => h) (Or.inr ⟨by rfl, rfl⟩) (by assumption) ?_))
  (try simp only [Act.put, List.setIfInBounds_toArray, List.set_cons_zero, List.set_cons_succ])
  (first | (refine Reg.take 1 (v := ?_) rfl (by kernel_rfl) (by kernel_rfl) (by kernel_rfl) (fun _ _ _ h => h) (Or.inl ⟨by rfl, ?_⟩) (by assumption) ?_; rotate_left; (focus ((intro W hSW); (try dsimp only at hSW); (try go_split_ands); go_simp; (try (with_reducible rfl)); done))) | (refine Reg.take 1 (v := undef) rfl (by kernel_rfl) (by kernel_rfl) (by kernel_rfl) (fun _ _ _ h => h) (Or.inr ⟨by rfl, rfl⟩) (by assumption) ?_))
  (try simp only [Act.put, List.setIfInBounds_toArray, List.set_cons_zero, List.set_cons_succ])
  (first | (refine Reg.take 2 (v := ?_) rfl (by kernel_rfl) (by kernel_rfl) (by kernel_rfl) (fun _ _ _ h => h) (Or.inl ⟨by rfl, ?_⟩) (by assumption) ?_; rotate_left; (focus ((intro W hSW); (try dsimp only at hSW); (try go_split_ands); go_simp; (try (with_reducible rfl)); done))) | (refine Reg.take 2 (v := undef) rfl (by kernel_rfl) (by kernel_rfl) (by kernel_rfl) (fun _ _ _ h => h) (Or.inr ⟨by rfl, rfl⟩) (by assumption) ?_))
  (try simp only [Act.put, List.setIfInBounds_toArray, List.set_cons_zero, List.set_cons_succ])
  (first | (refine Reg.take 3 (v := ?_) rfl (by kernel_rfl) (by kernel_rfl) (by kernel_rfl) (fun _ _ _ h => h) (Or.inl ⟨by rfl, ?_⟩) (by assumption) ?_; rotate_left; (focus ((intro W hSW); (try dsimp only at hSW); (try go_split_ands); go_simp; (try (with_reducible rfl)); done))) | (refine Reg.take 3 (v := undef) rfl (by kernel_rfl) (by kernel_rfl) (by kernel_rfl) (fun _ _ _ h => h) (Or.inr ⟨by rfl, rfl⟩) (by assumption) ?_))
  (try simp only [Act.put, List.setIfInBounds_toArray, List.set_cons_zero, List.set_cons_succ])
  have y0 := Cells.cell Z4.out 0
  have f0 := Cells.frozen Z4.out 0
  have y1 := Cells.cell Z4.out 1
  have f1 := Cells.frozen Z4.out 1
  refine Reg.step 4 rfl (by kernel_rfl) (by rfl) (fun K hK => ?_)
  go_simp
  have bt : Mov [w.heap.size + 2] w4 ((w4.setCell ⟨w.heap.size + 2, 0, none⟩ (.int .i64 (cap2 : Int))).setCell ⟨w.heap.size + 2, 1, none⟩ (.slice Q2 n2 c2)) := Mov.set2 _ _ _ _
  have L5 := Lib.hid (L4.out.trans (bt.up L4.out.size (by omega)))
  have X5 := Lib.hid (Cells.mov X4.out bt (by simp; try omega))
  have Z5 : Hid (Cells ((w4.setCell ⟨w.heap.size + 2, 0, none⟩ (.int .i64 (cap2 : Int))).setCell ⟨w.heap.size + 2, 1, none⟩ (.slice Q2 n2 c2)) (w.heap.size + 2) 28 #[.int .i64 (cap2 : Int), .slice Q2 n2 c2]) := Cells.set2 Z4.out _ _
  have Y5 := Lib.hid (Cells.mov Y4.out bt (by simp; try omega))
  have T5 := Lib.hid (Cells.mov T4.out bt (by simp; try omega))
  have N5 := Lib.hid (N4.out.mov Z4.out (by decide) (fun x hx q hq => by have h1 := NW.out x hx q hq; omega) bt)
  clear bt hHeld y0 f0 y1 f1
  clear L4 X4 Z4 Y4 T4 N4 
  generalize (w4.setCell ⟨w.heap.size + 2, 0, none⟩ (.int .i64 (cap2 : Int))).setCell ⟨w.heap.size + 2, 1, none⟩ (.slice Q2 n2 c2) = w5 at *
  refine hK.out _ _ (And.intro (NBox.cells X5.out).1 (And.intro (NBox.cells X5.out).2 (show _ ∧ _ ∧ _ ∧ _ ∧ _ ∧ _ from MBox.cells (x := zeroX) T5.out))) (fun hHeld => ?_)
  clear hK K
  (try simp only [Act.put, List.setIfInBounds_toArray, List.set_cons_zero, List.set_cons_succ])
  have y0 := Cells.cell Y5.out 0
  have f0 := Cells.frozen Y5.out 0
  have y1 := Cells.cell Y5.out 1
  have f1 := Cells.frozen Y5.out 1
  have y2 := Cells.cell Y5.out 2
  have f2 := Cells.frozen Y5.out 2
  have y3 := Cells.cell Y5.out 3
  have f3 := Cells.frozen Y5.out 3
  have y4 := Cells.cell Y5.out 4
  have f4 := Cells.frozen Y5.out 4
  have y5 := Cells.cell Y5.out 5
  have f5 := Cells.frozen Y5.out 5
  refine Reg.step 5 rfl (by kernel_rfl) (by rfl) (fun K hK => ?_)
  go_simp
  have bt : Mov [w.heap.size + 3] w5 ((((((w5.setCell ⟨w.heap.size + 3, 0, none⟩ (.int .i64 0)).setCell ⟨w.heap.size + 3, 1, none⟩ (.int .i64 0)).setCell ⟨w.heap.size + 3, 2, none⟩ (.int .i64 0)).setCell ⟨w.heap.size + 3, 3, none⟩ (.int .i64 0)).setCell ⟨w.heap.size + 3, 4, none⟩ (.slice none 0 0)).setCell ⟨w.heap.size + 3, 5, none⟩ (.slice none 0 0)) := Mov.set6 _ _ _ _ _ _ _ _
  have L6 := Lib.hid (L5.out.trans (bt.up L5.out.size (by omega)))
  have X6 := Lib.hid (Cells.mov X5.out bt (by simp; try omega))
  have Z6 := Lib.hid (Cells.mov Z5.out bt (by simp; try omega))
  have Y6 : Hid (Cells ((((((w5.setCell ⟨w.heap.size + 3, 0, none⟩ (.int .i64 0)).setCell ⟨w.heap.size + 3, 1, none⟩ (.int .i64 0)).setCell ⟨w.heap.size + 3, 2, none⟩ (.int .i64 0)).setCell ⟨w.heap.size + 3, 3, none⟩ (.int .i64 0)).setCell ⟨w.heap.size + 3, 4, none⟩ (.slice none 0 0)).setCell ⟨w.heap.size + 3, 5, none⟩ (.slice none 0 0)) (w.heap.size + 3) 39 #[.int .i64 0, .int .i64 0, .int .i64 0, .int .i64 0, .slice none 0 0, .slice none 0 0]) := Cells.set6 Y5.out _ _ _ _ _ _
  have T6 := Lib.hid (Cells.mov T5.out bt (by simp; try omega))
  have N6 := Lib.hid (N5.out.mov_ (fun e => by have h1 := NB.out _ e; omega) (fun x hx q hq => by have h1 := NW.out x hx q hq; omega) bt)
  clear bt hHeld y0 f0 y1 f1 y2 f2 y3 f3 y4 f4 y5 f5
  clear L5 X5 Z5 Y5 T5 N5 
  generalize (((((w5.setCell ⟨w.heap.size + 3, 0, none⟩ (.int .i64 0)).setCell ⟨w.heap.size + 3, 1, none⟩ (.int .i64 0)).setCell ⟨w.heap.size + 3, 2, none⟩ (.int .i64 0)).setCell ⟨w.heap.size + 3, 3, none⟩ (.int .i64 0)).setCell ⟨w.heap.size + 3, 4, none⟩ (.slice none 0 0)).setCell ⟨w.heap.size + 3, 5, none⟩ (.slice none 0 0) = w6 at *
  refine hK.out _ _ (And.intro (NBox.cells X6.out).1 (And.intro (NBox.cells X6.out).2 (show _ ∧ _ ∧ _ ∧ _ ∧ _ ∧ _ from MBox.cells (x := zeroX) T6.out))) (fun hHeld => ?_)
  clear hK K
  (try simp only [Act.put, List.setIfInBounds_toArray, List.set_cons_zero, List.set_cons_succ])
  (first | (refine Reg.take 6 (v := ?_) rfl (by kernel_rfl) (by kernel_rfl) (by kernel_rfl) (fun _ _ _ h => h) (Or.inl ⟨by rfl, ?_⟩) (by assumption) ?_; rotate_left; (focus ((intro W hSW); (try dsimp only at hSW); (try go_split_ands); go_simp; (try (with_reducible rfl)); done))) | (refine Reg.take 6 (v := undef) rfl (by kernel_rfl) (by kernel_rfl) (by kernel_rfl) (fun _ _ _ h => h) (Or.inr ⟨by rfl, rfl⟩) (by assumption) ?_))
  (try simp only [Act.put, List.setIfInBounds_toArray, List.set_cons_zero, List.set_cons_succ])
  (first | (refine Reg.take 7 (v := ?_) rfl (by kernel_rfl) (by kernel_rfl) (by kernel_rfl) (fun _ _ _ h => h) (Or.inl ⟨by rfl, ?_⟩) (by assumption) ?_; rotate_left; (focus ((intro W hSW); (try dsimp only at hSW); (try go_split_ands); go_simp; (try (with_reducible rfl)); done))) | (refine Reg.take 7 (v := undef) rfl (by kernel_rfl) (by kernel_rfl) (by kernel_rfl) (fun _ _ _ h => h) (Or.inr ⟨by rfl, rfl⟩) (by assumption) ?_))
  (try simp only [Act.put, List.setIfInBounds_toArray, List.set_cons_zero, List.set_cons_succ])
  refine wpAnyH_done (by kernel_rfl) ?_ _
  clear hHeld
  go_wp2_with fail
  refine bodyPost_ret_by (results_cc2 rfl _ _ (w.heap.size + 2) (w.heap.size + 3) _ _ _ _ _ _ _ _ rfl Z6.out Try.underlying28 rfl (by kernel_rfl) rfl Y6.out Try.underlying39 rfl (by kernel_rfl)) rfl ?_
  exact ⟨Q2, n2, c2, l2, zeroX, rfl, N6.out, LP.out, rfl, zero_at _, fun q hq => absurd hq zero_bl, zero_own _ _, fun q hq => absurd hq zero_bl, L6.out⟩

set_option maxRecDepth 100000 in
set_option maxHeartbeats 6400000 in
theorem body_send {w : World} {cap : Nat} {Q : Option Addr} {n c : Nat} {l : List Mx} (h : NetAt w Q n c l) (hn : n ≤ 5000) (hcap : cap ≤ 5000) {L : Option Addr} {m e : Nat} {ls : List Mx} (h2 : NetAt w L m e ls) (i : Int) :
    Calls Try.prog 17 #[nv cap Q n c, .agg #[.int .i64 0, .int .i64 i, .slice L m e]] w (GotB w ((sendR cap (l.map Mx.p) (ls.map Mx.p)).1, (sendR cap (l.map Mx.p) (ls.map Mx.p)).2.1, zM, 0, (sendR cap (l.map Mx.p) (ls.map Mx.p)).2.2)) := by
  have HN := Lib.hid h
  have HL := Lib.hid h2
  have HC := fun W (h : NetAt W Q n c l) (h2 : NetAt W L m e ls) => Lib.hid (got_send (cap := cap) h hn hcap h2)
  generalize sendR cap (l.map Mx.p) (ls.map Mx.p) = R at *
  obtain ⟨cap2, pl, er⟩ := R
  show Calls _ _ _ _ (GotB w (cap2, pl, zM, 0, er))
  have L1 : Hid (Below w.heap.size w (((((w.alloc (.cells #[.int .i64 (cap : Int), .slice Q n c] 28)).alloc (.cells #[.int .i64 0, .int .i64 i, .slice L m e] 35)).alloc (.cells #[.int .i64 0, .slice none 0 0] 28)).alloc (.cells #[.int .i64 0, .int .i64 0, .int .i64 0, .int .i64 0, .slice none 0 0, .slice none 0 0] 39)).alloc (.cells #[.int .i64 0, .int .i64 0, .int .i64 0, .int .i64 0, .slice none 0 0, .slice none 0 0] 39))) := ((((((Below.refl _ w).alloc (by first | exact Nat.le_refl _ | (simp; try omega)) _).alloc (by first | exact Nat.le_refl _ | (simp; try omega)) _).alloc (by first | exact Nat.le_refl _ | (simp; try omega)) _).alloc (by first | exact Nat.le_refl _ | (simp; try omega)) _).alloc (by first | exact Nat.le_refl _ | (simp; try omega)) _)
  have X1 : Hid (Cells (((((w.alloc (.cells #[.int .i64 (cap : Int), .slice Q n c] 28)).alloc (.cells #[.int .i64 0, .int .i64 i, .slice L m e] 35)).alloc (.cells #[.int .i64 0, .slice none 0 0] 28)).alloc (.cells #[.int .i64 0, .int .i64 0, .int .i64 0, .int .i64 0, .slice none 0 0, .slice none 0 0] 39)).alloc (.cells #[.int .i64 0, .int .i64 0, .int .i64 0, .int .i64 0, .slice none 0 0, .slice none 0 0] 39)) (w.heap.size) 28 #[.int .i64 (cap : Int), .slice Q n c]) := by
    have := Cells.new w #[.int .i64 (cap : Int), .slice Q n c] 28
    (try simp only [World.size_alloc] at this)
    exact (Cells.alloc (Cells.alloc (Cells.alloc (Cells.alloc this _) _) _) _)
  have P1 : Hid (Cells (((((w.alloc (.cells #[.int .i64 (cap : Int), .slice Q n c] 28)).alloc (.cells #[.int .i64 0, .int .i64 i, .slice L m e] 35)).alloc (.cells #[.int .i64 0, .slice none 0 0] 28)).alloc (.cells #[.int .i64 0, .int .i64 0, .int .i64 0, .int .i64 0, .slice none 0 0, .slice none 0 0] 39)).alloc (.cells #[.int .i64 0, .int .i64 0, .int .i64 0, .int .i64 0, .slice none 0 0, .slice none 0 0] 39)) (w.heap.size + 1) 35 #[.int .i64 0, .int .i64 i, .slice L m e]) := by
    have := Cells.new (w.alloc (.cells #[.int .i64 (cap : Int), .slice Q n c] 28)) #[.int .i64 0, .int .i64 i, .slice L m e] 35
    (try simp only [World.size_alloc] at this)
    exact (Cells.alloc (Cells.alloc (Cells.alloc this _) _) _)
  have Z1 : Hid (Cells (((((w.alloc (.cells #[.int .i64 (cap : Int), .slice Q n c] 28)).alloc (.cells #[.int .i64 0, .int .i64 i, .slice L m e] 35)).alloc (.cells #[.int .i64 0, .slice none 0 0] 28)).alloc (.cells #[.int .i64 0, .int .i64 0, .int .i64 0, .int .i64 0, .slice none 0 0, .slice none 0 0] 39)).alloc (.cells #[.int .i64 0, .int .i64 0, .int .i64 0, .int .i64 0, .slice none 0 0, .slice none 0 0] 39)) (w.heap.size + 2) 28 #[.int .i64 0, .slice none 0 0]) := by
    have := Cells.new ((w.alloc (.cells #[.int .i64 (cap : Int), .slice Q n c] 28)).alloc (.cells #[.int .i64 0, .int .i64 i, .slice L m e] 35)) #[.int .i64 0, .slice none 0 0] 28
    (try simp only [World.size_alloc] at this)
    exact (Cells.alloc (Cells.alloc this _) _)
  have Y1 : Hid (Cells (((((w.alloc (.cells #[.int .i64 (cap : Int), .slice Q n c] 28)).alloc (.cells #[.int .i64 0, .int .i64 i, .slice L m e] 35)).alloc (.cells #[.int .i64 0, .slice none 0 0] 28)).alloc (.cells #[.int .i64 0, .int .i64 0, .int .i64 0, .int .i64 0, .slice none 0 0, .slice none 0 0] 39)).alloc (.cells #[.int .i64 0, .int .i64 0, .int .i64 0, .int .i64 0, .slice none 0 0, .slice none 0 0] 39)) (w.heap.size + 3) 39 #[.int .i64 0, .int .i64 0, .int .i64 0, .int .i64 0, .slice none 0 0, .slice none 0 0]) := by
    have := Cells.new (((w.alloc (.cells #[.int .i64 (cap : Int), .slice Q n c] 28)).alloc (.cells #[.int .i64 0, .int .i64 i, .slice L m e] 35)).alloc (.cells #[.int .i64 0, .slice none 0 0] 28)) #[.int .i64 0, .int .i64 0, .int .i64 0, .int .i64 0, .slice none 0 0, .slice none 0 0] 39
    (try simp only [World.size_alloc] at this)
    exact (Cells.alloc this _)
  have T1 : Hid (Cells (((((w.alloc (.cells #[.int .i64 (cap : Int), .slice Q n c] 28)).alloc (.cells #[.int .i64 0, .int .i64 i, .slice L m e] 35)).alloc (.cells #[.int .i64 0, .slice none 0 0] 28)).alloc (.cells #[.int .i64 0, .int .i64 0, .int .i64 0, .int .i64 0, .slice none 0 0, .slice none 0 0] 39)).alloc (.cells #[.int .i64 0, .int .i64 0, .int .i64 0, .int .i64 0, .slice none 0 0, .slice none 0 0] 39)) (w.heap.size + 4) 39 #[.int .i64 0, .int .i64 0, .int .i64 0, .int .i64 0, .slice none 0 0, .slice none 0 0]) := by
    have := Cells.new ((((w.alloc (.cells #[.int .i64 (cap : Int), .slice Q n c] 28)).alloc (.cells #[.int .i64 0, .int .i64 i, .slice L m e] 35)).alloc (.cells #[.int .i64 0, .slice none 0 0] 28)).alloc (.cells #[.int .i64 0, .int .i64 0, .int .i64 0, .int .i64 0, .slice none 0 0, .slice none 0 0] 39)) #[.int .i64 0, .int .i64 0, .int .i64 0, .int .i64 0, .slice none 0 0, .slice none 0 0] 39
    (try simp only [World.size_alloc] at this)
    exact this
  have SZ : Hid ((((((w.alloc (.cells #[.int .i64 (cap : Int), .slice Q n c] 28)).alloc (.cells #[.int .i64 0, .int .i64 i, .slice L m e] 35)).alloc (.cells #[.int .i64 0, .slice none 0 0] 28)).alloc (.cells #[.int .i64 0, .int .i64 0, .int .i64 0, .int .i64 0, .slice none 0 0, .slice none 0 0] 39)).alloc (.cells #[.int .i64 0, .int .i64 0, .int .i64 0, .int .i64 0, .slice none 0 0, .slice none 0 0] 39)).heap.size = w.heap.size + 5) := by show _ = _; simp
  clear h
  unfold nv at *
  go_enter Try.func17, Try.ntmps17
  go_upto_region 16 with (first | (go_at_call 27; refine (HC _ (HN.out.below L1.out) (HL.out.below L1.out)).out.mono ?_; rintro en w2 ⟨Q2, n2, c2, l2, rfl, hO, hP, hb⟩; have L2 := Lib.hid (L1.out.trans (hb.mono L1.out.size)); have X2 := Lib.hid (Cells.below X1.out hb); have Z2 := Lib.hid (Cells.below Z1.out hb); have Y2 := Lib.hid (Cells.below Y1.out hb); have T2 := Lib.hid (Cells.below T1.out hb); obtain ⟨k0, k1⟩ := NBox.cells X2.out; have g0 := Cells.frozen X2.out 0; have g1 := Cells.frozen X2.out 1; have N2 := Lib.hid ((hO.lower L1.out.size).base_ L1.out.size); have NW : Hid (∀ x ∈ l2, ∀ q, Bl x q → w.heap.size + 5 ≤ q) := (fun x hx q hq => by have h1 := hO.low x hx q hq; have h2 := SZ.out; omega); have NB : Hid (∀ q, (Value.slice Q2 n2 c2).ownBlock = some q → w.heap.size + 5 ≤ q) := (fun q hq => by have h1 := (hO.own.lt q hq).1; have h2 := SZ.out; omega); have LP := Lib.hid hP; (try unfold nv); (try unfold mxv); clear hb hO hP) | fail)
  clear k0 k1 g0 g1 L1 X1 P1 Z1 Y1 T1 SZ HC HN
  have bt : Mov [w.heap.size] w2 ((w2.setCell ⟨w.heap.size, 0, none⟩ (.int .i64 (cap2 : Int))).setCell ⟨w.heap.size, 1, none⟩ (.slice Q2 n2 c2)) := Mov.set2 _ _ _ _
  have L3 := Lib.hid (L2.out.trans (bt.up L2.out.size (by omega)))
  have X3 : Hid (NBox ((w2.setCell ⟨w.heap.size, 0, none⟩ (.int .i64 (cap2 : Int))).setCell ⟨w.heap.size, 1, none⟩ (.slice Q2 n2 c2)) (w.heap.size) cap2 Q2 n2 c2) := Cells.set2 X2.out _ _
  have Z3 := Lib.hid (Cells.mov Z2.out bt (by simp; try omega))
  have Y3 := Lib.hid (Cells.mov Y2.out bt (by simp; try omega))
  have T3 := Lib.hid (Cells.mov T2.out bt (by simp; try omega))
  have N3 := Lib.hid (N2.out.mov_ (fun e => by have h1 := NB.out _ e; omega) (fun x hx q hq => by have h1 := NW.out x hx q hq; omega) bt)
  clear bt L2 X2 Z2 Y2 T2 N2
  generalize (w2.setCell ⟨w.heap.size, 0, none⟩ (.int .i64 (cap2 : Int))).setCell ⟨w.heap.size, 1, none⟩ (.slice Q2 n2 c2) = w3 at *
  have L4 := Lib.hid L3.out.drew
  have X4 := Lib.hid (Cells.below X3.out ((Below.refl _ w3).drew))
  have Z4 := Lib.hid (Cells.below Z3.out ((Below.refl _ w3).drew))
  have Y4 := Lib.hid (Cells.below Y3.out ((Below.refl _ w3).drew))
  have T4 := Lib.hid (Cells.below T3.out ((Below.refl _ w3).drew))
  have N4 := Lib.hid (OwnN.below N3.out ((Below.refl _ w3).drew))
  refine wp_region_held_drew (S := fun W => W.cell? ⟨w.heap.size, 0, none⟩ = some (.int .i64 (cap2 : Int)) ∧ W.cell? ⟨w.heap.size, 1, none⟩ = some (.slice Q2 n2 c2) ∧ W.cell? ⟨w.heap.size + 4, 0, none⟩ = some (.int .i64 0) ∧ W.cell? ⟨w.heap.size + 4, 1, none⟩ = some (.int .i64 0) ∧ W.cell? ⟨w.heap.size + 4, 2, none⟩ = some (.int .i64 0) ∧ W.cell? ⟨w.heap.size + 4, 3, none⟩ = some (.int .i64 0) ∧ W.cell? ⟨w.heap.size + 4, 4, none⟩ = some (.slice none 0 0) ∧ W.cell? ⟨w.heap.size + 4, 5, none⟩ = some (.slice none 0 0)) (by kernel_rfl) (And.intro (NBox.cells X4.out).1 (And.intro (NBox.cells X4.out).2 (show _ ∧ _ ∧ _ ∧ _ ∧ _ ∧ _ from MBox.cells (x := zeroX) T4.out))) (fun hHeld => ?_)
  generalize w3.drew = w4 at *
  clear L3 X3 Z3 Y3 T3 N3 
  (first | (refine Reg.take 0 (v := ?_) rfl (by kernel_rfl) (by kernel_rfl) (by kernel_rfl) (fun _ _ _ h => h) (Or.inl ⟨by rfl, ?_⟩) (by assumption) ?_; rotate_left; (focus ((intro W hSW); (try dsimp only at hSW); (try go_split_ands); go_simp; (try (with_reducible rfl)); done))) | (refine Reg.take 0 (v := undef) rfl (by kernel_rfl) (by kernel_rfl) (by kernel_rfl) (fun _ _ _ h => h) (Or.inr ⟨by rfl, rfl⟩) (by assumption) ?_))
  (try simp only [Act.put, List.setIfInBounds_toArray, List.set_cons_zero, List.set_cons_succ])
  (first | (refine Reg.take 1 (v := ?_) rfl (by kernel_rfl) (by kernel_rfl) (by kernel_rfl) (fun _ _ _ h => h) (Or.inl ⟨by rfl, ?_⟩) (by assumption) ?_; rotate_left; (focus ((intro W hSW); (try dsimp only at hSW); (try go_split_ands); go_simp; (try (with_reducible rfl)); done))) | (refine Reg.take 1 (v := undef) rfl (by kernel_rfl) (by kernel_rfl) (by kernel_rfl) (fun _ _ _ h => h) (Or.inr ⟨by rfl, rfl⟩) (by assumption) ?_))
  (try simp only [Act.put, List.setIfInBounds_toArray, List.set_cons_zero, List.set_cons_succ])
  (first | (refine Reg.take 2 (v := ?_) rfl (by kernel_rfl) (by kernel_rfl) (by kernel_rfl) (fun _ _ _ h => h) (Or.inl ⟨by rfl, ?_⟩) (by assumption) ?_; rotate_left; (focus ((intro W hSW); (try dsimp only at hSW); (try go_split_ands); go_simp; (try (with_reducible rfl)); done))) | (refine Reg.take 2 (v := undef) rfl (by kernel_rfl) (by kernel_rfl) (by kernel_rfl) (fun _ _ _ h => h) (Or.inr ⟨by rfl, rfl⟩) (by assumption) ?_))
  (try simp only [Act.put, List.setIfInBounds_toArray, List.set_cons_zero, List.set_cons_succ])
  (first | (refine Reg.take 3 (v := ?_) rfl (by kernel_rfl) (by kernel_rfl) (by kernel_rfl) (fun _ _ _ h => h) (Or.inl ⟨by rfl, ?_⟩) (by assumption) ?_; rotate_left; (focus ((intro W hSW); (try dsimp only at hSW); (try go_split_ands); go_simp; (try (with_reducible rfl)); done))) | (refine Reg.take 3 (v := undef) rfl (by kernel_rfl) (by kernel_rfl) (by kernel_rfl) (fun _ _ _ h => h) (Or.inr ⟨by rfl, rfl⟩) (by assumption) ?_))
  (try simp only [Act.put, List.setIfInBounds_toArray, List.set_cons_zero, List.set_cons_succ])
  have y0 := Cells.cell Z4.out 0
  have f0 := Cells.frozen Z4.out 0
  have y1 := Cells.cell Z4.out 1
  have f1 := Cells.frozen Z4.out 1
  refine Reg.step 4 rfl (by kernel_rfl) (by rfl) (fun K hK => ?_)
  go_simp
  have bt : Mov [w.heap.size + 2] w4 ((w4.setCell ⟨w.heap.size + 2, 0, none⟩ (.int .i64 (cap2 : Int))).setCell ⟨w.heap.size + 2, 1, none⟩ (.slice Q2 n2 c2)) := Mov.set2 _ _ _ _
  have L5 := Lib.hid (L4.out.trans (bt.up L4.out.size (by omega)))
  have X5 := Lib.hid (Cells.mov X4.out bt (by simp; try omega))
  have Z5 : Hid (Cells ((w4.setCell ⟨w.heap.size + 2, 0, none⟩ (.int .i64 (cap2 : Int))).setCell ⟨w.heap.size + 2, 1, none⟩ (.slice Q2 n2 c2)) (w.heap.size + 2) 28 #[.int .i64 (cap2 : Int), .slice Q2 n2 c2]) := Cells.set2 Z4.out _ _
  have Y5 := Lib.hid (Cells.mov Y4.out bt (by simp; try omega))
  have T5 := Lib.hid (Cells.mov T4.out bt (by simp; try omega))
  have N5 := Lib.hid (N4.out.mov Z4.out (by decide) (fun x hx q hq => by have h1 := NW.out x hx q hq; omega) bt)
  clear bt hHeld y0 f0 y1 f1
  clear L4 X4 Z4 Y4 T4 N4 
  generalize (w4.setCell ⟨w.heap.size + 2, 0, none⟩ (.int .i64 (cap2 : Int))).setCell ⟨w.heap.size + 2, 1, none⟩ (.slice Q2 n2 c2) = w5 at *
  refine hK.out _ _ (And.intro (NBox.cells X5.out).1 (And.intro (NBox.cells X5.out).2 (show _ ∧ _ ∧ _ ∧ _ ∧ _ ∧ _ from MBox.cells (x := zeroX) T5.out))) (fun hHeld => ?_)
  clear hK K
  (try simp only [Act.put, List.setIfInBounds_toArray, List.set_cons_zero, List.set_cons_succ])
  have y0 := Cells.cell Y5.out 0
  have f0 := Cells.frozen Y5.out 0
  have y1 := Cells.cell Y5.out 1
  have f1 := Cells.frozen Y5.out 1
  have y2 := Cells.cell Y5.out 2
  have f2 := Cells.frozen Y5.out 2
  have y3 := Cells.cell Y5.out 3
  have f3 := Cells.frozen Y5.out 3
  have y4 := Cells.cell Y5.out 4
  have f4 := Cells.frozen Y5.out 4
  have y5 := Cells.cell Y5.out 5
  have f5 := Cells.frozen Y5.out 5
  refine Reg.step 5 rfl (by kernel_rfl) (by rfl) (fun K hK => ?_)
  go_simp
  have bt : Mov [w.heap.size + 3] w5 ((((((w5.setCell ⟨w.heap.size + 3, 0, none⟩ (.int .i64 0)).setCell ⟨w.heap.size + 3, 1, none⟩ (.int .i64 0)).setCell ⟨w.heap.size + 3, 2, none⟩ (.int .i64 0)).setCell ⟨w.heap.size + 3, 3, none⟩ (.int .i64 0)).setCell ⟨w.heap.size + 3, 4, none⟩ (.slice none 0 0)).setCell ⟨w.heap.size + 3, 5, none⟩ (.slice none 0 0)) := Mov.set6 _ _ _ _ _ _ _ _
  have L6 := Lib.hid (L5.out.trans (bt.up L5.out.size (by omega)))
  have X6 := Lib.hid (Cells.mov X5.out bt (by simp; try omega))
  have Z6 := Lib.hid (Cells.mov Z5.out bt (by simp; try omega))
  have Y6 : Hid (Cells ((((((w5.setCell ⟨w.heap.size + 3, 0, none⟩ (.int .i64 0)).setCell ⟨w.heap.size + 3, 1, none⟩ (.int .i64 0)).setCell ⟨w.heap.size + 3, 2, none⟩ (.int .i64 0)).setCell ⟨w.heap.size + 3, 3, none⟩ (.int .i64 0)).setCell ⟨w.heap.size + 3, 4, none⟩ (.slice none 0 0)).setCell ⟨w.heap.size + 3, 5, none⟩ (.slice none 0 0)) (w.heap.size + 3) 39 #[.int .i64 0, .int .i64 0, .int .i64 0, .int .i64 0, .slice none 0 0, .slice none 0 0]) := Cells.set6 Y5.out _ _ _ _ _ _
  have T6 := Lib.hid (Cells.mov T5.out bt (by simp; try omega))
  have N6 := Lib.hid (N5.out.mov_ (fun e => by have h1 := NB.out _ e; omega) (fun x hx q hq => by have h1 := NW.out x hx q hq; omega) bt)
  clear bt hHeld y0 f0 y1 f1 y2 f2 y3 f3 y4 f4 y5 f5
  clear L5 X5 Z5 Y5 T5 N5 
  generalize (((((w5.setCell ⟨w.heap.size + 3, 0, none⟩ (.int .i64 0)).setCell ⟨w.heap.size + 3, 1, none⟩ (.int .i64 0)).setCell ⟨w.heap.size + 3, 2, none⟩ (.int .i64 0)).setCell ⟨w.heap.size + 3, 3, none⟩ (.int .i64 0)).setCell ⟨w.heap.size + 3, 4, none⟩ (.slice none 0 0)).setCell ⟨w.heap.size + 3, 5, none⟩ (.slice none 0 0) = w6 at *
  refine hK.out _ _ (And.intro (NBox.cells X6.out).1 (And.intro (NBox.cells X6.out).2 (show _ ∧ _ ∧ _ ∧ _ ∧ _ ∧ _ from MBox.cells (x := zeroX) T6.out))) (fun hHeld => ?_)
  clear hK K
  (try simp only [Act.put, List.setIfInBounds_toArray, List.set_cons_zero, List.set_cons_succ])
  (first | (refine Reg.take 6 (v := ?_) rfl (by kernel_rfl) (by kernel_rfl) (by kernel_rfl) (fun _ _ _ h => h) (Or.inl ⟨by rfl, ?_⟩) (by assumption) ?_; rotate_left; (focus ((intro W hSW); (try dsimp only at hSW); (try go_split_ands); go_simp; (try (with_reducible rfl)); done))) | (refine Reg.take 6 (v := undef) rfl (by kernel_rfl) (by kernel_rfl) (by kernel_rfl) (fun _ _ _ h => h) (Or.inr ⟨by rfl, rfl⟩) (by assumption) ?_))
  (try simp only [Act.put, List.setIfInBounds_toArray, List.set_cons_zero, List.set_cons_succ])
  (first | (refine Reg.take 7 (v := ?_) rfl (by kernel_rfl) (by kernel_rfl) (by kernel_rfl) (fun _ _ _ h => h) (Or.inl ⟨by rfl, ?_⟩) (by assumption) ?_; rotate_left; (focus ((intro W hSW); (try dsimp only at hSW); (try go_split_ands); go_simp; (try (with_reducible rfl)); done))) | (refine Reg.take 7 (v := undef) rfl (by kernel_rfl) (by kernel_rfl) (by kernel_rfl) (fun _ _ _ h => h) (Or.inr ⟨by rfl, rfl⟩) (by assumption) ?_))
  (try simp only [Act.put, List.setIfInBounds_toArray, List.set_cons_zero, List.set_cons_succ])
  refine wpAnyH_done (by kernel_rfl) ?_ _
  clear hHeld
  go_wp2_with fail
  refine bodyPost_ret_by (results_cc2 rfl _ _ (w.heap.size + 2) (w.heap.size + 3) _ _ _ _ _ _ _ _ rfl Z6.out Try.underlying28 rfl (by kernel_rfl) rfl Y6.out Try.underlying39 rfl (by kernel_rfl)) rfl ?_
  exact ⟨Q2, n2, c2, l2, zeroX, rfl, N6.out, LP.out, rfl, zero_at _, fun q hq => absurd hq zero_bl, zero_own _ _, fun q hq => absurd hq zero_bl, L6.out⟩

set_option maxRecDepth 100000 in
set_option maxHeartbeats 6400000 in
theorem body_take {w : World} {cap : Nat} {Q : Option Addr} {n c : Nat} {l : List Mx} (h : NetAt w Q n c l) (hn : n ≤ 5000) (L : Option Addr) (m e : Nat) (i : Int) :
    Calls Try.prog 17 #[nv cap Q n c, .agg #[.int .i64 1, .int .i64 i, .slice L m e]] w (GotB w ((takeR cap (l.map Mx.p) i).1, (takeR cap (l.map Mx.p) i).2.1, (takeR cap (l.map Mx.p) i).2.2.1, (takeR cap (l.map Mx.p) i).2.2.2, 0)) := by
  have HN := Lib.hid h
  have HC := fun W (h : NetAt W Q n c l) => Lib.hid (got_take (cap := cap) h hn i)
  generalize takeR cap (l.map Mx.p) i = R at *
  obtain ⟨cap2, pl, p2, er⟩ := R
  show Calls _ _ _ _ (GotB w (cap2, pl, p2, er, 0))
  have L1 : Hid (Below w.heap.size w (((((w.alloc (.cells #[.int .i64 (cap : Int), .slice Q n c] 28)).alloc (.cells #[.int .i64 1, .int .i64 i, .slice L m e] 35)).alloc (.cells #[.int .i64 0, .slice none 0 0] 28)).alloc (.cells #[.int .i64 0, .int .i64 0, .int .i64 0, .int .i64 0, .slice none 0 0, .slice none 0 0] 39)).alloc (.cells #[.int .i64 0, .int .i64 0, .int .i64 0, .int .i64 0, .slice none 0 0, .slice none 0 0] 39))) := ((((((Below.refl _ w).alloc (by first | exact Nat.le_refl _ | (simp; try omega)) _).alloc (by first | exact Nat.le_refl _ | (simp; try omega)) _).alloc (by first | exact Nat.le_refl _ | (simp; try omega)) _).alloc (by first | exact Nat.le_refl _ | (simp; try omega)) _).alloc (by first | exact Nat.le_refl _ | (simp; try omega)) _)
  have X1 : Hid (Cells (((((w.alloc (.cells #[.int .i64 (cap : Int), .slice Q n c] 28)).alloc (.cells #[.int .i64 1, .int .i64 i, .slice L m e] 35)).alloc (.cells #[.int .i64 0, .slice none 0 0] 28)).alloc (.cells #[.int .i64 0, .int .i64 0, .int .i64 0, .int .i64 0, .slice none 0 0, .slice none 0 0] 39)).alloc (.cells #[.int .i64 0, .int .i64 0, .int .i64 0, .int .i64 0, .slice none 0 0, .slice none 0 0] 39)) (w.heap.size) 28 #[.int .i64 (cap : Int), .slice Q n c]) := by
    have := Cells.new w #[.int .i64 (cap : Int), .slice Q n c] 28
    (try simp only [World.size_alloc] at this)
    exact (Cells.alloc (Cells.alloc (Cells.alloc (Cells.alloc this _) _) _) _)
  have P1 : Hid (Cells (((((w.alloc (.cells #[.int .i64 (cap : Int), .slice Q n c] 28)).alloc (.cells #[.int .i64 1, .int .i64 i, .slice L m e] 35)).alloc (.cells #[.int .i64 0, .slice none 0 0] 28)).alloc (.cells #[.int .i64 0, .int .i64 0, .int .i64 0, .int .i64 0, .slice none 0 0, .slice none 0 0] 39)).alloc (.cells #[.int .i64 0, .int .i64 0, .int .i64 0, .int .i64 0, .slice none 0 0, .slice none 0 0] 39)) (w.heap.size + 1) 35 #[.int .i64 1, .int .i64 i, .slice L m e]) := by
    have := Cells.new (w.alloc (.cells #[.int .i64 (cap : Int), .slice Q n c] 28)) #[.int .i64 1, .int .i64 i, .slice L m e] 35
    (try simp only [World.size_alloc] at this)
    exact (Cells.alloc (Cells.alloc (Cells.alloc this _) _) _)
  have Z1 : Hid (Cells (((((w.alloc (.cells #[.int .i64 (cap : Int), .slice Q n c] 28)).alloc (.cells #[.int .i64 1, .int .i64 i, .slice L m e] 35)).alloc (.cells #[.int .i64 0, .slice none 0 0] 28)).alloc (.cells #[.int .i64 0, .int .i64 0, .int .i64 0, .int .i64 0, .slice none 0 0, .slice none 0 0] 39)).alloc (.cells #[.int .i64 0, .int .i64 0, .int .i64 0, .int .i64 0, .slice none 0 0, .slice none 0 0] 39)) (w.heap.size + 2) 28 #[.int .i64 0, .slice none 0 0]) := by
    have := Cells.new ((w.alloc (.cells #[.int .i64 (cap : Int), .slice Q n c] 28)).alloc (.cells #[.int .i64 1, .int .i64 i, .slice L m e] 35)) #[.int .i64 0, .slice none 0 0] 28
    (try simp only [World.size_alloc] at this)
    exact (Cells.alloc (Cells.alloc this _) _)
  have Y1 : Hid (Cells (((((w.alloc (.cells #[.int .i64 (cap : Int), .slice Q n c] 28)).alloc (.cells #[.int .i64 1, .int .i64 i, .slice L m e] 35)).alloc (.cells #[.int .i64 0, .slice none 0 0] 28)).alloc (.cells #[.int .i64 0, .int .i64 0, .int .i64 0, .int .i64 0, .slice none 0 0, .slice none 0 0] 39)).alloc (.cells #[.int .i64 0, .int .i64 0, .int .i64 0, .int .i64 0, .slice none 0 0, .slice none 0 0] 39)) (w.heap.size + 3) 39 #[.int .i64 0, .int .i64 0, .int .i64 0, .int .i64 0, .slice none 0 0, .slice none 0 0]) := by
    have := Cells.new (((w.alloc (.cells #[.int .i64 (cap : Int), .slice Q n c] 28)).alloc (.cells #[.int .i64 1, .int .i64 i, .slice L m e] 35)).alloc (.cells #[.int .i64 0, .slice none 0 0] 28)) #[.int .i64 0, .int .i64 0, .int .i64 0, .int .i64 0, .slice none 0 0, .slice none 0 0] 39
    (try simp only [World.size_alloc] at this)
    exact (Cells.alloc this _)
  have T1 : Hid (Cells (((((w.alloc (.cells #[.int .i64 (cap : Int), .slice Q n c] 28)).alloc (.cells #[.int .i64 1, .int .i64 i, .slice L m e] 35)).alloc (.cells #[.int .i64 0, .slice none 0 0] 28)).alloc (.cells #[.int .i64 0, .int .i64 0, .int .i64 0, .int .i64 0, .slice none 0 0, .slice none 0 0] 39)).alloc (.cells #[.int .i64 0, .int .i64 0, .int .i64 0, .int .i64 0, .slice none 0 0, .slice none 0 0] 39)) (w.heap.size + 4) 39 #[.int .i64 0, .int .i64 0, .int .i64 0, .int .i64 0, .slice none 0 0, .slice none 0 0]) := by
    have := Cells.new ((((w.alloc (.cells #[.int .i64 (cap : Int), .slice Q n c] 28)).alloc (.cells #[.int .i64 1, .int .i64 i, .slice L m e] 35)).alloc (.cells #[.int .i64 0, .slice none 0 0] 28)).alloc (.cells #[.int .i64 0, .int .i64 0, .int .i64 0, .int .i64 0, .slice none 0 0, .slice none 0 0] 39)) #[.int .i64 0, .int .i64 0, .int .i64 0, .int .i64 0, .slice none 0 0, .slice none 0 0] 39
    (try simp only [World.size_alloc] at this)
    exact this
  have SZ : Hid ((((((w.alloc (.cells #[.int .i64 (cap : Int), .slice Q n c] 28)).alloc (.cells #[.int .i64 1, .int .i64 i, .slice L m e] 35)).alloc (.cells #[.int .i64 0, .slice none 0 0] 28)).alloc (.cells #[.int .i64 0, .int .i64 0, .int .i64 0, .int .i64 0, .slice none 0 0, .slice none 0 0] 39)).alloc (.cells #[.int .i64 0, .int .i64 0, .int .i64 0, .int .i64 0, .slice none 0 0, .slice none 0 0] 39)).heap.size = w.heap.size + 5) := by show _ = _; simp
  clear h
  unfold nv at *
  go_enter Try.func17, Try.ntmps17
  go_upto_region 16 with (first | (go_at_call 30; refine (HC _ (HN.out.below L1.out)).out.mono ?_; rintro en w2 ⟨Q2, n2, c2, l2, y, rfl, hO, hP, hyp, hya, hyn, hyo, hap, hb⟩; have L2 := Lib.hid (L1.out.trans (hb.mono L1.out.size)); have X2 := Lib.hid (Cells.below X1.out hb); have Z2 := Lib.hid (Cells.below Z1.out hb); have Y2 := Lib.hid (Cells.below Y1.out hb); have T2 := Lib.hid (Cells.below T1.out hb); obtain ⟨k0, k1⟩ := NBox.cells X2.out; have g0 := Cells.frozen X2.out 0; have g1 := Cells.frozen X2.out 1; have N2 := Lib.hid ((hO.lower L1.out.size).base_ L1.out.size); have NW : Hid (∀ x ∈ l2, ∀ q, Bl x q → w.heap.size + 5 ≤ q) := (fun x hx q hq => by have h1 := hO.low x hx q hq; have h2 := SZ.out; omega); have NB : Hid (∀ q, (Value.slice Q2 n2 c2).ownBlock = some q → w.heap.size + 5 ≤ q) := (fun q hq => by have h1 := (hO.own.lt q hq).1; have h2 := SZ.out; omega); have LP := Lib.hid hP; have M2 := Lib.hid hya; have O2 := Lib.hid (hyo.mono L1.out.size); have YP := Lib.hid hyp; have YN := Lib.hid (hyn.mono L1.out.size); have YZ : Hid (∀ q, Bl y q → w.heap.size + 5 ≤ q) := (fun q hq => by have h1 := hyn q hq; have h2 := SZ.out; omega); have YAP := Lib.hid hap; have b1 : Mov [w.heap.size] w2 ((w2.setCell ⟨w.heap.size, 0, none⟩ (.int .i64 (cap2 : Int))).setCell ⟨w.heap.size, 1, none⟩ (.slice Q2 n2 c2)) := Mov.set2 _ _ _ _; have M4 := Cells.mov T2.out b1 (by simp); obtain ⟨s0, q0, s1, q1, s2, q2, s3, q3, s4, q4, s5, q5⟩ := six_steps M4 (.int .i64 y.k) (.int .i64 y.f) (.int .i64 y.t) (.int .i64 y.i) (.slice y.A y.n y.c); clear b1 M4; (try unfold nv); (try unfold mxv); clear hb hO hP hyp hya hyn hyo hap) | fail)
  clear k0 k1 g0 g1 L1 X1 P1 Z1 Y1 T1 SZ HC HN s0 q0 s1 q1 s2 q2 s3 q3 s4 q4 s5 q5
  have bt : Mov [w.heap.size] w2 ((w2.setCell ⟨w.heap.size, 0, none⟩ (.int .i64 (cap2 : Int))).setCell ⟨w.heap.size, 1, none⟩ (.slice Q2 n2 c2)) := Mov.set2 _ _ _ _
  have L3 := Lib.hid (L2.out.trans (bt.up L2.out.size (by omega)))
  have X3 : Hid (NBox ((w2.setCell ⟨w.heap.size, 0, none⟩ (.int .i64 (cap2 : Int))).setCell ⟨w.heap.size, 1, none⟩ (.slice Q2 n2 c2)) (w.heap.size) cap2 Q2 n2 c2) := Cells.set2 X2.out _ _
  have Z3 := Lib.hid (Cells.mov Z2.out bt (by simp; try omega))
  have Y3 := Lib.hid (Cells.mov Y2.out bt (by simp; try omega))
  have T3 := Lib.hid (Cells.mov T2.out bt (by simp; try omega))
  have N3 := Lib.hid (N2.out.mov_ (fun e => by have h1 := NB.out _ e; omega) (fun x hx q hq => by have h1 := NW.out x hx q hq; omega) bt)
  have M3 := Lib.hid (M2.out.keepB bt.size (fun q hq => bt.block q (M2.out.lt hq) (by have h1 := YZ.out q hq; simp; omega)))
  have O3 := Lib.hid (owns_mov O2.out X2.out (by decide) bt)
  clear bt L2 X2 Z2 Y2 T2 N2 M2 O2
  generalize (w2.setCell ⟨w.heap.size, 0, none⟩ (.int .i64 (cap2 : Int))).setCell ⟨w.heap.size, 1, none⟩ (.slice Q2 n2 c2) = w3 at *
  have bt : Mov [w.heap.size + 4] w3 ((((((w3.setCell ⟨w.heap.size + 4, 0, none⟩ (.int .i64 y.k)).setCell ⟨w.heap.size + 4, 1, none⟩ (.int .i64 y.f)).setCell ⟨w.heap.size + 4, 2, none⟩ (.int .i64 y.t)).setCell ⟨w.heap.size + 4, 3, none⟩ (.int .i64 y.i)).setCell ⟨w.heap.size + 4, 4, none⟩ (.slice y.A y.n y.c)).setCell ⟨w.heap.size + 4, 5, none⟩ (.slice y.B y.m y.d)) := Mov.set6 _ _ _ _ _ _ _ _
  have L4 := Lib.hid (L3.out.trans (bt.up L3.out.size (by omega)))
  have X4 := Lib.hid (Cells.mov X3.out bt (by simp; try omega))
  have Z4 := Lib.hid (Cells.mov Z3.out bt (by simp; try omega))
  have Y4 := Lib.hid (Cells.mov Y3.out bt (by simp; try omega))
  have T4 : Hid (MBox ((((((w3.setCell ⟨w.heap.size + 4, 0, none⟩ (.int .i64 y.k)).setCell ⟨w.heap.size + 4, 1, none⟩ (.int .i64 y.f)).setCell ⟨w.heap.size + 4, 2, none⟩ (.int .i64 y.t)).setCell ⟨w.heap.size + 4, 3, none⟩ (.int .i64 y.i)).setCell ⟨w.heap.size + 4, 4, none⟩ (.slice y.A y.n y.c)).setCell ⟨w.heap.size + 4, 5, none⟩ (.slice y.B y.m y.d)) (w.heap.size + 4) y) := Cells.set6 T3.out _ _ _ _ _ _
  have N4 := Lib.hid (N3.out.mov_ (fun e => by have h1 := NB.out _ e; omega) (fun x hx q hq => by have h1 := NW.out x hx q hq; omega) bt)
  have M4 := Lib.hid (M3.out.keepB bt.size (fun q hq => bt.block q (M3.out.lt hq) (by have h1 := YZ.out q hq; simp; omega)))
  have O4 := Lib.hid (owns_mov O3.out T3.out (by decide) bt)
  clear bt L3 X3 Z3 Y3 T3 N3 M3 O3
  generalize (((((w3.setCell ⟨w.heap.size + 4, 0, none⟩ (.int .i64 y.k)).setCell ⟨w.heap.size + 4, 1, none⟩ (.int .i64 y.f)).setCell ⟨w.heap.size + 4, 2, none⟩ (.int .i64 y.t)).setCell ⟨w.heap.size + 4, 3, none⟩ (.int .i64 y.i)).setCell ⟨w.heap.size + 4, 4, none⟩ (.slice y.A y.n y.c)).setCell ⟨w.heap.size + 4, 5, none⟩ (.slice y.B y.m y.d) = w4 at *
  have L5 := Lib.hid L4.out.drew
  have X5 := Lib.hid (Cells.below X4.out ((Below.refl _ w4).drew))
  have Z5 := Lib.hid (Cells.below Z4.out ((Below.refl _ w4).drew))
  have Y5 := Lib.hid (Cells.below Y4.out ((Below.refl _ w4).drew))
  have T5 := Lib.hid (Cells.below T4.out ((Below.refl _ w4).drew))
  have N5 := Lib.hid (OwnN.below N4.out ((Below.refl _ w4).drew))
  have M5 := Lib.hid (MAt.below M4.out ((Below.refl _ w4).drew))
  have O5 := Lib.hid (Owns.below O4.out ((Below.refl _ w4).drew))
  refine wp_region_held_drew (S := fun W => W.cell? ⟨w.heap.size, 0, none⟩ = some (.int .i64 (cap2 : Int)) ∧ W.cell? ⟨w.heap.size, 1, none⟩ = some (.slice Q2 n2 c2) ∧ W.cell? ⟨w.heap.size + 4, 0, none⟩ = some (.int .i64 y.k) ∧ W.cell? ⟨w.heap.size + 4, 1, none⟩ = some (.int .i64 y.f) ∧ W.cell? ⟨w.heap.size + 4, 2, none⟩ = some (.int .i64 y.t) ∧ W.cell? ⟨w.heap.size + 4, 3, none⟩ = some (.int .i64 y.i) ∧ W.cell? ⟨w.heap.size + 4, 4, none⟩ = some (.slice y.A y.n y.c) ∧ W.cell? ⟨w.heap.size + 4, 5, none⟩ = some (.slice y.B y.m y.d)) (by kernel_rfl) (And.intro (NBox.cells X5.out).1 (And.intro (NBox.cells X5.out).2 (show _ ∧ _ ∧ _ ∧ _ ∧ _ ∧ _ from MBox.cells (x := y) T5.out))) (fun hHeld => ?_)
  generalize w4.drew = w5 at *
  clear L4 X4 Z4 Y4 T4 N4 M4 O4 
  (first | (refine Reg.take 0 (v := ?_) rfl (by kernel_rfl) (by kernel_rfl) (by kernel_rfl) (fun _ _ _ h => h) (Or.inl ⟨by rfl, ?_⟩) (by assumption) ?_; rotate_left; (focus ((intro W hSW); (try dsimp only at hSW); (try go_split_ands); go_simp; (try (with_reducible rfl)); done))) | (refine Reg.take 0 (v := undef) rfl (by kernel_rfl) (by kernel_rfl) (by kernel_rfl) (fun _ _ _ h => h) (Or.inr ⟨by rfl, rfl⟩) (by assumption) ?_))
  (try simp only [Act.put, List.setIfInBounds_toArray, List.set_cons_zero, List.set_cons_succ])
  (first | (refine Reg.take 1 (v := ?_) rfl (by kernel_rfl) (by kernel_rfl) (by kernel_rfl) (fun _ _ _ h => h) (Or.inl ⟨by rfl, ?_⟩) (by assumption) ?_; rotate_left; (focus ((intro W hSW); (try dsimp only at hSW); (try go_split_ands); go_simp; (try (with_reducible rfl)); done))) | (refine Reg.take 1 (v := undef) rfl (by kernel_rfl) (by kernel_rfl) (by kernel_rfl) (fun _ _ _ h => h) (Or.inr ⟨by rfl, rfl⟩) (by assumption) ?_))
  (try simp only [Act.put, List.setIfInBounds_toArray, List.set_cons_zero, List.set_cons_succ])
  (first | (refine Reg.take 2 (v := ?_) rfl (by kernel_rfl) (by kernel_rfl) (by kernel_rfl) (fun _ _ _ h => h) (Or.inl ⟨by rfl, ?_⟩) (by assumption) ?_; rotate_left; (focus ((intro W hSW); (try dsimp only at hSW); (try go_split_ands); go_simp; (try (with_reducible rfl)); done))) | (refine Reg.take 2 (v := undef) rfl (by kernel_rfl) (by kernel_rfl) (by kernel_rfl) (fun _ _ _ h => h) (Or.inr ⟨by rfl, rfl⟩) (by assumption) ?_))
  (try simp only [Act.put, List.setIfInBounds_toArray, List.set_cons_zero, List.set_cons_succ])
  (first | (refine Reg.take 3 (v := ?_) rfl (by kernel_rfl) (by kernel_rfl) (by kernel_rfl) (fun _ _ _ h => h) (Or.inl ⟨by rfl, ?_⟩) (by assumption) ?_; rotate_left; (focus ((intro W hSW); (try dsimp only at hSW); (try go_split_ands); go_simp; (try (with_reducible rfl)); done))) | (refine Reg.take 3 (v := undef) rfl (by kernel_rfl) (by kernel_rfl) (by kernel_rfl) (fun _ _ _ h => h) (Or.inr ⟨by rfl, rfl⟩) (by assumption) ?_))
  (try simp only [Act.put, List.setIfInBounds_toArray, List.set_cons_zero, List.set_cons_succ])
  have y0 := Cells.cell Z5.out 0
  have f0 := Cells.frozen Z5.out 0
  have y1 := Cells.cell Z5.out 1
  have f1 := Cells.frozen Z5.out 1
  refine Reg.step 4 rfl (by kernel_rfl) (by rfl) (fun K hK => ?_)
  go_simp
  have bt : Mov [w.heap.size + 2] w5 ((w5.setCell ⟨w.heap.size + 2, 0, none⟩ (.int .i64 (cap2 : Int))).setCell ⟨w.heap.size + 2, 1, none⟩ (.slice Q2 n2 c2)) := Mov.set2 _ _ _ _
  have L6 := Lib.hid (L5.out.trans (bt.up L5.out.size (by omega)))
  have X6 := Lib.hid (Cells.mov X5.out bt (by simp; try omega))
  have Z6 : Hid (Cells ((w5.setCell ⟨w.heap.size + 2, 0, none⟩ (.int .i64 (cap2 : Int))).setCell ⟨w.heap.size + 2, 1, none⟩ (.slice Q2 n2 c2)) (w.heap.size + 2) 28 #[.int .i64 (cap2 : Int), .slice Q2 n2 c2]) := Cells.set2 Z5.out _ _
  have Y6 := Lib.hid (Cells.mov Y5.out bt (by simp; try omega))
  have T6 := Lib.hid (Cells.mov T5.out bt (by simp; try omega))
  have N6 := Lib.hid (N5.out.mov Z5.out (by decide) (fun x hx q hq => by have h1 := NW.out x hx q hq; omega) bt)
  have M6 := Lib.hid (M5.out.keepB bt.size (fun q hq => bt.block q (M5.out.lt hq) (by have h1 := YZ.out q hq; simp; omega)))
  have O6 := Lib.hid (owns_mov O5.out Z5.out (by decide) bt)
  clear bt hHeld y0 f0 y1 f1
  clear L5 X5 Z5 Y5 T5 N5 M5 O5 
  generalize (w5.setCell ⟨w.heap.size + 2, 0, none⟩ (.int .i64 (cap2 : Int))).setCell ⟨w.heap.size + 2, 1, none⟩ (.slice Q2 n2 c2) = w6 at *
  refine hK.out _ _ (And.intro (NBox.cells X6.out).1 (And.intro (NBox.cells X6.out).2 (show _ ∧ _ ∧ _ ∧ _ ∧ _ ∧ _ from MBox.cells (x := y) T6.out))) (fun hHeld => ?_)
  clear hK K
  (try simp only [Act.put, List.setIfInBounds_toArray, List.set_cons_zero, List.set_cons_succ])
  have y0 := Cells.cell Y6.out 0
  have f0 := Cells.frozen Y6.out 0
  have y1 := Cells.cell Y6.out 1
  have f1 := Cells.frozen Y6.out 1
  have y2 := Cells.cell Y6.out 2
  have f2 := Cells.frozen Y6.out 2
  have y3 := Cells.cell Y6.out 3
  have f3 := Cells.frozen Y6.out 3
  have y4 := Cells.cell Y6.out 4
  have f4 := Cells.frozen Y6.out 4
  have y5 := Cells.cell Y6.out 5
  have f5 := Cells.frozen Y6.out 5
  refine Reg.step 5 rfl (by kernel_rfl) (by rfl) (fun K hK => ?_)
  go_simp
  have bt : Mov [w.heap.size + 3] w6 ((((((w6.setCell ⟨w.heap.size + 3, 0, none⟩ (.int .i64 y.k)).setCell ⟨w.heap.size + 3, 1, none⟩ (.int .i64 y.f)).setCell ⟨w.heap.size + 3, 2, none⟩ (.int .i64 y.t)).setCell ⟨w.heap.size + 3, 3, none⟩ (.int .i64 y.i)).setCell ⟨w.heap.size + 3, 4, none⟩ (.slice y.A y.n y.c)).setCell ⟨w.heap.size + 3, 5, none⟩ (.slice y.B y.m y.d)) := Mov.set6 _ _ _ _ _ _ _ _
  have L7 := Lib.hid (L6.out.trans (bt.up L6.out.size (by omega)))
  have X7 := Lib.hid (Cells.mov X6.out bt (by simp; try omega))
  have Z7 := Lib.hid (Cells.mov Z6.out bt (by simp; try omega))
  have Y7 : Hid (Cells ((((((w6.setCell ⟨w.heap.size + 3, 0, none⟩ (.int .i64 y.k)).setCell ⟨w.heap.size + 3, 1, none⟩ (.int .i64 y.f)).setCell ⟨w.heap.size + 3, 2, none⟩ (.int .i64 y.t)).setCell ⟨w.heap.size + 3, 3, none⟩ (.int .i64 y.i)).setCell ⟨w.heap.size + 3, 4, none⟩ (.slice y.A y.n y.c)).setCell ⟨w.heap.size + 3, 5, none⟩ (.slice y.B y.m y.d)) (w.heap.size + 3) 39 #[.int .i64 y.k, .int .i64 y.f, .int .i64 y.t, .int .i64 y.i, .slice y.A y.n y.c, .slice y.B y.m y.d]) := Cells.set6 Y6.out _ _ _ _ _ _
  have T7 := Lib.hid (Cells.mov T6.out bt (by simp; try omega))
  have N7 := Lib.hid (N6.out.mov_ (fun e => by have h1 := NB.out _ e; omega) (fun x hx q hq => by have h1 := NW.out x hx q hq; omega) bt)
  have M7 := Lib.hid (M6.out.keepB bt.size (fun q hq => bt.block q (M6.out.lt hq) (by have h1 := YZ.out q hq; simp; omega)))
  have O7 := Lib.hid (owns_mov O6.out Y6.out (by decide) bt)
  clear bt hHeld y0 f0 y1 f1 y2 f2 y3 f3 y4 f4 y5 f5
  clear L6 X6 Z6 Y6 T6 N6 M6 O6 
  generalize (((((w6.setCell ⟨w.heap.size + 3, 0, none⟩ (.int .i64 y.k)).setCell ⟨w.heap.size + 3, 1, none⟩ (.int .i64 y.f)).setCell ⟨w.heap.size + 3, 2, none⟩ (.int .i64 y.t)).setCell ⟨w.heap.size + 3, 3, none⟩ (.int .i64 y.i)).setCell ⟨w.heap.size + 3, 4, none⟩ (.slice y.A y.n y.c)).setCell ⟨w.heap.size + 3, 5, none⟩ (.slice y.B y.m y.d) = w7 at *
  refine hK.out _ _ (And.intro (NBox.cells X7.out).1 (And.intro (NBox.cells X7.out).2 (show _ ∧ _ ∧ _ ∧ _ ∧ _ ∧ _ from MBox.cells (x := y) T7.out))) (fun hHeld => ?_)
  clear hK K
  (try simp only [Act.put, List.setIfInBounds_toArray, List.set_cons_zero, List.set_cons_succ])
  (first | (refine Reg.take 6 (v := ?_) rfl (by kernel_rfl) (by kernel_rfl) (by kernel_rfl) (fun _ _ _ h => h) (Or.inl ⟨by rfl, ?_⟩) (by assumption) ?_; rotate_left; (focus ((intro W hSW); (try dsimp only at hSW); (try go_split_ands); go_simp; (try (with_reducible rfl)); done))) | (refine Reg.take 6 (v := undef) rfl (by kernel_rfl) (by kernel_rfl) (by kernel_rfl) (fun _ _ _ h => h) (Or.inr ⟨by rfl, rfl⟩) (by assumption) ?_))
  (try simp only [Act.put, List.setIfInBounds_toArray, List.set_cons_zero, List.set_cons_succ])
  (first | (refine Reg.take 7 (v := ?_) rfl (by kernel_rfl) (by kernel_rfl) (by kernel_rfl) (fun _ _ _ h => h) (Or.inl ⟨by rfl, ?_⟩) (by assumption) ?_; rotate_left; (focus ((intro W hSW); (try dsimp only at hSW); (try go_split_ands); go_simp; (try (with_reducible rfl)); done))) | (refine Reg.take 7 (v := undef) rfl (by kernel_rfl) (by kernel_rfl) (by kernel_rfl) (fun _ _ _ h => h) (Or.inr ⟨by rfl, rfl⟩) (by assumption) ?_))
  (try simp only [Act.put, List.setIfInBounds_toArray, List.set_cons_zero, List.set_cons_succ])
  refine wpAnyH_done (by kernel_rfl) ?_ _
  clear hHeld
  go_wp2_with fail
  refine bodyPost_ret_by (results_cc2 rfl _ _ (w.heap.size + 2) (w.heap.size + 3) _ _ _ _ _ _ _ _ rfl Z7.out Try.underlying28 rfl (by kernel_rfl) rfl Y7.out Try.underlying39 rfl (by kernel_rfl)) rfl ?_
  exact ⟨Q2, n2, c2, l2, y, rfl, N7.out, LP.out, YP.out, M7.out, YN.out, O7.out, YAP.out, L7.out⟩

theorem body_any {w : World} {cap : Nat} {Q : Option Addr} {n c : Nat} {l : List Mx} (h : NetAt w Q n c l) (hn : n ≤ 5000) (hcap : cap ≤ 5000) {o : Ox} (ho : OpAt w o) :
    Calls Try.prog 17 #[nv cap Q n c, oxv o] w (GotB w (bodyR cap (l.map Mx.p) o.d o.i (o.l.map Mx.p))) := by
  obtain ⟨d, i, L, m, e, ls⟩ := o
  unfold oxv bodyR
  dsimp only at ho ⊢
  by_cases h0 : d = 0
  · rw [if_pos h0, h0]; exact body_send h hn hcap ho i
  rw [if_neg h0]
  by_cases h1 : d = 1
  · rw [if_pos h1, h1]; exact body_take h hn L m e i
  rw [if_neg h1]
  by_cases h2 : d = 2
  · rw [if_pos h2, h2]; exact body_drop h hn L m e i
  rw [if_neg h2]
  by_cases h3 : d = 3
  · rw [if_pos h3, h3]; exact body_double h hn L m e i
  rw [if_neg h3]
  by_cases h4 : d = 4
  · rw [if_pos h4, h4]; exact body_later h hn L m e i
  rw [if_neg h4]
  exact body_cut h hn L m e i d h0 h1 h2 h3 h4
end Net
end Go.Proofs.Ytamahknnppjegaa
