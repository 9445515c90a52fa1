/-
  SEVERAL TEXTS IN ONE FILE: NetModel, NetDTk, NetDTn, NetDTm, NetDRead, NetDoesM, NetBump, NetDoesC.
-/
import Derived.Test.YtamahknnppjegaaNetBody
import Derived.Test.YtamahknnppjegaaNetDoesJ
import Derived.Test.YtamahknnppjegaaWireTakeMsg
import Derived.Test.YtamahknnppjegaaNetGot
import Derived.Test.YtamahknnppjegaaNetRead
import Derived.Test.YtamahknnppjegaaNetCarM
import Derived.Test.YtamahknnppjegaaNetMem
/-
  WALKS: model: one operation, by the document.
-/
namespace Go.Proofs.Ytamahknnppjegaa
open Go.RowKit Mem Box
namespace Net
open Wire (B8 info_int)

/-- What model gave. -/
def GotV (w : World) (R : R5) (e : Ending) (w' : World) : Prop :=
  ∃ Q n c l y, e = .returned (.tuple #[nv R.1 Q n c, mxv y, .int .i64 R.2.2.2.1, .int .i64 R.2.2.2.2]) ∧ OwnN w.heap.size w.heap.size w' (.slice Q n c) n l ∧ l.map Mx.p = R.2.1 ∧ y.p = R.2.2.1 ∧ MAt w' y ∧ New w.heap.size y ∧ Below w.heap.size w w'

set_option maxRecDepth 100000 in
set_option maxHeartbeats 6400000 in
theorem model_drop {w : World} {cap : Nat} {Q : Option Addr} {n c : Nat} {l : List Mx} (h : NetAt w Q n c l) (hn : n ≤ 5000) (L : Option Addr) (m e : Nat) (i : Int) :
    Calls Try.prog 18 #[nv cap Q n c, .agg #[.int .i64 2, .int .i64 i, .slice L m e]] w (GotV w ((dropR cap (l.map Mx.p) i).1, (dropR cap (l.map Mx.p) i).2.1, zM, (dropR cap (l.map Mx.p) i).2.2, 0)) := by
  have HN := Lib.hid h
  have HC := fun W (h : NetAt W Q n c l) => Lib.hid (docDrop_any (cap := cap) h hn i)
  generalize dropR cap (l.map Mx.p) i = R at *
  obtain ⟨cap2, pl, er⟩ := R
  show Calls _ _ _ _ (GotV w (cap2, pl, zM, er, 0))
  have L1 : Hid (Below w.heap.size w (((((w.alloc (.cells #[.int .i64 (cap : Int), .slice Q n c] 28)).alloc (.cells #[.int .i64 2, .int .i64 i, .slice L m e] 35)).alloc (.cells #[.int .i64 0, .slice none 0 0] 28)).alloc (.cells #[.int .i64 0, .int .i64 0, .int .i64 0, .int .i64 0, .slice none 0 0, .slice none 0 0] 39)).alloc (.cells #[.int .i64 0, .int .i64 0, .int .i64 0, .int .i64 0, .slice none 0 0, .slice none 0 0] 39))) := ((((((Below.refl _ w).alloc (by first | exact Nat.le_refl _ | (simp; try omega)) _).alloc (by first | exact Nat.le_refl _ | (simp; try omega)) _).alloc (by first | exact Nat.le_refl _ | (simp; try omega)) _).alloc (by first | exact Nat.le_refl _ | (simp; try omega)) _).alloc (by first | exact Nat.le_refl _ | (simp; try omega)) _)
  have X1 : Hid (Cells (((((w.alloc (.cells #[.int .i64 (cap : Int), .slice Q n c] 28)).alloc (.cells #[.int .i64 2, .int .i64 i, .slice L m e] 35)).alloc (.cells #[.int .i64 0, .slice none 0 0] 28)).alloc (.cells #[.int .i64 0, .int .i64 0, .int .i64 0, .int .i64 0, .slice none 0 0, .slice none 0 0] 39)).alloc (.cells #[.int .i64 0, .int .i64 0, .int .i64 0, .int .i64 0, .slice none 0 0, .slice none 0 0] 39)) (w.heap.size) 28 #[.int .i64 (cap : Int), .slice Q n c]) := by
    have := Cells.new w #[.int .i64 (cap : Int), .slice Q n c] 28
    (try simp only [World.size_alloc] at this)
    exact (Cells.alloc (Cells.alloc (Cells.alloc (Cells.alloc this _) _) _) _)
  have P1 : Hid (Cells (((((w.alloc (.cells #[.int .i64 (cap : Int), .slice Q n c] 28)).alloc (.cells #[.int .i64 2, .int .i64 i, .slice L m e] 35)).alloc (.cells #[.int .i64 0, .slice none 0 0] 28)).alloc (.cells #[.int .i64 0, .int .i64 0, .int .i64 0, .int .i64 0, .slice none 0 0, .slice none 0 0] 39)).alloc (.cells #[.int .i64 0, .int .i64 0, .int .i64 0, .int .i64 0, .slice none 0 0, .slice none 0 0] 39)) (w.heap.size + 1) 35 #[.int .i64 2, .int .i64 i, .slice L m e]) := by
    have := Cells.new (w.alloc (.cells #[.int .i64 (cap : Int), .slice Q n c] 28)) #[.int .i64 2, .int .i64 i, .slice L m e] 35
    (try simp only [World.size_alloc] at this)
    exact (Cells.alloc (Cells.alloc (Cells.alloc this _) _) _)
  have Z1 : Hid (Cells (((((w.alloc (.cells #[.int .i64 (cap : Int), .slice Q n c] 28)).alloc (.cells #[.int .i64 2, .int .i64 i, .slice L m e] 35)).alloc (.cells #[.int .i64 0, .slice none 0 0] 28)).alloc (.cells #[.int .i64 0, .int .i64 0, .int .i64 0, .int .i64 0, .slice none 0 0, .slice none 0 0] 39)).alloc (.cells #[.int .i64 0, .int .i64 0, .int .i64 0, .int .i64 0, .slice none 0 0, .slice none 0 0] 39)) (w.heap.size + 2) 28 #[.int .i64 0, .slice none 0 0]) := by
    have := Cells.new ((w.alloc (.cells #[.int .i64 (cap : Int), .slice Q n c] 28)).alloc (.cells #[.int .i64 2, .int .i64 i, .slice L m e] 35)) #[.int .i64 0, .slice none 0 0] 28
    (try simp only [World.size_alloc] at this)
    exact (Cells.alloc (Cells.alloc this _) _)
  have Y1 : Hid (Cells (((((w.alloc (.cells #[.int .i64 (cap : Int), .slice Q n c] 28)).alloc (.cells #[.int .i64 2, .int .i64 i, .slice L m e] 35)).alloc (.cells #[.int .i64 0, .slice none 0 0] 28)).alloc (.cells #[.int .i64 0, .int .i64 0, .int .i64 0, .int .i64 0, .slice none 0 0, .slice none 0 0] 39)).alloc (.cells #[.int .i64 0, .int .i64 0, .int .i64 0, .int .i64 0, .slice none 0 0, .slice none 0 0] 39)) (w.heap.size + 3) 39 #[.int .i64 0, .int .i64 0, .int .i64 0, .int .i64 0, .slice none 0 0, .slice none 0 0]) := by
    have := Cells.new (((w.alloc (.cells #[.int .i64 (cap : Int), .slice Q n c] 28)).alloc (.cells #[.int .i64 2, .int .i64 i, .slice L m e] 35)).alloc (.cells #[.int .i64 0, .slice none 0 0] 28)) #[.int .i64 0, .int .i64 0, .int .i64 0, .int .i64 0, .slice none 0 0, .slice none 0 0] 39
    (try simp only [World.size_alloc] at this)
    exact (Cells.alloc this _)
  have T1 : Hid (Cells (((((w.alloc (.cells #[.int .i64 (cap : Int), .slice Q n c] 28)).alloc (.cells #[.int .i64 2, .int .i64 i, .slice L m e] 35)).alloc (.cells #[.int .i64 0, .slice none 0 0] 28)).alloc (.cells #[.int .i64 0, .int .i64 0, .int .i64 0, .int .i64 0, .slice none 0 0, .slice none 0 0] 39)).alloc (.cells #[.int .i64 0, .int .i64 0, .int .i64 0, .int .i64 0, .slice none 0 0, .slice none 0 0] 39)) (w.heap.size + 4) 39 #[.int .i64 0, .int .i64 0, .int .i64 0, .int .i64 0, .slice none 0 0, .slice none 0 0]) := by
    have := Cells.new ((((w.alloc (.cells #[.int .i64 (cap : Int), .slice Q n c] 28)).alloc (.cells #[.int .i64 2, .int .i64 i, .slice L m e] 35)).alloc (.cells #[.int .i64 0, .slice none 0 0] 28)).alloc (.cells #[.int .i64 0, .int .i64 0, .int .i64 0, .int .i64 0, .slice none 0 0, .slice none 0 0] 39)) #[.int .i64 0, .int .i64 0, .int .i64 0, .int .i64 0, .slice none 0 0, .slice none 0 0] 39
    (try simp only [World.size_alloc] at this)
    exact this
  have SZ : Hid ((((((w.alloc (.cells #[.int .i64 (cap : Int), .slice Q n c] 28)).alloc (.cells #[.int .i64 2, .int .i64 i, .slice L m e] 35)).alloc (.cells #[.int .i64 0, .slice none 0 0] 28)).alloc (.cells #[.int .i64 0, .int .i64 0, .int .i64 0, .int .i64 0, .slice none 0 0, .slice none 0 0] 39)).alloc (.cells #[.int .i64 0, .int .i64 0, .int .i64 0, .int .i64 0, .slice none 0 0, .slice none 0 0] 39)).heap.size = w.heap.size + 5) := by show _ = _; simp
  clear h
  unfold nv at *
  go_enter Try.func18, Try.ntmps18
  go_upto_region 16 with (first | (go_at_call 40; refine (HC _ (HN.out.below L1.out)).out.mono ?_; rintro en w2 ⟨Q2, n2, c2, l2, rfl, hO, hP, hb⟩; have L2 := Lib.hid (L1.out.trans (hb.mono L1.out.size)); have X2 := Lib.hid (Cells.below X1.out hb); have Z2 := Lib.hid (Cells.below Z1.out hb); have Y2 := Lib.hid (Cells.below Y1.out hb); have T2 := Lib.hid (Cells.below T1.out hb); obtain ⟨k0, k1⟩ := NBox.cells X2.out; have g0 := Cells.frozen X2.out 0; have g1 := Cells.frozen X2.out 1; have N2 := Lib.hid ((hO.lower L1.out.size).base_ L1.out.size); have NW : Hid (∀ x ∈ l2, ∀ q, Bl x q → w.heap.size + 5 ≤ q) := (fun x hx q hq => by have h1 := hO.low x hx q hq; have h2 := SZ.out; omega); have NB : Hid (∀ q, (Value.slice Q2 n2 c2).ownBlock = some q → w.heap.size + 5 ≤ q) := (fun q hq => by have h1 := (hO.own.lt q hq).1; have h2 := SZ.out; omega); have LP := Lib.hid hP; (try unfold nv); (try unfold mxv); clear hb hO hP) | fail)
  clear k0 k1 g0 g1 L1 X1 P1 Z1 Y1 T1 SZ HC HN
  have bt : Mov [w.heap.size] w2 ((w2.setCell ⟨w.heap.size, 0, none⟩ (.int .i64 (cap2 : Int))).setCell ⟨w.heap.size, 1, none⟩ (.slice Q2 n2 c2)) := Mov.set2 _ _ _ _
  have L3 := Lib.hid (L2.out.trans (bt.up L2.out.size (by omega)))
  have X3 : Hid (NBox ((w2.setCell ⟨w.heap.size, 0, none⟩ (.int .i64 (cap2 : Int))).setCell ⟨w.heap.size, 1, none⟩ (.slice Q2 n2 c2)) (w.heap.size) cap2 Q2 n2 c2) := Cells.set2 X2.out _ _
  have Z3 := Lib.hid (Cells.mov Z2.out bt (by simp; try omega))
  have Y3 := Lib.hid (Cells.mov Y2.out bt (by simp; try omega))
  have T3 := Lib.hid (Cells.mov T2.out bt (by simp; try omega))
  have N3 := Lib.hid (N2.out.mov_ (fun e => by have h1 := NB.out _ e; omega) (fun x hx q hq => by have h1 := NW.out x hx q hq; omega) bt)
  clear bt L2 X2 Z2 Y2 T2 N2
  generalize (w2.setCell ⟨w.heap.size, 0, none⟩ (.int .i64 (cap2 : Int))).setCell ⟨w.heap.size, 1, none⟩ (.slice Q2 n2 c2) = w3 at *
  have L4 := Lib.hid L3.out.drew
  have X4 := Lib.hid (Cells.below X3.out ((Below.refl _ w3).drew))
  have Z4 := Lib.hid (Cells.below Z3.out ((Below.refl _ w3).drew))
  have Y4 := Lib.hid (Cells.below Y3.out ((Below.refl _ w3).drew))
  have T4 := Lib.hid (Cells.below T3.out ((Below.refl _ w3).drew))
  have N4 := Lib.hid (OwnN.below N3.out ((Below.refl _ w3).drew))
  refine wp_region_held_drew (S := fun W => W.cell? ⟨w.heap.size, 0, none⟩ = some (.int .i64 (cap2 : Int)) ∧ W.cell? ⟨w.heap.size, 1, none⟩ = some (.slice Q2 n2 c2) ∧ W.cell? ⟨w.heap.size + 4, 0, none⟩ = some (.int .i64 0) ∧ W.cell? ⟨w.heap.size + 4, 1, none⟩ = some (.int .i64 0) ∧ W.cell? ⟨w.heap.size + 4, 2, none⟩ = some (.int .i64 0) ∧ W.cell? ⟨w.heap.size + 4, 3, none⟩ = some (.int .i64 0) ∧ W.cell? ⟨w.heap.size + 4, 4, none⟩ = some (.slice none 0 0) ∧ W.cell? ⟨w.heap.size + 4, 5, none⟩ = some (.slice none 0 0)) (by kernel_rfl) (And.intro (NBox.cells X4.out).1 (And.intro (NBox.cells X4.out).2 (show _ ∧ _ ∧ _ ∧ _ ∧ _ ∧ _ from MBox.cells (x := zeroX) T4.out))) (fun hHeld => ?_)
  generalize w3.drew = w4 at *
  clear L3 X3 Z3 Y3 T3 N3 
  (first | (refine Reg.take 0 (v := ?_) rfl (by kernel_rfl) (by kernel_rfl) (by kernel_rfl) (fun _ _ _ h => h) (Or.inl ⟨by rfl, ?_⟩) (by assumption) ?_; rotate_left; (focus ((intro W hSW); (try dsimp only at hSW); (try go_split_ands); go_simp; (try (with_reducible rfl)); done))) | (refine Reg.take 0 (v := undef) rfl (by kernel_rfl) (by kernel_rfl) (by kernel_rfl) (fun _ _ _ h => h) (Or.inr ⟨by rfl, rfl⟩) (by assumption) ?_))
  (try simp only [Act.put, List.setIfInBounds_toArray, List.set_cons_zero, List.set_cons_succ])
  (first | (refine Reg.take 1 (v := ?_) rfl (by kernel_rfl) (by kernel_rfl) (by kernel_rfl) (fun _ _ _ h => h) (Or.inl ⟨by rfl, ?_⟩) (by assumption) ?_; rotate_left; (focus ((intro W hSW); (try dsimp only at hSW); (try go_split_ands); go_simp; (try (with_reducible rfl)); done))) | (refine Reg.take 1 (v := undef) rfl (by kernel_rfl) (by kernel_rfl) (by kernel_rfl) (fun _ _ _ h => h) (Or.inr ⟨by rfl, rfl⟩) (by assumption) ?_))
  (try simp only [Act.put, List.setIfInBounds_toArray, List.set_cons_zero, List.set_cons_succ])
  (first | (refine Reg.take 2 (v := ?_) rfl (by kernel_rfl) (by kernel_rfl) (by kernel_rfl) (fun _ _ _ h => h) (Or.inl ⟨by rfl, ?_⟩) (by assumption) ?_; rotate_left; (focus ((intro W hSW); (try dsimp only at hSW); (try go_split_ands); go_simp; (try (with_reducible rfl)); done))) | (refine Reg.take 2 (v := undef) rfl (by kernel_rfl) (by kernel_rfl) (by kernel_rfl) (fun _ _ _ h => h) (Or.inr ⟨by rfl, rfl⟩) (by assumption) ?_))
  (try simp only [Act.put, List.setIfInBounds_toArray, List.set_cons_zero, List.set_cons_succ])
  (first | (refine Reg.take 3 (v := ?_) rfl (by kernel_rfl) (by kernel_rfl) (by kernel_rfl) (fun _ _ _ h => h) (Or.inl ⟨by rfl, ?_⟩) (by assumption) ?_; rotate_left; (focus ((intro W hSW); (try dsimp only at hSW); (try go_split_ands); go_simp; (try (with_reducible rfl)); done))) | (refine Reg.take 3 (v := undef) rfl (by kernel_rfl) (by kernel_rfl) (by kernel_rfl) (fun _ _ _ h => h) (Or.inr ⟨by rfl, rfl⟩) (by assumption) ?_))
  (try simp only [Act.put, List.setIfInBounds_toArray, List.set_cons_zero, List.set_cons_succ])
  have y0 := Cells.cell Z4.out 0
  have f0 := Cells.frozen Z4.out 0
  have y1 := Cells.cell Z4.out 1
  have f1 := Cells.frozen Z4.out 1
  refine Reg.step 4 rfl (by kernel_rfl) (by rfl) (fun K hK => ?_)
  go_simp
  have bt : Mov [w.heap.size + 2] w4 ((w4.setCell ⟨w.heap.size + 2, 0, none⟩ (.int .i64 (cap2 : Int))).setCell ⟨w.heap.size + 2, 1, none⟩ (.slice Q2 n2 c2)) := Mov.set2 _ _ _ _
  have L5 := Lib.hid (L4.out.trans (bt.up L4.out.size (by omega)))
  have X5 := Lib.hid (Cells.mov X4.out bt (by simp; try omega))
  have Z5 : Hid (Cells ((w4.setCell ⟨w.heap.size + 2, 0, none⟩ (.int .i64 (cap2 : Int))).setCell ⟨w.heap.size + 2, 1, none⟩ (.slice Q2 n2 c2)) (w.heap.size + 2) 28 #[.int .i64 (cap2 : Int), .slice Q2 n2 c2]) := Cells.set2 Z4.out _ _
  have Y5 := Lib.hid (Cells.mov Y4.out bt (by simp; try omega))
  have T5 := Lib.hid (Cells.mov T4.out bt (by simp; try omega))
  have N5 := Lib.hid (N4.out.mov Z4.out (by decide) (fun x hx q hq => by have h1 := NW.out x hx q hq; omega) bt)
  clear bt hHeld y0 f0 y1 f1
  clear L4 X4 Z4 Y4 T4 N4 
  generalize (w4.setCell ⟨w.heap.size + 2, 0, none⟩ (.int .i64 (cap2 : Int))).setCell ⟨w.heap.size + 2, 1, none⟩ (.slice Q2 n2 c2) = w5 at *
  refine hK.out _ _ (And.intro (NBox.cells X5.out).1 (And.intro (NBox.cells X5.out).2 (show _ ∧ _ ∧ _ ∧ _ ∧ _ ∧ _ from MBox.cells (x := zeroX) T5.out))) (fun hHeld => ?_)
  clear hK K
  (try simp only [Act.put, List.setIfInBounds_toArray, List.set_cons_zero, List.set_cons_succ])
  have y0 := Cells.cell Y5.out 0
  have f0 := Cells.frozen Y5.out 0
  have y1 := Cells.cell Y5.out 1
  have f1 := Cells.frozen Y5.out 1
  have y2 := Cells.cell Y5.out 2
  have f2 := Cells.frozen Y5.out 2
  have y3 := Cells.cell Y5.out 3
  have f3 := Cells.frozen Y5.out 3
  have y4 := Cells.cell Y5.out 4
  have f4 := Cells.frozen Y5.out 4
  have y5 := Cells.cell Y5.out 5
  have f5 := Cells.frozen Y5.out 5
  refine Reg.step 5 rfl (by kernel_rfl) (by rfl) (fun K hK => ?_)
  go_simp
  have bt : Mov [w.heap.size + 3] w5 ((((((w5.setCell ⟨w.heap.size + 3, 0, none⟩ (.int .i64 0)).setCell ⟨w.heap.size + 3, 1, none⟩ (.int .i64 0)).setCell ⟨w.heap.size + 3, 2, none⟩ (.int .i64 0)).setCell ⟨w.heap.size + 3, 3, none⟩ (.int .i64 0)).setCell ⟨w.heap.size + 3, 4, none⟩ (.slice none 0 0)).setCell ⟨w.heap.size + 3, 5, none⟩ (.slice none 0 0)) := Mov.set6 _ _ _ _ _ _ _ _
  have L6 := Lib.hid (L5.out.trans (bt.up L5.out.size (by omega)))
  have X6 := Lib.hid (Cells.mov X5.out bt (by simp; try omega))
  have Z6 := Lib.hid (Cells.mov Z5.out bt (by simp; try omega))
  have Y6 : Hid (Cells ((((((w5.setCell ⟨w.heap.size + 3, 0, none⟩ (.int .i64 0)).setCell ⟨w.heap.size + 3, 1, none⟩ (.int .i64 0)).setCell ⟨w.heap.size + 3, 2, none⟩ (.int .i64 0)).setCell ⟨w.heap.size + 3, 3, none⟩ (.int .i64 0)).setCell ⟨w.heap.size + 3, 4, none⟩ (.slice none 0 0)).setCell ⟨w.heap.size + 3, 5, none⟩ (.slice none 0 0)) (w.heap.size + 3) 39 #[.int .i64 0, .int .i64 0, .int .i64 0, .int .i64 0, .slice none 0 0, .slice none 0 0]) := Cells.set6 Y5.out _ _ _ _ _ _
  have T6 := Lib.hid (Cells.mov T5.out bt (by simp; try omega))
  have N6 := Lib.hid (N5.out.mov_ (fun e => by have h1 := NB.out _ e; omega) (fun x hx q hq => by have h1 := NW.out x hx q hq; omega) bt)
  clear bt hHeld y0 f0 y1 f1 y2 f2 y3 f3 y4 f4 y5 f5
  clear L5 X5 Z5 Y5 T5 N5 
  generalize (((((w5.setCell ⟨w.heap.size + 3, 0, none⟩ (.int .i64 0)).setCell ⟨w.heap.size + 3, 1, none⟩ (.int .i64 0)).setCell ⟨w.heap.size + 3, 2, none⟩ (.int .i64 0)).setCell ⟨w.heap.size + 3, 3, none⟩ (.int .i64 0)).setCell ⟨w.heap.size + 3, 4, none⟩ (.slice none 0 0)).setCell ⟨w.heap.size + 3, 5, none⟩ (.slice none 0 0) = w6 at *
  refine hK.out _ _ (And.intro (NBox.cells X6.out).1 (And.intro (NBox.cells X6.out).2 (show _ ∧ _ ∧ _ ∧ _ ∧ _ ∧ _ from MBox.cells (x := zeroX) T6.out))) (fun hHeld => ?_)
  clear hK K
  (try simp only [Act.put, List.setIfInBounds_toArray, List.set_cons_zero, List.set_cons_succ])
  (first | (refine Reg.take 6 (v := ?_) rfl (by kernel_rfl) (by kernel_rfl) (by kernel_rfl) (fun _ _ _ h => h) (Or.inl ⟨by rfl, ?_⟩) (by assumption) ?_; rotate_left; (focus ((intro W hSW); (try dsimp only at hSW); (try go_split_ands); go_simp; (try (with_reducible rfl)); done))) | (refine Reg.take 6 (v := undef) rfl (by kernel_rfl) (by kernel_rfl) (by kernel_rfl) (fun _ _ _ h => h) (Or.inr ⟨by rfl, rfl⟩) (by assumption) ?_))
  (try simp only [Act.put, List.setIfInBounds_toArray, List.set_cons_zero, List.set_cons_succ])
  (first | (refine Reg.take 7 (v := ?_) rfl (by kernel_rfl) (by kernel_rfl) (by kernel_rfl) (fun _ _ _ h => h) (Or.inl ⟨by rfl, ?_⟩) (by assumption) ?_; rotate_left; (focus ((intro W hSW); (try dsimp only at hSW); (try go_split_ands); go_simp; (try (with_reducible rfl)); done))) | (refine Reg.take 7 (v := undef) rfl (by kernel_rfl) (by kernel_rfl) (by kernel_rfl) (fun _ _ _ h => h) (Or.inr ⟨by rfl, rfl⟩) (by assumption) ?_))
  (try simp only [Act.put, List.setIfInBounds_toArray, List.set_cons_zero, List.set_cons_succ])
  refine wpAnyH_done (by kernel_rfl) ?_ _
  clear hHeld
  go_wp2_with fail
  refine bodyPost_ret_by (results_cc2 rfl _ _ (w.heap.size + 2) (w.heap.size + 3) _ _ _ _ _ _ _ _ rfl Z6.out Try.underlying28 rfl (by kernel_rfl) rfl Y6.out Try.underlying39 rfl (by kernel_rfl)) rfl ?_
  exact ⟨Q2, n2, c2, l2, zeroX, rfl, N6.out, LP.out, rfl, zero_at _, fun q hq => absurd hq zero_bl, L6.out⟩

set_option maxRecDepth 100000 in
set_option maxHeartbeats 6400000 in
theorem model_double {w : World} {cap : Nat} {Q : Option Addr} {n c : Nat} {l : List Mx} (h : NetAt w Q n c l) (hn : n ≤ 5000) (L : Option Addr) (m e : Nat) (i : Int) :
    Calls Try.prog 18 #[nv cap Q n c, .agg #[.int .i64 3, .int .i64 i, .slice L m e]] w (GotV w ((doubleR cap (l.map Mx.p) i).1, (doubleR cap (l.map Mx.p) i).2.1, zM, (doubleR cap (l.map Mx.p) i).2.2, 0)) := by
  have HN := Lib.hid h
  have HC := fun W (h : NetAt W Q n c l) => Lib.hid (docDouble_any (cap := cap) h hn i)
  generalize doubleR cap (l.map Mx.p) i = R at *
  obtain ⟨cap2, pl, er⟩ := R
  show Calls _ _ _ _ (GotV w (cap2, pl, zM, er, 0))
  have L1 : Hid (Below w.heap.size w (((((w.alloc (.cells #[.int .i64 (cap : Int), .slice Q n c] 28)).alloc (.cells #[.int .i64 3, .int .i64 i, .slice L m e] 35)).alloc (.cells #[.int .i64 0, .slice none 0 0] 28)).alloc (.cells #[.int .i64 0, .int .i64 0, .int .i64 0, .int .i64 0, .slice none 0 0, .slice none 0 0] 39)).alloc (.cells #[.int .i64 0, .int .i64 0, .int .i64 0, .int .i64 0, .slice none 0 0, .slice none 0 0] 39))) := ((((((Below.refl _ w).alloc (by first | exact Nat.le_refl _ | (simp; try omega)) _).alloc (by first | exact Nat.le_refl _ | (simp; try omega)) _).alloc (by first | exact Nat.le_refl _ | (simp; try omega)) _).alloc (by first | exact Nat.le_refl _ | (simp; try omega)) _).alloc (by first | exact Nat.le_refl _ | (simp; try omega)) _)
  have X1 : Hid (Cells (((((w.alloc (.cells #[.int .i64 (cap : Int), .slice Q n c] 28)).alloc (.cells #[.int .i64 3, .int .i64 i, .slice L m e] 35)).alloc (.cells #[.int .i64 0, .slice none 0 0] 28)).alloc (.cells #[.int .i64 0, .int .i64 0, .int .i64 0, .int .i64 0, .slice none 0 0, .slice none 0 0] 39)).alloc (.cells #[.int .i64 0, .int .i64 0, .int .i64 0, .int .i64 0, .slice none 0 0, .slice none 0 0] 39)) (w.heap.size) 28 #[.int .i64 (cap : Int), .slice Q n c]) := by
    have := Cells.new w #[.int .i64 (cap : Int), .slice Q n c] 28
    (try simp only [World.size_alloc] at this)
    exact (Cells.alloc (Cells.alloc (Cells.alloc (Cells.alloc this _) _) _) _)
  have P1 : Hid (Cells (((((w.alloc (.cells #[.int .i64 (cap : Int), .slice Q n c] 28)).alloc (.cells #[.int .i64 3, .int .i64 i, .slice L m e] 35)).alloc (.cells #[.int .i64 0, .slice none 0 0] 28)).alloc (.cells #[.int .i64 0, .int .i64 0, .int .i64 0, .int .i64 0, .slice none 0 0, .slice none 0 0] 39)).alloc (.cells #[.int .i64 0, .int .i64 0, .int .i64 0, .int .i64 0, .slice none 0 0, .slice none 0 0] 39)) (w.heap.size + 1) 35 #[.int .i64 3, .int .i64 i, .slice L m e]) := by
    have := Cells.new (w.alloc (.cells #[.int .i64 (cap : Int), .slice Q n c] 28)) #[.int .i64 3, .int .i64 i, .slice L m e] 35
    (try simp only [World.size_alloc] at this)
    exact (Cells.alloc (Cells.alloc (Cells.alloc this _) _) _)
  have Z1 : Hid (Cells (((((w.alloc (.cells #[.int .i64 (cap : Int), .slice Q n c] 28)).alloc (.cells #[.int .i64 3, .int .i64 i, .slice L m e] 35)).alloc (.cells #[.int .i64 0, .slice none 0 0] 28)).alloc (.cells #[.int .i64 0, .int .i64 0, .int .i64 0, .int .i64 0, .slice none 0 0, .slice none 0 0] 39)).alloc (.cells #[.int .i64 0, .int .i64 0, .int .i64 0, .int .i64 0, .slice none 0 0, .slice none 0 0] 39)) (w.heap.size + 2) 28 #[.int .i64 0, .slice none 0 0]) := by
    have := Cells.new ((w.alloc (.cells #[.int .i64 (cap : Int), .slice Q n c] 28)).alloc (.cells #[.int .i64 3, .int .i64 i, .slice L m e] 35)) #[.int .i64 0, .slice none 0 0] 28
    (try simp only [World.size_alloc] at this)
    exact (Cells.alloc (Cells.alloc this _) _)
  have Y1 : Hid (Cells (((((w.alloc (.cells #[.int .i64 (cap : Int), .slice Q n c] 28)).alloc (.cells #[.int .i64 3, .int .i64 i, .slice L m e] 35)).alloc (.cells #[.int .i64 0, .slice none 0 0] 28)).alloc (.cells #[.int .i64 0, .int .i64 0, .int .i64 0, .int .i64 0, .slice none 0 0, .slice none 0 0] 39)).alloc (.cells #[.int .i64 0, .int .i64 0, .int .i64 0, .int .i64 0, .slice none 0 0, .slice none 0 0] 39)) (w.heap.size + 3) 39 #[.int .i64 0, .int .i64 0, .int .i64 0, .int .i64 0, .slice none 0 0, .slice none 0 0]) := by
    have := Cells.new (((w.alloc (.cells #[.int .i64 (cap : Int), .slice Q n c] 28)).alloc (.cells #[.int .i64 3, .int .i64 i, .slice L m e] 35)).alloc (.cells #[.int .i64 0, .slice none 0 0] 28)) #[.int .i64 0, .int .i64 0, .int .i64 0, .int .i64 0, .slice none 0 0, .slice none 0 0] 39
    (try simp only [World.size_alloc] at this)
    exact (Cells.alloc this _)
  have T1 : Hid (Cells (((((w.alloc (.cells #[.int .i64 (cap : Int), .slice Q n c] 28)).alloc (.cells #[.int .i64 3, .int .i64 i, .slice L m e] 35)).alloc (.cells #[.int .i64 0, .slice none 0 0] 28)).alloc (.cells #[.int .i64 0, .int .i64 0, .int .i64 0, .int .i64 0, .slice none 0 0, .slice none 0 0] 39)).alloc (.cells #[.int .i64 0, .int .i64 0, .int .i64 0, .int .i64 0, .slice none 0 0, .slice none 0 0] 39)) (w.heap.size + 4) 39 #[.int .i64 0, .int .i64 0, .int .i64 0, .int .i64 0, .slice none 0 0, .slice none 0 0]) := by
    have := Cells.new ((((w.alloc (.cells #[.int .i64 (cap : Int), .slice Q n c] 28)).alloc (.cells #[.int .i64 3, .int .i64 i, .slice L m e] 35)).alloc (.cells #[.int .i64 0, .slice none 0 0] 28)).alloc (.cells #[.int .i64 0, .int .i64 0, .int .i64 0, .int .i64 0, .slice none 0 0, .slice none 0 0] 39)) #[.int .i64 0, .int .i64 0, .int .i64 0, .int .i64 0, .slice none 0 0, .slice none 0 0] 39
    (try simp only [World.size_alloc] at this)
    exact this
  have SZ : Hid ((((((w.alloc (.cells #[.int .i64 (cap : Int), .slice Q n c] 28)).alloc (.cells #[.int .i64 3, .int .i64 i, .slice L m e] 35)).alloc (.cells #[.int .i64 0, .slice none 0 0] 28)).alloc (.cells #[.int .i64 0, .int .i64 0, .int .i64 0, .int .i64 0, .slice none 0 0, .slice none 0 0] 39)).alloc (.cells #[.int .i64 0, .int .i64 0, .int .i64 0, .int .i64 0, .slice none 0 0, .slice none 0 0] 39)).heap.size = w.heap.size + 5) := by show _ = _; simp
  clear h
  unfold nv at *
  go_enter Try.func18, Try.ntmps18
  go_upto_region 16 with (first | (go_at_call 41; refine (HC _ (HN.out.below L1.out)).out.mono ?_; rintro en w2 ⟨Q2, n2, c2, l2, rfl, hO, hP, hb⟩; have L2 := Lib.hid (L1.out.trans (hb.mono L1.out.size)); have X2 := Lib.hid (Cells.below X1.out hb); have Z2 := Lib.hid (Cells.below Z1.out hb); have Y2 := Lib.hid (Cells.below Y1.out hb); have T2 := Lib.hid (Cells.below T1.out hb); obtain ⟨k0, k1⟩ := NBox.cells X2.out; have g0 := Cells.frozen X2.out 0; have g1 := Cells.frozen X2.out 1; have N2 := Lib.hid ((hO.lower L1.out.size).base_ L1.out.size); have NW : Hid (∀ x ∈ l2, ∀ q, Bl x q → w.heap.size + 5 ≤ q) := (fun x hx q hq => by have h1 := hO.low x hx q hq; have h2 := SZ.out; omega); have NB : Hid (∀ q, (Value.slice Q2 n2 c2).ownBlock = some q → w.heap.size + 5 ≤ q) := (fun q hq => by have h1 := (hO.own.lt q hq).1; have h2 := SZ.out; omega); have LP := Lib.hid hP; (try unfold nv); (try unfold mxv); clear hb hO hP) | fail)
  clear k0 k1 g0 g1 L1 X1 P1 Z1 Y1 T1 SZ HC HN
  have bt : Mov [w.heap.size] w2 ((w2.setCell ⟨w.heap.size, 0, none⟩ (.int .i64 (cap2 : Int))).setCell ⟨w.heap.size, 1, none⟩ (.slice Q2 n2 c2)) := Mov.set2 _ _ _ _
  have L3 := Lib.hid (L2.out.trans (bt.up L2.out.size (by omega)))
  have X3 : Hid (NBox ((w2.setCell ⟨w.heap.size, 0, none⟩ (.int .i64 (cap2 : Int))).setCell ⟨w.heap.size, 1, none⟩ (.slice Q2 n2 c2)) (w.heap.size) cap2 Q2 n2 c2) := Cells.set2 X2.out _ _
  have Z3 := Lib.hid (Cells.mov Z2.out bt (by simp; try omega))
  have Y3 := Lib.hid (Cells.mov Y2.out bt (by simp; try omega))
  have T3 := Lib.hid (Cells.mov T2.out bt (by simp; try omega))
  have N3 := Lib.hid (N2.out.mov_ (fun e => by have h1 := NB.out _ e; omega) (fun x hx q hq => by have h1 := NW.out x hx q hq; omega) bt)
  clear bt L2 X2 Z2 Y2 T2 N2
  generalize (w2.setCell ⟨w.heap.size, 0, none⟩ (.int .i64 (cap2 : Int))).setCell ⟨w.heap.size, 1, none⟩ (.slice Q2 n2 c2) = w3 at *
  have L4 := Lib.hid L3.out.drew
  have X4 := Lib.hid (Cells.below X3.out ((Below.refl _ w3).drew))
  have Z4 := Lib.hid (Cells.below Z3.out ((Below.refl _ w3).drew))
  have Y4 := Lib.hid (Cells.below Y3.out ((Below.refl _ w3).drew))
  have T4 := Lib.hid (Cells.below T3.out ((Below.refl _ w3).drew))
  have N4 := Lib.hid (OwnN.below N3.out ((Below.refl _ w3).drew))
  refine wp_region_held_drew (S := fun W => W.cell? ⟨w.heap.size, 0, none⟩ = some (.int .i64 (cap2 : Int)) ∧ W.cell? ⟨w.heap.size, 1, none⟩ = some (.slice Q2 n2 c2) ∧ W.cell? ⟨w.heap.size + 4, 0, none⟩ = some (.int .i64 0) ∧ W.cell? ⟨w.heap.size + 4, 1, none⟩ = some (.int .i64 0) ∧ W.cell? ⟨w.heap.size + 4, 2, none⟩ = some (.int .i64 0) ∧ W.cell? ⟨w.heap.size + 4, 3, none⟩ = some (.int .i64 0) ∧ W.cell? ⟨w.heap.size + 4, 4, none⟩ = some (.slice none 0 0) ∧ W.cell? ⟨w.heap.size + 4, 5, none⟩ = some (.slice none 0 0)) (by kernel_rfl) (And.intro (NBox.cells X4.out).1 (And.intro (NBox.cells X4.out).2 (show _ ∧ _ ∧ _ ∧ _ ∧ _ ∧ _ from MBox.cells (x := zeroX) T4.out))) (fun hHeld => ?_)
  generalize w3.drew = w4 at *
  clear L3 X3 Z3 Y3 T3 N3 
  (first | (refine Reg.take 0 (v := ?_) rfl (by kernel_rfl) (by kernel_rfl) (by kernel_rfl) (fun _ _ _ h => h) (Or.inl ⟨by rfl, ?_⟩) (by assumption) ?_; rotate_left; (focus ((intro W hSW); (try dsimp only at hSW); (try go_split_ands); go_simp; (try (with_reducible rfl)); done))) | (refine Reg.take 0 (v := undef) rfl (by kernel_rfl) (by kernel_rfl) (by kernel_rfl) (fun _ _ _ h => h) (Or.inr ⟨by rfl, rfl⟩) (by assumption) ?_))
  (try simp only [Act.put, List.setIfInBounds_toArray, List.set_cons_zero, List.set_cons_succ])
  (first | (refine Reg.take 1 (v := ?_) rfl (by kernel_rfl) (by kernel_rfl) (by kernel_rfl) (fun _ _ _ h => h) (Or.inl ⟨by rfl, ?_⟩) (by assumption) ?_; rotate_left; (focus ((intro W hSW); (try dsimp only at hSW); (try go_split_ands); go_simp; (try (with_reducible rfl)); done))) | (refine Reg.take 1 (v := undef) rfl (by kernel_rfl) (by kernel_rfl) (by kernel_rfl) (fun _ _ _ h => h) (Or.inr ⟨by rfl, rfl⟩) (by assumption) ?_))
  (try simp only [Act.put, List.setIfInBounds_toArray, List.set_cons_zero, List.set_cons_succ])
  (first | (refine Reg.take 2 (v := ?_) rfl (by kernel_rfl) (by kernel_rfl) (by kernel_rfl) (fun _ _ _ h => h) (Or.inl ⟨by rfl, ?_⟩) (by assumption) ?_; rotate_left; (focus ((intro W hSW); (try dsimp only at hSW); (try go_split_ands); go_simp; (try (with_reducible rfl)); done))) | (refine Reg.take 2 (v := undef) rfl (by kernel_rfl) (by kernel_rfl) (by kernel_rfl) (fun _ _ _ h => h) (Or.inr ⟨by rfl, rfl⟩) (by assumption) ?_))
  (try simp only [Act.put, List.setIfInBounds_toArray, List.set_cons_zero, List.set_cons_succ])
  (first | (refine Reg.take 3 (v := ?_) rfl (by kernel_rfl) (by kernel_rfl) (by kernel_rfl) (fun _ _ _ h => h) (Or.inl ⟨by rfl, ?_⟩) (by assumption) ?_; rotate_left; (focus ((intro W hSW); (try dsimp only at hSW); (try go_split_ands); go_simp; (try (with_reducible rfl)); done))) | (refine Reg.take 3 (v := undef) rfl (by kernel_rfl) (by kernel_rfl) (by kernel_rfl) (fun _ _ _ h => h) (Or.inr ⟨by rfl, rfl⟩) (by assumption) ?_))
  (try simp only [Act.put, List.setIfInBounds_toArray, List.set_cons_zero, List.set_cons_succ])
  have y0 := Cells.cell Z4.out 0
  have f0 := Cells.frozen Z4.out 0
  have y1 := Cells.cell Z4.out 1
  have f1 := Cells.frozen Z4.out 1
  refine Reg.step 4 rfl (by kernel_rfl) (by rfl) (fun K hK => ?_)
  go_simp
  have bt : Mov [w.heap.size + 2] w4 ((w4.setCell ⟨w.heap.size + 2, 0, none⟩ (.int .i64 (cap2 : Int))).setCell ⟨w.heap.size + 2, 1, none⟩ (.slice Q2 n2 c2)) := Mov.set2 _ _ _ _
  have L5 := Lib.hid (L4.out.trans (bt.up L4.out.size (by omega)))
  have X5 := Lib.hid (Cells.mov X4.out bt (by simp; try omega))
  have Z5 : Hid (Cells ((w4.setCell ⟨w.heap.size + 2, 0, none⟩ (.int .i64 (cap2 : Int))).setCell ⟨w.heap.size + 2, 1, none⟩ (.slice Q2 n2 c2)) (w.heap.size + 2) 28 #[.int .i64 (cap2 : Int), .slice Q2 n2 c2]) := Cells.set2 Z4.out _ _
  have Y5 := Lib.hid (Cells.mov Y4.out bt (by simp; try omega))
  have T5 := Lib.hid (Cells.mov T4.out bt (by simp; try omega))
  have N5 := Lib.hid (N4.out.mov Z4.out (by decide) (fun x hx q hq => by have h1 := NW.out x hx q hq; omega) bt)
  clear bt hHeld y0 f0 y1 f1
  clear L4 X4 Z4 Y4 T4 N4 
  generalize (w4.setCell ⟨w.heap.size + 2, 0, none⟩ (.int .i64 (cap2 : Int))).setCell ⟨w.heap.size + 2, 1, none⟩ (.slice Q2 n2 c2) = w5 at *
  refine hK.out _ _ (And.intro (NBox.cells X5.out).1 (And.intro (NBox.cells X5.out).2 (show _ ∧ _ ∧ _ ∧ _ ∧ _ ∧ _ from MBox.cells (x := zeroX) T5.out))) (fun hHeld => ?_)
  clear hK K
  (try simp only [Act.put, List.setIfInBounds_toArray, List.set_cons_zero, List.set_cons_succ])
  have y0 := Cells.cell Y5.out 0
  have f0 := Cells.frozen Y5.out 0
  have y1 := Cells.cell Y5.out 1
  have f1 := Cells.frozen Y5.out 1
  have y2 := Cells.cell Y5.out 2
  have f2 := Cells.frozen Y5.out 2
  have y3 := Cells.cell Y5.out 3
  have f3 := Cells.frozen Y5.out 3
  have y4 := Cells.cell Y5.out 4
  have f4 := Cells.frozen Y5.out 4
  have y5 := Cells.cell Y5.out 5
  have f5 := Cells.frozen Y5.out 5
  refine Reg.step 5 rfl (by kernel_rfl) (by rfl) (fun K hK => ?_)
  go_simp
  have bt : Mov [w.heap.size + 3] w5 ((((((w5.setCell ⟨w.heap.size + 3, 0, none⟩ (.int .i64 0)).setCell ⟨w.heap.size + 3, 1, none⟩ (.int .i64 0)).setCell ⟨w.heap.size + 3, 2, none⟩ (.int .i64 0)).setCell ⟨w.heap.size + 3, 3, none⟩ (.int .i64 0)).setCell ⟨w.heap.size + 3, 4, none⟩ (.slice none 0 0)).setCell ⟨w.heap.size + 3, 5, none⟩ (.slice none 0 0)) := Mov.set6 _ _ _ _ _ _ _ _
  have L6 := Lib.hid (L5.out.trans (bt.up L5.out.size (by omega)))
  have X6 := Lib.hid (Cells.mov X5.out bt (by simp; try omega))
  have Z6 := Lib.hid (Cells.mov Z5.out bt (by simp; try omega))
  have Y6 : Hid (Cells ((((((w5.setCell ⟨w.heap.size + 3, 0, none⟩ (.int .i64 0)).setCell ⟨w.heap.size + 3, 1, none⟩ (.int .i64 0)).setCell ⟨w.heap.size + 3, 2, none⟩ (.int .i64 0)).setCell ⟨w.heap.size + 3, 3, none⟩ (.int .i64 0)).setCell ⟨w.heap.size + 3, 4, none⟩ (.slice none 0 0)).setCell ⟨w.heap.size + 3, 5, none⟩ (.slice none 0 0)) (w.heap.size + 3) 39 #[.int .i64 0, .int .i64 0, .int .i64 0, .int .i64 0, .slice none 0 0, .slice none 0 0]) := Cells.set6 Y5.out _ _ _ _ _ _
  have T6 := Lib.hid (Cells.mov T5.out bt (by simp; try omega))
  have N6 := Lib.hid (N5.out.mov_ (fun e => by have h1 := NB.out _ e; omega) (fun x hx q hq => by have h1 := NW.out x hx q hq; omega) bt)
  clear bt hHeld y0 f0 y1 f1 y2 f2 y3 f3 y4 f4 y5 f5
  clear L5 X5 Z5 Y5 T5 N5 
  generalize (((((w5.setCell ⟨w.heap.size + 3, 0, none⟩ (.int .i64 0)).setCell ⟨w.heap.size + 3, 1, none⟩ (.int .i64 0)).setCell ⟨w.heap.size + 3, 2, none⟩ (.int .i64 0)).setCell ⟨w.heap.size + 3, 3, none⟩ (.int .i64 0)).setCell ⟨w.heap.size + 3, 4, none⟩ (.slice none 0 0)).setCell ⟨w.heap.size + 3, 5, none⟩ (.slice none 0 0) = w6 at *
  refine hK.out _ _ (And.intro (NBox.cells X6.out).1 (And.intro (NBox.cells X6.out).2 (show _ ∧ _ ∧ _ ∧ _ ∧ _ ∧ _ from MBox.cells (x := zeroX) T6.out))) (fun hHeld => ?_)
  clear hK K
  (try simp only [Act.put, List.setIfInBounds_toArray, List.set_cons_zero, List.set_cons_succ])
  (first | (refine Reg.take 6 (v := ?_) rfl (by kernel_rfl) (by kernel_rfl) (by kernel_rfl) (fun _ _ _ h => h) (Or.inl ⟨by rfl, ?_⟩) (by assumption) ?_; rotate_left; (focus ((intro W hSW); (try dsimp only at hSW); (try go_split_ands); go_simp; (try (with_reducible rfl)); done))) | (refine Reg.take 6 (v := undef) rfl (by kernel_rfl) (by kernel_rfl) (by kernel_rfl) (fun _ _ _ h => h) (Or.inr ⟨by rfl, rfl⟩) (by assumption) ?_))
  (try simp only [Act.put, List.setIfInBounds_toArray, List.set_cons_zero, List.set_cons_succ])
  (first | (refine Reg.take 7 (v := ?_) rfl (by kernel_rfl) (by kernel_rfl) (by kernel_rfl) (fun _ _ _ h => h) (Or.inl ⟨by rfl, ?_⟩) (by assumption) ?_; rotate_left; (focus ((intro W hSW); (try dsimp only at hSW); (try go_split_ands); go_simp; (try (with_reducible rfl)); done))) | (refine Reg.take 7 (v := undef) rfl (by kernel_rfl) (by kernel_rfl) (by kernel_rfl) (fun _ _ _ h => h) (Or.inr ⟨by rfl, rfl⟩) (by assumption) ?_))
  (try simp only [Act.put, List.setIfInBounds_toArray, List.set_cons_zero, List.set_cons_succ])
  refine wpAnyH_done (by kernel_rfl) ?_ _
  clear hHeld
  go_wp2_with fail
  refine bodyPost_ret_by (results_cc2 rfl _ _ (w.heap.size + 2) (w.heap.size + 3) _ _ _ _ _ _ _ _ rfl Z6.out Try.underlying28 rfl (by kernel_rfl) rfl Y6.out Try.underlying39 rfl (by kernel_rfl)) rfl ?_
  exact ⟨Q2, n2, c2, l2, zeroX, rfl, N6.out, LP.out, rfl, zero_at _, fun q hq => absurd hq zero_bl, L6.out⟩

set_option maxRecDepth 100000 in
set_option maxHeartbeats 6400000 in
theorem model_later {w : World} {cap : Nat} {Q : Option Addr} {n c : Nat} {l : List Mx} (h : NetAt w Q n c l) (hn : n ≤ 5000) (L : Option Addr) (m e : Nat) (i : Int) :
    Calls Try.prog 18 #[nv cap Q n c, .agg #[.int .i64 4, .int .i64 i, .slice L m e]] w (GotV w ((laterR cap (l.map Mx.p) i).1, (laterR cap (l.map Mx.p) i).2.1, zM, (laterR cap (l.map Mx.p) i).2.2, 0)) := by
  have HN := Lib.hid h
  have HC := fun W (h : NetAt W Q n c l) => Lib.hid (docLater_any (cap := cap) h hn i)
  generalize laterR cap (l.map Mx.p) i = R at *
  obtain ⟨cap2, pl, er⟩ := R
  show Calls _ _ _ _ (GotV w (cap2, pl, zM, er, 0))
  have L1 : Hid (Below w.heap.size w (((((w.alloc (.cells #[.int .i64 (cap : Int), .slice Q n c] 28)).alloc (.cells #[.int .i64 4, .int .i64 i, .slice L m e] 35)).alloc (.cells #[.int .i64 0, .slice none 0 0] 28)).alloc (.cells #[.int .i64 0, .int .i64 0, .int .i64 0, .int .i64 0, .slice none 0 0, .slice none 0 0] 39)).alloc (.cells #[.int .i64 0, .int .i64 0, .int .i64 0, .int .i64 0, .slice none 0 0, .slice none 0 0] 39))) := ((((((Below.refl _ w).alloc (by first | exact Nat.le_refl _ | (simp; try omega)) _).alloc (by first | exact Nat.le_refl _ | (simp; try omega)) _).alloc (by first | exact Nat.le_refl _ | (simp; try omega)) _).alloc (by first | exact Nat.le_refl _ | (simp; try omega)) _).alloc (by first | exact Nat.le_refl _ | (simp; try omega)) _)
  have X1 : Hid (Cells (((((w.alloc (.cells #[.int .i64 (cap : Int), .slice Q n c] 28)).alloc (.cells #[.int .i64 4, .int .i64 i, .slice L m e] 35)).alloc (.cells #[.int .i64 0, .slice none 0 0] 28)).alloc (.cells #[.int .i64 0, .int .i64 0, .int .i64 0, .int .i64 0, .slice none 0 0, .slice none 0 0] 39)).alloc (.cells #[.int .i64 0, .int .i64 0, .int .i64 0, .int .i64 0, .slice none 0 0, .slice none 0 0] 39)) (w.heap.size) 28 #[.int .i64 (cap : Int), .slice Q n c]) := by
    have := Cells.new w #[.int .i64 (cap : Int), .slice Q n c] 28
    (try simp only [World.size_alloc] at this)
    exact (Cells.alloc (Cells.alloc (Cells.alloc (Cells.alloc this _) _) _) _)
  have P1 : Hid (Cells (((((w.alloc (.cells #[.int .i64 (cap : Int), .slice Q n c] 28)).alloc (.cells #[.int .i64 4, .int .i64 i, .slice L m e] 35)).alloc (.cells #[.int .i64 0, .slice none 0 0] 28)).alloc (.cells #[.int .i64 0, .int .i64 0, .int .i64 0, .int .i64 0, .slice none 0 0, .slice none 0 0] 39)).alloc (.cells #[.int .i64 0, .int .i64 0, .int .i64 0, .int .i64 0, .slice none 0 0, .slice none 0 0] 39)) (w.heap.size + 1) 35 #[.int .i64 4, .int .i64 i, .slice L m e]) := by
    have := Cells.new (w.alloc (.cells #[.int .i64 (cap : Int), .slice Q n c] 28)) #[.int .i64 4, .int .i64 i, .slice L m e] 35
    (try simp only [World.size_alloc] at this)
    exact (Cells.alloc (Cells.alloc (Cells.alloc this _) _) _)
  have Z1 : Hid (Cells (((((w.alloc (.cells #[.int .i64 (cap : Int), .slice Q n c] 28)).alloc (.cells #[.int .i64 4, .int .i64 i, .slice L m e] 35)).alloc (.cells #[.int .i64 0, .slice none 0 0] 28)).alloc (.cells #[.int .i64 0, .int .i64 0, .int .i64 0, .int .i64 0, .slice none 0 0, .slice none 0 0] 39)).alloc (.cells #[.int .i64 0, .int .i64 0, .int .i64 0, .int .i64 0, .slice none 0 0, .slice none 0 0] 39)) (w.heap.size + 2) 28 #[.int .i64 0, .slice none 0 0]) := by
    have := Cells.new ((w.alloc (.cells #[.int .i64 (cap : Int), .slice Q n c] 28)).alloc (.cells #[.int .i64 4, .int .i64 i, .slice L m e] 35)) #[.int .i64 0, .slice none 0 0] 28
    (try simp only [World.size_alloc] at this)
    exact (Cells.alloc (Cells.alloc this _) _)
  have Y1 : Hid (Cells (((((w.alloc (.cells #[.int .i64 (cap : Int), .slice Q n c] 28)).alloc (.cells #[.int .i64 4, .int .i64 i, .slice L m e] 35)).alloc (.cells #[.int .i64 0, .slice none 0 0] 28)).alloc (.cells #[.int .i64 0, .int .i64 0, .int .i64 0, .int .i64 0, .slice none 0 0, .slice none 0 0] 39)).alloc (.cells #[.int .i64 0, .int .i64 0, .int .i64 0, .int .i64 0, .slice none 0 0, .slice none 0 0] 39)) (w.heap.size + 3) 39 #[.int .i64 0, .int .i64 0, .int .i64 0, .int .i64 0, .slice none 0 0, .slice none 0 0]) := by
    have := Cells.new (((w.alloc (.cells #[.int .i64 (cap : Int), .slice Q n c] 28)).alloc (.cells #[.int .i64 4, .int .i64 i, .slice L m e] 35)).alloc (.cells #[.int .i64 0, .slice none 0 0] 28)) #[.int .i64 0, .int .i64 0, .int .i64 0, .int .i64 0, .slice none 0 0, .slice none 0 0] 39
    (try simp only [World.size_alloc] at this)
    exact (Cells.alloc this _)
  have T1 : Hid (Cells (((((w.alloc (.cells #[.int .i64 (cap : Int), .slice Q n c] 28)).alloc (.cells #[.int .i64 4, .int .i64 i, .slice L m e] 35)).alloc (.cells #[.int .i64 0, .slice none 0 0] 28)).alloc (.cells #[.int .i64 0, .int .i64 0, .int .i64 0, .int .i64 0, .slice none 0 0, .slice none 0 0] 39)).alloc (.cells #[.int .i64 0, .int .i64 0, .int .i64 0, .int .i64 0, .slice none 0 0, .slice none 0 0] 39)) (w.heap.size + 4) 39 #[.int .i64 0, .int .i64 0, .int .i64 0, .int .i64 0, .slice none 0 0, .slice none 0 0]) := by
    have := Cells.new ((((w.alloc (.cells #[.int .i64 (cap : Int), .slice Q n c] 28)).alloc (.cells #[.int .i64 4, .int .i64 i, .slice L m e] 35)).alloc (.cells #[.int .i64 0, .slice none 0 0] 28)).alloc (.cells #[.int .i64 0, .int .i64 0, .int .i64 0, .int .i64 0, .slice none 0 0, .slice none 0 0] 39)) #[.int .i64 0, .int .i64 0, .int .i64 0, .int .i64 0, .slice none 0 0, .slice none 0 0] 39
    (try simp only [World.size_alloc] at this)
    exact this
  have SZ : Hid ((((((w.alloc (.cells #[.int .i64 (cap : Int), .slice Q n c] 28)).alloc (.cells #[.int .i64 4, .int .i64 i, .slice L m e] 35)).alloc (.cells #[.int .i64 0, .slice none 0 0] 28)).alloc (.cells #[.int .i64 0, .int .i64 0, .int .i64 0, .int .i64 0, .slice none 0 0, .slice none 0 0] 39)).alloc (.cells #[.int .i64 0, .int .i64 0, .int .i64 0, .int .i64 0, .slice none 0 0, .slice none 0 0] 39)).heap.size = w.heap.size + 5) := by show _ = _; simp
  clear h
  unfold nv at *
  go_enter Try.func18, Try.ntmps18
  go_upto_region 16 with (first | (go_at_call 42; refine (HC _ (HN.out.below L1.out)).out.mono ?_; rintro en w2 ⟨Q2, n2, c2, l2, rfl, hO, hP, hb⟩; have L2 := Lib.hid (L1.out.trans (hb.mono L1.out.size)); have X2 := Lib.hid (Cells.below X1.out hb); have Z2 := Lib.hid (Cells.below Z1.out hb); have Y2 := Lib.hid (Cells.below Y1.out hb); have T2 := Lib.hid (Cells.below T1.out hb); obtain ⟨k0, k1⟩ := NBox.cells X2.out; have g0 := Cells.frozen X2.out 0; have g1 := Cells.frozen X2.out 1; have N2 := Lib.hid ((hO.lower L1.out.size).base_ L1.out.size); have NW : Hid (∀ x ∈ l2, ∀ q, Bl x q → w.heap.size + 5 ≤ q) := (fun x hx q hq => by have h1 := hO.low x hx q hq; have h2 := SZ.out; omega); have NB : Hid (∀ q, (Value.slice Q2 n2 c2).ownBlock = some q → w.heap.size + 5 ≤ q) := (fun q hq => by have h1 := (hO.own.lt q hq).1; have h2 := SZ.out; omega); have LP := Lib.hid hP; (try unfold nv); (try unfold mxv); clear hb hO hP) | fail)
  clear k0 k1 g0 g1 L1 X1 P1 Z1 Y1 T1 SZ HC HN
  have bt : Mov [w.heap.size] w2 ((w2.setCell ⟨w.heap.size, 0, none⟩ (.int .i64 (cap2 : Int))).setCell ⟨w.heap.size, 1, none⟩ (.slice Q2 n2 c2)) := Mov.set2 _ _ _ _
  have L3 := Lib.hid (L2.out.trans (bt.up L2.out.size (by omega)))
  have X3 : Hid (NBox ((w2.setCell ⟨w.heap.size, 0, none⟩ (.int .i64 (cap2 : Int))).setCell ⟨w.heap.size, 1, none⟩ (.slice Q2 n2 c2)) (w.heap.size) cap2 Q2 n2 c2) := Cells.set2 X2.out _ _
  have Z3 := Lib.hid (Cells.mov Z2.out bt (by simp; try omega))
  have Y3 := Lib.hid (Cells.mov Y2.out bt (by simp; try omega))
  have T3 := Lib.hid (Cells.mov T2.out bt (by simp; try omega))
  have N3 := Lib.hid (N2.out.mov_ (fun e => by have h1 := NB.out _ e; omega) (fun x hx q hq => by have h1 := NW.out x hx q hq; omega) bt)
  clear bt L2 X2 Z2 Y2 T2 N2
  generalize (w2.setCell ⟨w.heap.size, 0, none⟩ (.int .i64 (cap2 : Int))).setCell ⟨w.heap.size, 1, none⟩ (.slice Q2 n2 c2) = w3 at *
  have L4 := Lib.hid L3.out.drew
  have X4 := Lib.hid (Cells.below X3.out ((Below.refl _ w3).drew))
  have Z4 := Lib.hid (Cells.below Z3.out ((Below.refl _ w3).drew))
  have Y4 := Lib.hid (Cells.below Y3.out ((Below.refl _ w3).drew))
  have T4 := Lib.hid (Cells.below T3.out ((Below.refl _ w3).drew))
  have N4 := Lib.hid (OwnN.below N3.out ((Below.refl _ w3).drew))
  refine wp_region_held_drew (S := fun W => W.cell? ⟨w.heap.size, 0, none⟩ = some (.int .i64 (cap2 : Int)) ∧ W.cell? ⟨w.heap.size, 1, none⟩ = some (.slice Q2 n2 c2) ∧ W.cell? ⟨w.heap.size + 4, 0, none⟩ = some (.int .i64 0) ∧ W.cell? ⟨w.heap.size + 4, 1, none⟩ = some (.int .i64 0) ∧ W.cell? ⟨w.heap.size + 4, 2, none⟩ = some (.int .i64 0) ∧ W.cell? ⟨w.heap.size + 4, 3, none⟩ = some (.int .i64 0) ∧ W.cell? ⟨w.heap.size + 4, 4, none⟩ = some (.slice none 0 0) ∧ W.cell? ⟨w.heap.size + 4, 5, none⟩ = some (.slice none 0 0)) (by kernel_rfl) (And.intro (NBox.cells X4.out).1 (And.intro (NBox.cells X4.out).2 (show _ ∧ _ ∧ _ ∧ _ ∧ _ ∧ _ from MBox.cells (x := zeroX) T4.out))) (fun hHeld => ?_)
  generalize w3.drew = w4 at *
  clear L3 X3 Z3 Y3 T3 N3 
  (first | (refine Reg.take 0 (v := ?_) rfl (by kernel_rfl) (by kernel_rfl) (by kernel_rfl) (fun _ _ _ h => h) (Or.inl ⟨by rfl, ?_⟩) (by assumption) ?_; rotate_left; (focus ((intro W hSW); (try dsimp only at hSW); (try go_split_ands); go_simp; (try (with_reducible rfl)); done))) | (refine Reg.take 0 (v := undef) rfl (by kernel_rfl) (by kernel_rfl) (by kernel_rfl) (fun _ _ _ h => h) (Or.inr ⟨by rfl, rfl⟩) (by assumption) ?_))
  (try simp only [Act.put, List.setIfInBounds_toArray, List.set_cons_zero, List.set_cons_succ])
  (first | (refine Reg.take 1 (v := ?_) rfl (by kernel_rfl) (by kernel_rfl) (by kernel_rfl) (fun _ _ _ h => h) (Or.inl ⟨by rfl, ?_⟩) (by assumption) ?_; rotate_left; (focus ((intro W hSW); (try dsimp only at hSW); (try go_split_ands); go_simp; (try (with_reducible rfl)); done))) | (refine Reg.take 1 (v := undef) rfl (by kernel_rfl) (by kernel_rfl) (by kernel_rfl) (fun _ _ _ h => h) (Or.inr ⟨by rfl, rfl⟩) (by assumption) ?_))
  (try simp only [Act.put, List.setIfInBounds_toArray, List.set_cons_zero, List.set_cons_succ])
  (first | (refine Reg.take 2 (v := ?_) rfl (by kernel_rfl) (by kernel_rfl) (by kernel_rfl) (fun _ _ _ h => h) (Or.inl ⟨by rfl, ?_⟩) (by assumption) ?_; rotate_left; (focus ((intro W hSW); (try dsimp only at hSW); (try go_split_ands); go_simp; (try (with_reducible rfl)); done))) | (refine Reg.take 2 (v := undef) rfl (by kernel_rfl) (by kernel_rfl) (by kernel_rfl) (fun _ _ _ h => h) (Or.inr ⟨by rfl, rfl⟩) (by assumption) ?_))
  (try simp only [Act.put, List.setIfInBounds_toArray, List.set_cons_zero, List.set_cons_succ])
  (first | (refine Reg.take 3 (v := ?_) rfl (by kernel_rfl) (by kernel_rfl) (by kernel_rfl) (fun _ _ _ h => h) (Or.inl ⟨by rfl, ?_⟩) (by assumption) ?_; rotate_left; (focus ((intro W hSW); (try dsimp only at hSW); (try go_split_ands); go_simp; (try (with_reducible rfl)); done))) | (refine Reg.take 3 (v := undef) rfl (by kernel_rfl) (by kernel_rfl) (by kernel_rfl) (fun _ _ _ h => h) (Or.inr ⟨by rfl, rfl⟩) (by assumption) ?_))
  (try simp only [Act.put, List.setIfInBounds_toArray, List.set_cons_zero, List.set_cons_succ])
  have y0 := Cells.cell Z4.out 0
  have f0 := Cells.frozen Z4.out 0
  have y1 := Cells.cell Z4.out 1
  have f1 := Cells.frozen Z4.out 1
  refine Reg.step 4 rfl (by kernel_rfl) (by rfl) (fun K hK => ?_)
  go_simp
  have bt : Mov [w.heap.size + 2] w4 ((w4.setCell ⟨w.heap.size + 2, 0, none⟩ (.int .i64 (cap2 : Int))).setCell ⟨w.heap.size + 2, 1, none⟩ (.slice Q2 n2 c2)) := Mov.set2 _ _ _ _
  have L5 := Lib.hid (L4.out.trans (bt.up L4.out.size (by omega)))
  have X5 := Lib.hid (Cells.mov X4.out bt (by simp; try omega))
  have Z5 : Hid (Cells ((w4.setCell ⟨w.heap.size + 2, 0, none⟩ (.int .i64 (cap2 : Int))).setCell ⟨w.heap.size + 2, 1, none⟩ (.slice Q2 n2 c2)) (w.heap.size + 2) 28 #[.int .i64 (cap2 : Int), .slice Q2 n2 c2]) := Cells.set2 Z4.out _ _
  have Y5 := Lib.hid (Cells.mov Y4.out bt (by simp; try omega))
  have T5 := Lib.hid (Cells.mov T4.out bt (by simp; try omega))
  have N5 := Lib.hid (N4.out.mov Z4.out (by decide) (fun x hx q hq => by have h1 := NW.out x hx q hq; omega) bt)
  clear bt hHeld y0 f0 y1 f1
  clear L4 X4 Z4 Y4 T4 N4 
  generalize (w4.setCell ⟨w.heap.size + 2, 0, none⟩ (.int .i64 (cap2 : Int))).setCell ⟨w.heap.size + 2, 1, none⟩ (.slice Q2 n2 c2) = w5 at *
  refine hK.out _ _ (And.intro (NBox.cells X5.out).1 (And.intro (NBox.cells X5.out).2 (show _ ∧ _ ∧ _ ∧ _ ∧ _ ∧ _ from MBox.cells (x := zeroX) T5.out))) (fun hHeld => ?_)
  clear hK K
  (try simp only [Act.put, List.setIfInBounds_toArray, List.set_cons_zero, List.set_cons_succ])
  have y0 := Cells.cell Y5.out 0
  have f0 := Cells.frozen Y5.out 0
  have y1 := Cells.cell Y5.out 1
  have f1 := Cells.frozen Y5.out 1
  have y2 := Cells.cell Y5.out 2
  have f2 := Cells.frozen Y5.out 2
  have y3 := Cells.cell Y5.out 3
  have f3 := Cells.frozen Y5.out 3
  have y4 := Cells.cell Y5.out 4
  have f4 := Cells.frozen Y5.out 4
  have y5 := Cells.cell Y5.out 5
  have f5 := Cells.frozen Y5.out 5
  refine Reg.step 5 rfl (by kernel_rfl) (by rfl) (fun K hK => ?_)
  go_simp
  have bt : Mov [w.heap.size + 3] w5 ((((((w5.setCell ⟨w.heap.size + 3, 0, none⟩ (.int .i64 0)).setCell ⟨w.heap.size + 3, 1, none⟩ (.int .i64 0)).setCell ⟨w.heap.size + 3, 2, none⟩ (.int .i64 0)).setCell ⟨w.heap.size + 3, 3, none⟩ (.int .i64 0)).setCell ⟨w.heap.size + 3, 4, none⟩ (.slice none 0 0)).setCell ⟨w.heap.size + 3, 5, none⟩ (.slice none 0 0)) := Mov.set6 _ _ _ _ _ _ _ _
  have L6 := Lib.hid (L5.out.trans (bt.up L5.out.size (by omega)))
  have X6 := Lib.hid (Cells.mov X5.out bt (by simp; try omega))
  have Z6 := Lib.hid (Cells.mov Z5.out bt (by simp; try omega))
  have Y6 : Hid (Cells ((((((w5.setCell ⟨w.heap.size + 3, 0, none⟩ (.int .i64 0)).setCell ⟨w.heap.size + 3, 1, none⟩ (.int .i64 0)).setCell ⟨w.heap.size + 3, 2, none⟩ (.int .i64 0)).setCell ⟨w.heap.size + 3, 3, none⟩ (.int .i64 0)).setCell ⟨w.heap.size + 3, 4, none⟩ (.slice none 0 0)).setCell ⟨w.heap.size + 3, 5, none⟩ (.slice none 0 0)) (w.heap.size + 3) 39 #[.int .i64 0, .int .i64 0, .int .i64 0, .int .i64 0, .slice none 0 0, .slice none 0 0]) := Cells.set6 Y5.out _ _ _ _ _ _
  have T6 := Lib.hid (Cells.mov T5.out bt (by simp; try omega))
  have N6 := Lib.hid (N5.out.mov_ (fun e => by have h1 := NB.out _ e; omega) (fun x hx q hq => by have h1 := NW.out x hx q hq; omega) bt)
  clear bt hHeld y0 f0 y1 f1 y2 f2 y3 f3 y4 f4 y5 f5
  clear L5 X5 Z5 Y5 T5 N5 
  generalize (((((w5.setCell ⟨w.heap.size + 3, 0, none⟩ (.int .i64 0)).setCell ⟨w.heap.size + 3, 1, none⟩ (.int .i64 0)).setCell ⟨w.heap.size + 3, 2, none⟩ (.int .i64 0)).setCell ⟨w.heap.size + 3, 3, none⟩ (.int .i64 0)).setCell ⟨w.heap.size + 3, 4, none⟩ (.slice none 0 0)).setCell ⟨w.heap.size + 3, 5, none⟩ (.slice none 0 0) = w6 at *
  refine hK.out _ _ (And.intro (NBox.cells X6.out).1 (And.intro (NBox.cells X6.out).2 (show _ ∧ _ ∧ _ ∧ _ ∧ _ ∧ _ from MBox.cells (x := zeroX) T6.out))) (fun hHeld => ?_)
  clear hK K
  (try simp only [Act.put, List.setIfInBounds_toArray, List.set_cons_zero, List.set_cons_succ])
  (first | (refine Reg.take 6 (v := ?_) rfl (by kernel_rfl) (by kernel_rfl) (by kernel_rfl) (fun _ _ _ h => h) (Or.inl ⟨by rfl, ?_⟩) (by assumption) ?_; rotate_left; (focus ((intro W hSW); (try dsimp only at hSW); (try go_split_ands); go_simp; (try (with_reducible rfl)); done))) | (refine Reg.take 6 (v := undef) rfl (by kernel_rfl) (by kernel_rfl) (by kernel_rfl) (fun _ _ _ h => h) (Or.inr ⟨by rfl, rfl⟩) (by assumption) ?_))
  (try simp only [Act.put, List.setIfInBounds_toArray, List.set_cons_zero, List.set_cons_succ])
  (first | (refine Reg.take 7 (v := ?_) rfl (by kernel_rfl) (by kernel_rfl) (by kernel_rfl) (fun _ _ _ h => h) (Or.inl ⟨by rfl, ?_⟩) (by assumption) ?_; rotate_left; (focus ((intro W hSW); (try dsimp only at hSW); (try go_split_ands); go_simp; (try (with_reducible rfl)); done))) | (refine Reg.take 7 (v := undef) rfl (by kernel_rfl) (by kernel_rfl) (by kernel_rfl) (fun _ _ _ h => h) (Or.inr ⟨by rfl, rfl⟩) (by assumption) ?_))
  (try simp only [Act.put, List.setIfInBounds_toArray, List.set_cons_zero, List.set_cons_succ])
  refine wpAnyH_done (by kernel_rfl) ?_ _
  clear hHeld
  go_wp2_with fail
  refine bodyPost_ret_by (results_cc2 rfl _ _ (w.heap.size + 2) (w.heap.size + 3) _ _ _ _ _ _ _ _ rfl Z6.out Try.underlying28 rfl (by kernel_rfl) rfl Y6.out Try.underlying39 rfl (by kernel_rfl)) rfl ?_
  exact ⟨Q2, n2, c2, l2, zeroX, rfl, N6.out, LP.out, rfl, zero_at _, fun q hq => absurd hq zero_bl, L6.out⟩

set_option maxRecDepth 100000 in
set_option maxHeartbeats 6400000 in
theorem model_cut {w : World} {cap : Nat} {Q : Option Addr} {n c : Nat} {l : List Mx} (h : NetAt w Q n c l) (hn : n ≤ 5000) (L : Option Addr) (m e : Nat) (i : Int) (d : Int) (h0 : d ≠ 0) (h1 : d ≠ 1) (h2 : d ≠ 2) (h3 : d ≠ 3) (h4 : d ≠ 4) :
    Calls Try.prog 18 #[nv cap Q n c, .agg #[.int .i64 d, .int .i64 i, .slice L m e]] w (GotV w ((cutR cap (l.map Mx.p) i).1, (cutR cap (l.map Mx.p) i).2.1, zM, 0, (cutR cap (l.map Mx.p) i).2.2)) := by
  have HN := Lib.hid h
  have HC := fun W (h : NetAt W Q n c l) => Lib.hid (docCut_any (cap := cap) h hn i)
  have e0 : (d == 0) = false := by simpa using h0
  have e1 : (d == 1) = false := by simpa using h1
  have e2 : (d == 2) = false := by simpa using h2
  have e3 : (d == 3) = false := by simpa using h3
  have e4 : (d == 4) = false := by simpa using h4
  generalize cutR cap (l.map Mx.p) i = R at *
  obtain ⟨cap2, pl, er⟩ := R
  show Calls _ _ _ _ (GotV w (cap2, pl, zM, 0, er))
  have L1 : Hid (Below w.heap.size w (((((w.alloc (.cells #[.int .i64 (cap : Int), .slice Q n c] 28)).alloc (.cells #[.int .i64 d, .int .i64 i, .slice L m e] 35)).alloc (.cells #[.int .i64 0, .slice none 0 0] 28)).alloc (.cells #[.int .i64 0, .int .i64 0, .int .i64 0, .int .i64 0, .slice none 0 0, .slice none 0 0] 39)).alloc (.cells #[.int .i64 0, .int .i64 0, .int .i64 0, .int .i64 0, .slice none 0 0, .slice none 0 0] 39))) := ((((((Below.refl _ w).alloc (by first | exact Nat.le_refl _ | (simp; try omega)) _).alloc (by first | exact Nat.le_refl _ | (simp; try omega)) _).alloc (by first | exact Nat.le_refl _ | (simp; try omega)) _).alloc (by first | exact Nat.le_refl _ | (simp; try omega)) _).alloc (by first | exact Nat.le_refl _ | (simp; try omega)) _)
  have X1 : Hid (Cells (((((w.alloc (.cells #[.int .i64 (cap : Int), .slice Q n c] 28)).alloc (.cells #[.int .i64 d, .int .i64 i, .slice L m e] 35)).alloc (.cells #[.int .i64 0, .slice none 0 0] 28)).alloc (.cells #[.int .i64 0, .int .i64 0, .int .i64 0, .int .i64 0, .slice none 0 0, .slice none 0 0] 39)).alloc (.cells #[.int .i64 0, .int .i64 0, .int .i64 0, .int .i64 0, .slice none 0 0, .slice none 0 0] 39)) (w.heap.size) 28 #[.int .i64 (cap : Int), .slice Q n c]) := by
    have := Cells.new w #[.int .i64 (cap : Int), .slice Q n c] 28
    (try simp only [World.size_alloc] at this)
    exact (Cells.alloc (Cells.alloc (Cells.alloc (Cells.alloc this _) _) _) _)
  have P1 : Hid (Cells (((((w.alloc (.cells #[.int .i64 (cap : Int), .slice Q n c] 28)).alloc (.cells #[.int .i64 d, .int .i64 i, .slice L m e] 35)).alloc (.cells #[.int .i64 0, .slice none 0 0] 28)).alloc (.cells #[.int .i64 0, .int .i64 0, .int .i64 0, .int .i64 0, .slice none 0 0, .slice none 0 0] 39)).alloc (.cells #[.int .i64 0, .int .i64 0, .int .i64 0, .int .i64 0, .slice none 0 0, .slice none 0 0] 39)) (w.heap.size + 1) 35 #[.int .i64 d, .int .i64 i, .slice L m e]) := by
    have := Cells.new (w.alloc (.cells #[.int .i64 (cap : Int), .slice Q n c] 28)) #[.int .i64 d, .int .i64 i, .slice L m e] 35
    (try simp only [World.size_alloc] at this)
    exact (Cells.alloc (Cells.alloc (Cells.alloc this _) _) _)
  have Z1 : Hid (Cells (((((w.alloc (.cells #[.int .i64 (cap : Int), .slice Q n c] 28)).alloc (.cells #[.int .i64 d, .int .i64 i, .slice L m e] 35)).alloc (.cells #[.int .i64 0, .slice none 0 0] 28)).alloc (.cells #[.int .i64 0, .int .i64 0, .int .i64 0, .int .i64 0, .slice none 0 0, .slice none 0 0] 39)).alloc (.cells #[.int .i64 0, .int .i64 0, .int .i64 0, .int .i64 0, .slice none 0 0, .slice none 0 0] 39)) (w.heap.size + 2) 28 #[.int .i64 0, .slice none 0 0]) := by
    have := Cells.new ((w.alloc (.cells #[.int .i64 (cap : Int), .slice Q n c] 28)).alloc (.cells #[.int .i64 d, .int .i64 i, .slice L m e] 35)) #[.int .i64 0, .slice none 0 0] 28
    (try simp only [World.size_alloc] at this)
    exact (Cells.alloc (Cells.alloc this _) _)
  have Y1 : Hid (Cells (((((w.alloc (.cells #[.int .i64 (cap : Int), .slice Q n c] 28)).alloc (.cells #[.int .i64 d, .int .i64 i, .slice L m e] 35)).alloc (.cells #[.int .i64 0, .slice none 0 0] 28)).alloc (.cells #[.int .i64 0, .int .i64 0, .int .i64 0, .int .i64 0, .slice none 0 0, .slice none 0 0] 39)).alloc (.cells #[.int .i64 0, .int .i64 0, .int .i64 0, .int .i64 0, .slice none 0 0, .slice none 0 0] 39)) (w.heap.size + 3) 39 #[.int .i64 0, .int .i64 0, .int .i64 0, .int .i64 0, .slice none 0 0, .slice none 0 0]) := by
    have := Cells.new (((w.alloc (.cells #[.int .i64 (cap : Int), .slice Q n c] 28)).alloc (.cells #[.int .i64 d, .int .i64 i, .slice L m e] 35)).alloc (.cells #[.int .i64 0, .slice none 0 0] 28)) #[.int .i64 0, .int .i64 0, .int .i64 0, .int .i64 0, .slice none 0 0, .slice none 0 0] 39
    (try simp only [World.size_alloc] at this)
    exact (Cells.alloc this _)
  have T1 : Hid (Cells (((((w.alloc (.cells #[.int .i64 (cap : Int), .slice Q n c] 28)).alloc (.cells #[.int .i64 d, .int .i64 i, .slice L m e] 35)).alloc (.cells #[.int .i64 0, .slice none 0 0] 28)).alloc (.cells #[.int .i64 0, .int .i64 0, .int .i64 0, .int .i64 0, .slice none 0 0, .slice none 0 0] 39)).alloc (.cells #[.int .i64 0, .int .i64 0, .int .i64 0, .int .i64 0, .slice none 0 0, .slice none 0 0] 39)) (w.heap.size + 4) 39 #[.int .i64 0, .int .i64 0, .int .i64 0, .int .i64 0, .slice none 0 0, .slice none 0 0]) := by
    have := Cells.new ((((w.alloc (.cells #[.int .i64 (cap : Int), .slice Q n c] 28)).alloc (.cells #[.int .i64 d, .int .i64 i, .slice L m e] 35)).alloc (.cells #[.int .i64 0, .slice none 0 0] 28)).alloc (.cells #[.int .i64 0, .int .i64 0, .int .i64 0, .int .i64 0, .slice none 0 0, .slice none 0 0] 39)) #[.int .i64 0, .int .i64 0, .int .i64 0, .int .i64 0, .slice none 0 0, .slice none 0 0] 39
    (try simp only [World.size_alloc] at this)
    exact this
  have SZ : Hid ((((((w.alloc (.cells #[.int .i64 (cap : Int), .slice Q n c] 28)).alloc (.cells #[.int .i64 d, .int .i64 i, .slice L m e] 35)).alloc (.cells #[.int .i64 0, .slice none 0 0] 28)).alloc (.cells #[.int .i64 0, .int .i64 0, .int .i64 0, .int .i64 0, .slice none 0 0, .slice none 0 0] 39)).alloc (.cells #[.int .i64 0, .int .i64 0, .int .i64 0, .int .i64 0, .slice none 0 0, .slice none 0 0] 39)).heap.size = w.heap.size + 5) := by show _ = _; simp
  clear h
  unfold nv at *
  go_enter Try.func18, Try.ntmps18
  go_upto_region 16 with (first | (go_at_call 43; refine (HC _ (HN.out.below L1.out)).out.mono ?_; rintro en w2 ⟨Q2, n2, c2, l2, rfl, hO, hP, hb⟩; have L2 := Lib.hid (L1.out.trans (hb.mono L1.out.size)); have X2 := Lib.hid (Cells.below X1.out hb); have Z2 := Lib.hid (Cells.below Z1.out hb); have Y2 := Lib.hid (Cells.below Y1.out hb); have T2 := Lib.hid (Cells.below T1.out hb); obtain ⟨k0, k1⟩ := NBox.cells X2.out; have g0 := Cells.frozen X2.out 0; have g1 := Cells.frozen X2.out 1; have N2 := Lib.hid ((hO.lower L1.out.size).base_ L1.out.size); have NW : Hid (∀ x ∈ l2, ∀ q, Bl x q → w.heap.size + 5 ≤ q) := (fun x hx q hq => by have h1 := hO.low x hx q hq; have h2 := SZ.out; omega); have NB : Hid (∀ q, (Value.slice Q2 n2 c2).ownBlock = some q → w.heap.size + 5 ≤ q) := (fun q hq => by have h1 := (hO.own.lt q hq).1; have h2 := SZ.out; omega); have LP := Lib.hid hP; (try unfold nv); (try unfold mxv); clear hb hO hP) | fail)
  clear k0 k1 g0 g1 L1 X1 P1 Z1 Y1 T1 SZ HC HN
  have bt : Mov [w.heap.size] w2 ((w2.setCell ⟨w.heap.size, 0, none⟩ (.int .i64 (cap2 : Int))).setCell ⟨w.heap.size, 1, none⟩ (.slice Q2 n2 c2)) := Mov.set2 _ _ _ _
  have L3 := Lib.hid (L2.out.trans (bt.up L2.out.size (by omega)))
  have X3 : Hid (NBox ((w2.setCell ⟨w.heap.size, 0, none⟩ (.int .i64 (cap2 : Int))).setCell ⟨w.heap.size, 1, none⟩ (.slice Q2 n2 c2)) (w.heap.size) cap2 Q2 n2 c2) := Cells.set2 X2.out _ _
  have Z3 := Lib.hid (Cells.mov Z2.out bt (by simp; try omega))
  have Y3 := Lib.hid (Cells.mov Y2.out bt (by simp; try omega))
  have T3 := Lib.hid (Cells.mov T2.out bt (by simp; try omega))
  have N3 := Lib.hid (N2.out.mov_ (fun e => by have h1 := NB.out _ e; omega) (fun x hx q hq => by have h1 := NW.out x hx q hq; omega) bt)
  clear bt L2 X2 Z2 Y2 T2 N2
  generalize (w2.setCell ⟨w.heap.size, 0, none⟩ (.int .i64 (cap2 : Int))).setCell ⟨w.heap.size, 1, none⟩ (.slice Q2 n2 c2) = w3 at *
  have L4 := Lib.hid L3.out.drew
  have X4 := Lib.hid (Cells.below X3.out ((Below.refl _ w3).drew))
  have Z4 := Lib.hid (Cells.below Z3.out ((Below.refl _ w3).drew))
  have Y4 := Lib.hid (Cells.below Y3.out ((Below.refl _ w3).drew))
  have T4 := Lib.hid (Cells.below T3.out ((Below.refl _ w3).drew))
  have N4 := Lib.hid (OwnN.below N3.out ((Below.refl _ w3).drew))
  refine wp_region_held_drew (S := fun W => W.cell? ⟨w.heap.size, 0, none⟩ = some (.int .i64 (cap2 : Int)) ∧ W.cell? ⟨w.heap.size, 1, none⟩ = some (.slice Q2 n2 c2) ∧ W.cell? ⟨w.heap.size + 4, 0, none⟩ = some (.int .i64 0) ∧ W.cell? ⟨w.heap.size + 4, 1, none⟩ = some (.int .i64 0) ∧ W.cell? ⟨w.heap.size + 4, 2, none⟩ = some (.int .i64 0) ∧ W.cell? ⟨w.heap.size + 4, 3, none⟩ = some (.int .i64 0) ∧ W.cell? ⟨w.heap.size + 4, 4, none⟩ = some (.slice none 0 0) ∧ W.cell? ⟨w.heap.size + 4, 5, none⟩ = some (.slice none 0 0)) (by kernel_rfl) (And.intro (NBox.cells X4.out).1 (And.intro (NBox.cells X4.out).2 (show _ ∧ _ ∧ _ ∧ _ ∧ _ ∧ _ from MBox.cells (x := zeroX) T4.out))) (fun hHeld => ?_)
  generalize w3.drew = w4 at *
  clear L3 X3 Z3 Y3 T3 N3 
  (first | (refine Reg.take 0 (v := ?_) rfl (by kernel_rfl) (by kernel_rfl) (by kernel_rfl) (fun _ _ _ h => h) (Or.inl ⟨by rfl, ?_⟩) (by assumption) ?_; rotate_left; (focus ((intro W hSW); (try dsimp only at hSW); (try go_split_ands); go_simp; (try (with_reducible rfl)); done))) | (refine Reg.take 0 (v := undef) rfl (by kernel_rfl) (by kernel_rfl) (by kernel_rfl) (fun _ _ _ h => h) (Or.inr ⟨by rfl, rfl⟩) (by assumption) ?_))
  (try simp only [Act.put, List.setIfInBounds_toArray, List.set_cons_zero, List.set_cons_succ])
  (first | (refine Reg.take 1 (v := ?_) rfl (by kernel_rfl) (by kernel_rfl) (by kernel_rfl) (fun _ _ _ h => h) (Or.inl ⟨by rfl, ?_⟩) (by assumption) ?_; rotate_left; (focus ((intro W hSW); (try dsimp only at hSW); (try go_split_ands); go_simp; (try (with_reducible rfl)); done))) | (refine Reg.take 1 (v := undef) rfl (by kernel_rfl) (by kernel_rfl) (by kernel_rfl) (fun _ _ _ h => h) (Or.inr ⟨by rfl, rfl⟩) (by assumption) ?_))
  (try simp only [Act.put, List.setIfInBounds_toArray, List.set_cons_zero, List.set_cons_succ])
  (first | (refine Reg.take 2 (v := ?_) rfl (by kernel_rfl) (by kernel_rfl) (by kernel_rfl) (fun _ _ _ h => h) (Or.inl ⟨by rfl, ?_⟩) (by assumption) ?_; rotate_left; (focus ((intro W hSW); (try dsimp only at hSW); (try go_split_ands); go_simp; (try (with_reducible rfl)); done))) | (refine Reg.take 2 (v := undef) rfl (by kernel_rfl) (by kernel_rfl) (by kernel_rfl) (fun _ _ _ h => h) (Or.inr ⟨by rfl, rfl⟩) (by assumption) ?_))
  (try simp only [Act.put, List.setIfInBounds_toArray, List.set_cons_zero, List.set_cons_succ])
  (first | (refine Reg.take 3 (v := ?_) rfl (by kernel_rfl) (by kernel_rfl) (by kernel_rfl) (fun _ _ _ h => h) (Or.inl ⟨by rfl, ?_⟩) (by assumption) ?_; rotate_left; (focus ((intro W hSW); (try dsimp only at hSW); (try go_split_ands); go_simp; (try (with_reducible rfl)); done))) | (refine Reg.take 3 (v := undef) rfl (by kernel_rfl) (by kernel_rfl) (by kernel_rfl) (fun _ _ _ h => h) (Or.inr ⟨by rfl, rfl⟩) (by assumption) ?_))
  (try simp only [Act.put, List.setIfInBounds_toArray, List.set_cons_zero, List.set_cons_succ])
  have y0 := Cells.cell Z4.out 0
  have f0 := Cells.frozen Z4.out 0
  have y1 := Cells.cell Z4.out 1
  have f1 := Cells.frozen Z4.out 1
  refine Reg.step 4 rfl (by kernel_rfl) (by rfl) (fun K hK => ?_)
  go_simp
  have bt : Mov [w.heap.size + 2] w4 ((w4.setCell ⟨w.heap.size + 2, 0, none⟩ (.int .i64 (cap2 : Int))).setCell ⟨w.heap.size + 2, 1, none⟩ (.slice Q2 n2 c2)) := Mov.set2 _ _ _ _
  have L5 := Lib.hid (L4.out.trans (bt.up L4.out.size (by omega)))
  have X5 := Lib.hid (Cells.mov X4.out bt (by simp; try omega))
  have Z5 : Hid (Cells ((w4.setCell ⟨w.heap.size + 2, 0, none⟩ (.int .i64 (cap2 : Int))).setCell ⟨w.heap.size + 2, 1, none⟩ (.slice Q2 n2 c2)) (w.heap.size + 2) 28 #[.int .i64 (cap2 : Int), .slice Q2 n2 c2]) := Cells.set2 Z4.out _ _
  have Y5 := Lib.hid (Cells.mov Y4.out bt (by simp; try omega))
  have T5 := Lib.hid (Cells.mov T4.out bt (by simp; try omega))
  have N5 := Lib.hid (N4.out.mov Z4.out (by decide) (fun x hx q hq => by have h1 := NW.out x hx q hq; omega) bt)
  clear bt hHeld y0 f0 y1 f1
  clear L4 X4 Z4 Y4 T4 N4 
  generalize (w4.setCell ⟨w.heap.size + 2, 0, none⟩ (.int .i64 (cap2 : Int))).setCell ⟨w.heap.size + 2, 1, none⟩ (.slice Q2 n2 c2) = w5 at *
  refine hK.out _ _ (And.intro (NBox.cells X5.out).1 (And.intro (NBox.cells X5.out).2 (show _ ∧ _ ∧ _ ∧ _ ∧ _ ∧ _ from MBox.cells (x := zeroX) T5.out))) (fun hHeld => ?_)
  clear hK K
  (try simp only [Act.put, List.setIfInBounds_toArray, List.set_cons_zero, List.set_cons_succ])
  have y0 := Cells.cell Y5.out 0
  have f0 := Cells.frozen Y5.out 0
  have y1 := Cells.cell Y5.out 1
  have f1 := Cells.frozen Y5.out 1
  have y2 := Cells.cell Y5.out 2
  have f2 := Cells.frozen Y5.out 2
  have y3 := Cells.cell Y5.out 3
  have f3 := Cells.frozen Y5.out 3
  have y4 := Cells.cell Y5.out 4
  have f4 := Cells.frozen Y5.out 4
  have y5 := Cells.cell Y5.out 5
  have f5 := Cells.frozen Y5.out 5
  refine Reg.step 5 rfl (by kernel_rfl) (by rfl) (fun K hK => ?_)
  go_simp
  have bt : Mov [w.heap.size + 3] w5 ((((((w5.setCell ⟨w.heap.size + 3, 0, none⟩ (.int .i64 0)).setCell ⟨w.heap.size + 3, 1, none⟩ (.int .i64 0)).setCell ⟨w.heap.size + 3, 2, none⟩ (.int .i64 0)).setCell ⟨w.heap.size + 3, 3, none⟩ (.int .i64 0)).setCell ⟨w.heap.size + 3, 4, none⟩ (.slice none 0 0)).setCell ⟨w.heap.size + 3, 5, none⟩ (.slice none 0 0)) := Mov.set6 _ _ _ _ _ _ _ _
  have L6 := Lib.hid (L5.out.trans (bt.up L5.out.size (by omega)))
  have X6 := Lib.hid (Cells.mov X5.out bt (by simp; try omega))
  have Z6 := Lib.hid (Cells.mov Z5.out bt (by simp; try omega))
  have Y6 : Hid (Cells ((((((w5.setCell ⟨w.heap.size + 3, 0, none⟩ (.int .i64 0)).setCell ⟨w.heap.size + 3, 1, none⟩ (.int .i64 0)).setCell ⟨w.heap.size + 3, 2, none⟩ (.int .i64 0)).setCell ⟨w.heap.size + 3, 3, none⟩ (.int .i64 0)).setCell ⟨w.heap.size + 3, 4, none⟩ (.slice none 0 0)).setCell ⟨w.heap.size + 3, 5, none⟩ (.slice none 0 0)) (w.heap.size + 3) 39 #[.int .i64 0, .int .i64 0, .int .i64 0, .int .i64 0, .slice none 0 0, .slice none 0 0]) := Cells.set6 Y5.out _ _ _ _ _ _
  have T6 := Lib.hid (Cells.mov T5.out bt (by simp; try omega))
  have N6 := Lib.hid (N5.out.mov_ (fun e => by have h1 := NB.out _ e; omega) (fun x hx q hq => by have h1 := NW.out x hx q hq; omega) bt)
  clear bt hHeld y0 f0 y1 f1 y2 f2 y3 f3 y4 f4 y5 f5
  clear L5 X5 Z5 Y5 T5 N5 
  generalize (((((w5.setCell ⟨w.heap.size + 3, 0, none⟩ (.int .i64 0)).setCell ⟨w.heap.size + 3, 1, none⟩ (.int .i64 0)).setCell ⟨w.heap.size + 3, 2, none⟩ (.int .i64 0)).setCell ⟨w.heap.size + 3, 3, none⟩ (.int .i64 0)).setCell ⟨w.heap.size + 3, 4, none⟩ (.slice none 0 0)).setCell ⟨w.heap.size + 3, 5, none⟩ (.slice none 0 0) = w6 at *
  refine hK.out _ _ (And.intro (NBox.cells X6.out).1 (And.intro (NBox.cells X6.out).2 (show _ ∧ _ ∧ _ ∧ _ ∧ _ ∧ _ from MBox.cells (x := zeroX) T6.out))) (fun hHeld => ?_)
  clear hK K
  (try simp only [Act.put, List.setIfInBounds_toArray, List.set_cons_zero, List.set_cons_succ])
  (first | (refine Reg.take 6 (v := ?_) rfl (by kernel_rfl) (by kernel_rfl) (by kernel_rfl) (fun _ _ _ h => h) (Or.inl ⟨by rfl, ?_⟩) (by assumption) ?_; rotate_left; (focus ((intro W hSW); (try dsimp only at hSW); (try go_split_ands); go_simp; (try (with_reducible rfl)); done))) | (refine Reg.take 6 (v := undef) rfl (by kernel_rfl) (by kernel_rfl) (by kernel_rfl) (fun _ _ _ h => h) (Or.inr ⟨by rfl, rfl⟩) (by assumption) ?_))
  (try simp only [Act.put, List.setIfInBounds_toArray, List.set_cons_zero, List.set_cons_succ])
  (first | (refine Reg.take 7 (v := ?_) rfl (by kernel_rfl) (by kernel_rfl) (by kernel_rfl) (fun _ _ _ h => h) (Or.inl ⟨by rfl, ?_⟩) (by assumption) ?_; rotate_left; (focus ((intro W hSW); (try dsimp only at hSW); (try go_split_ands); go_simp; (try (with_reducible rfl)); done))) | (refine Reg.take 7 (v := undef) rfl (by kernel_rfl) (by kernel_rfl) (by kernel_rfl) (fun _ _ _ h => h) (Or.inr ⟨by rfl, rfl⟩) (by assumption) ?_))
  (try simp only [Act.put, List.setIfInBounds_toArray, List.set_cons_zero, List.set_cons_succ])
  refine wpAnyH_done (by kernel_rfl) ?_ _
  clear hHeld
  go_wp2_with fail
  refine bodyPost_ret_by (results_cc2 rfl _ _ (w.heap.size + 2) (w.heap.size + 3) _ _ _ _ _ _ _ _ rfl Z6.out Try.underlying28 rfl (by kernel_rfl) rfl Y6.out Try.underlying39 rfl (by kernel_rfl)) rfl ?_
  exact ⟨Q2, n2, c2, l2, zeroX, rfl, N6.out, LP.out, rfl, zero_at _, fun q hq => absurd hq zero_bl, L6.out⟩

set_option maxRecDepth 100000 in
set_option maxHeartbeats 6400000 in
theorem model_send {w : World} {cap : Nat} {Q : Option Addr} {n c : Nat} {l : List Mx} (h : NetAt w Q n c l) (hn : n ≤ 5000) (hcap : cap ≤ 5000) {L : Option Addr} {m e : Nat} {ls : List Mx} (h2 : NetAt w L m e ls) (i : Int) :
    Calls Try.prog 18 #[nv cap Q n c, .agg #[.int .i64 0, .int .i64 i, .slice L m e]] w (GotV w ((sendR cap (l.map Mx.p) (ls.map Mx.p)).1, (sendR cap (l.map Mx.p) (ls.map Mx.p)).2.1, zM, 0, (sendR cap (l.map Mx.p) (ls.map Mx.p)).2.2)) := by
  have HN := Lib.hid h
  have HL := Lib.hid h2
  have HC := fun W (h : NetAt W Q n c l) (h2 : NetAt W L m e ls) => Lib.hid (docSend_any (cap := cap) h hn hcap h2)
  generalize sendR cap (l.map Mx.p) (ls.map Mx.p) = R at *
  obtain ⟨cap2, pl, er⟩ := R
  show Calls _ _ _ _ (GotV w (cap2, pl, zM, 0, er))
  have L1 : Hid (Below w.heap.size w (((((w.alloc (.cells #[.int .i64 (cap : Int), .slice Q n c] 28)).alloc (.cells #[.int .i64 0, .int .i64 i, .slice L m e] 35)).alloc (.cells #[.int .i64 0, .slice none 0 0] 28)).alloc (.cells #[.int .i64 0, .int .i64 0, .int .i64 0, .int .i64 0, .slice none 0 0, .slice none 0 0] 39)).alloc (.cells #[.int .i64 0, .int .i64 0, .int .i64 0, .int .i64 0, .slice none 0 0, .slice none 0 0] 39))) := ((((((Below.refl _ w).alloc (by first | exact Nat.le_refl _ | (simp; try omega)) _).alloc (by first | exact Nat.le_refl _ | (simp; try omega)) _).alloc (by first | exact Nat.le_refl _ | (simp; try omega)) _).alloc (by first | exact Nat.le_refl _ | (simp; try omega)) _).alloc (by first | exact Nat.le_refl _ | (simp; try omega)) _)
  have X1 : Hid (Cells (((((w.alloc (.cells #[.int .i64 (cap : Int), .slice Q n c] 28)).alloc (.cells #[.int .i64 0, .int .i64 i, .slice L m e] 35)).alloc (.cells #[.int .i64 0, .slice none 0 0] 28)).alloc (.cells #[.int .i64 0, .int .i64 0, .int .i64 0, .int .i64 0, .slice none 0 0, .slice none 0 0] 39)).alloc (.cells #[.int .i64 0, .int .i64 0, .int .i64 0, .int .i64 0, .slice none 0 0, .slice none 0 0] 39)) (w.heap.size) 28 #[.int .i64 (cap : Int), .slice Q n c]) := by
    have := Cells.new w #[.int .i64 (cap : Int), .slice Q n c] 28
    (try simp only [World.size_alloc] at this)
    exact (Cells.alloc (Cells.alloc (Cells.alloc (Cells.alloc this _) _) _) _)
  have P1 : Hid (Cells (((((w.alloc (.cells #[.int .i64 (cap : Int), .slice Q n c] 28)).alloc (.cells #[.int .i64 0, .int .i64 i, .slice L m e] 35)).alloc (.cells #[.int .i64 0, .slice none 0 0] 28)).alloc (.cells #[.int .i64 0, .int .i64 0, .int .i64 0, .int .i64 0, .slice none 0 0, .slice none 0 0] 39)).alloc (.cells #[.int .i64 0, .int .i64 0, .int .i64 0, .int .i64 0, .slice none 0 0, .slice none 0 0] 39)) (w.heap.size + 1) 35 #[.int .i64 0, .int .i64 i, .slice L m e]) := by
    have := Cells.new (w.alloc (.cells #[.int .i64 (cap : Int), .slice Q n c] 28)) #[.int .i64 0, .int .i64 i, .slice L m e] 35
    (try simp only [World.size_alloc] at this)
    exact (Cells.alloc (Cells.alloc (Cells.alloc this _) _) _)
  have Z1 : Hid (Cells (((((w.alloc (.cells #[.int .i64 (cap : Int), .slice Q n c] 28)).alloc (.cells #[.int .i64 0, .int .i64 i, .slice L m e] 35)).alloc (.cells #[.int .i64 0, .slice none 0 0] 28)).alloc (.cells #[.int .i64 0, .int .i64 0, .int .i64 0, .int .i64 0, .slice none 0 0, .slice none 0 0] 39)).alloc (.cells #[.int .i64 0, .int .i64 0, .int .i64 0, .int .i64 0, .slice none 0 0, .slice none 0 0] 39)) (w.heap.size + 2) 28 #[.int .i64 0, .slice none 0 0]) := by
    have := Cells.new ((w.alloc (.cells #[.int .i64 (cap : Int), .slice Q n c] 28)).alloc (.cells #[.int .i64 0, .int .i64 i, .slice L m e] 35)) #[.int .i64 0, .slice none 0 0] 28
    (try simp only [World.size_alloc] at this)
    exact (Cells.alloc (Cells.alloc this _) _)
  have Y1 : Hid (Cells (((((w.alloc (.cells #[.int .i64 (cap : Int), .slice Q n c] 28)).alloc (.cells #[.int .i64 0, .int .i64 i, .slice L m e] 35)).alloc (.cells #[.int .i64 0, .slice none 0 0] 28)).alloc (.cells #[.int .i64 0, .int .i64 0, .int .i64 0, .int .i64 0, .slice none 0 0, .slice none 0 0] 39)).alloc (.cells #[.int .i64 0, .int .i64 0, .int .i64 0, .int .i64 0, .slice none 0 0, .slice none 0 0] 39)) (w.heap.size + 3) 39 #[.int .i64 0, .int .i64 0, .int .i64 0, .int .i64 0, .slice none 0 0, .slice none 0 0]) := by
    have := Cells.new (((w.alloc (.cells #[.int .i64 (cap : Int), .slice Q n c] 28)).alloc (.cells #[.int .i64 0, .int .i64 i, .slice L m e] 35)).alloc (.cells #[.int .i64 0, .slice none 0 0] 28)) #[.int .i64 0, .int .i64 0, .int .i64 0, .int .i64 0, .slice none 0 0, .slice none 0 0] 39
    (try simp only [World.size_alloc] at this)
    exact (Cells.alloc this _)
  have T1 : Hid (Cells (((((w.alloc (.cells #[.int .i64 (cap : Int), .slice Q n c] 28)).alloc (.cells #[.int .i64 0, .int .i64 i, .slice L m e] 35)).alloc (.cells #[.int .i64 0, .slice none 0 0] 28)).alloc (.cells #[.int .i64 0, .int .i64 0, .int .i64 0, .int .i64 0, .slice none 0 0, .slice none 0 0] 39)).alloc (.cells #[.int .i64 0, .int .i64 0, .int .i64 0, .int .i64 0, .slice none 0 0, .slice none 0 0] 39)) (w.heap.size + 4) 39 #[.int .i64 0, .int .i64 0, .int .i64 0, .int .i64 0, .slice none 0 0, .slice none 0 0]) := by
    have := Cells.new ((((w.alloc (.cells #[.int .i64 (cap : Int), .slice Q n c] 28)).alloc (.cells #[.int .i64 0, .int .i64 i, .slice L m e] 35)).alloc (.cells #[.int .i64 0, .slice none 0 0] 28)).alloc (.cells #[.int .i64 0, .int .i64 0, .int .i64 0, .int .i64 0, .slice none 0 0, .slice none 0 0] 39)) #[.int .i64 0, .int .i64 0, .int .i64 0, .int .i64 0, .slice none 0 0, .slice none 0 0] 39
    (try simp only [World.size_alloc] at this)
    exact this
  have SZ : Hid ((((((w.alloc (.cells #[.int .i64 (cap : Int), .slice Q n c] 28)).alloc (.cells #[.int .i64 0, .int .i64 i, .slice L m e] 35)).alloc (.cells #[.int .i64 0, .slice none 0 0] 28)).alloc (.cells #[.int .i64 0, .int .i64 0, .int .i64 0, .int .i64 0, .slice none 0 0, .slice none 0 0] 39)).alloc (.cells #[.int .i64 0, .int .i64 0, .int .i64 0, .int .i64 0, .slice none 0 0, .slice none 0 0] 39)).heap.size = w.heap.size + 5) := by show _ = _; simp
  clear h
  unfold nv at *
  go_enter Try.func18, Try.ntmps18
  go_upto_region 16 with (first | (go_at_call 38; refine (HC _ (HN.out.below L1.out) (HL.out.below L1.out)).out.mono ?_; rintro en w2 ⟨Q2, n2, c2, l2, rfl, hO, hP, hb⟩; have L2 := Lib.hid (L1.out.trans (hb.mono L1.out.size)); have X2 := Lib.hid (Cells.below X1.out hb); have Z2 := Lib.hid (Cells.below Z1.out hb); have Y2 := Lib.hid (Cells.below Y1.out hb); have T2 := Lib.hid (Cells.below T1.out hb); obtain ⟨k0, k1⟩ := NBox.cells X2.out; have g0 := Cells.frozen X2.out 0; have g1 := Cells.frozen X2.out 1; have N2 := Lib.hid ((hO.lower L1.out.size).base_ L1.out.size); have NW : Hid (∀ x ∈ l2, ∀ q, Bl x q → w.heap.size + 5 ≤ q) := (fun x hx q hq => by have h1 := hO.low x hx q hq; have h2 := SZ.out; omega); have NB : Hid (∀ q, (Value.slice Q2 n2 c2).ownBlock = some q → w.heap.size + 5 ≤ q) := (fun q hq => by have h1 := (hO.own.lt q hq).1; have h2 := SZ.out; omega); have LP := Lib.hid hP; (try unfold nv); (try unfold mxv); clear hb hO hP) | fail)
  clear k0 k1 g0 g1 L1 X1 P1 Z1 Y1 T1 SZ HC HN
  have bt : Mov [w.heap.size] w2 ((w2.setCell ⟨w.heap.size, 0, none⟩ (.int .i64 (cap2 : Int))).setCell ⟨w.heap.size, 1, none⟩ (.slice Q2 n2 c2)) := Mov.set2 _ _ _ _
  have L3 := Lib.hid (L2.out.trans (bt.up L2.out.size (by omega)))
  have X3 : Hid (NBox ((w2.setCell ⟨w.heap.size, 0, none⟩ (.int .i64 (cap2 : Int))).setCell ⟨w.heap.size, 1, none⟩ (.slice Q2 n2 c2)) (w.heap.size) cap2 Q2 n2 c2) := Cells.set2 X2.out _ _
  have Z3 := Lib.hid (Cells.mov Z2.out bt (by simp; try omega))
  have Y3 := Lib.hid (Cells.mov Y2.out bt (by simp; try omega))
  have T3 := Lib.hid (Cells.mov T2.out bt (by simp; try omega))
  have N3 := Lib.hid (N2.out.mov_ (fun e => by have h1 := NB.out _ e; omega) (fun x hx q hq => by have h1 := NW.out x hx q hq; omega) bt)
  clear bt L2 X2 Z2 Y2 T2 N2
  generalize (w2.setCell ⟨w.heap.size, 0, none⟩ (.int .i64 (cap2 : Int))).setCell ⟨w.heap.size, 1, none⟩ (.slice Q2 n2 c2) = w3 at *
  have L4 := Lib.hid L3.out.drew
  have X4 := Lib.hid (Cells.below X3.out ((Below.refl _ w3).drew))
  have Z4 := Lib.hid (Cells.below Z3.out ((Below.refl _ w3).drew))
  have Y4 := Lib.hid (Cells.below Y3.out ((Below.refl _ w3).drew))
  have T4 := Lib.hid (Cells.below T3.out ((Below.refl _ w3).drew))
  have N4 := Lib.hid (OwnN.below N3.out ((Below.refl _ w3).drew))
  refine wp_region_held_drew (S := fun W => W.cell? ⟨w.heap.size, 0, none⟩ = some (.int .i64 (cap2 : Int)) ∧ W.cell? ⟨w.heap.size, 1, none⟩ = some (.slice Q2 n2 c2) ∧ W.cell? ⟨w.heap.size + 4, 0, none⟩ = some (.int .i64 0) ∧ W.cell? ⟨w.heap.size + 4, 1, none⟩ = some (.int .i64 0) ∧ W.cell? ⟨w.heap.size + 4, 2, none⟩ = some (.int .i64 0) ∧ W.cell? ⟨w.heap.size + 4, 3, none⟩ = some (.int .i64 0) ∧ W.cell? ⟨w.heap.size + 4, 4, none⟩ = some (.slice none 0 0) ∧ W.cell? ⟨w.heap.size + 4, 5, none⟩ = some (.slice none 0 0)) (by kernel_rfl) (And.intro (NBox.cells X4.out).1 (And.intro (NBox.cells X4.out).2 (show _ ∧ _ ∧ _ ∧ _ ∧ _ ∧ _ from MBox.cells (x := zeroX) T4.out))) (fun hHeld => ?_)
  generalize w3.drew = w4 at *
  clear L3 X3 Z3 Y3 T3 N3 
  (first | (refine Reg.take 0 (v := ?_) rfl (by kernel_rfl) (by kernel_rfl) (by kernel_rfl) (fun _ _ _ h => h) (Or.inl ⟨by rfl, ?_⟩) (by assumption) ?_; rotate_left; (focus ((intro W hSW); (try dsimp only at hSW); (try go_split_ands); go_simp; (try (with_reducible rfl)); done))) | (refine Reg.take 0 (v := undef) rfl (by kernel_rfl) (by kernel_rfl) (by kernel_rfl) (fun _ _ _ h => h) (Or.inr ⟨by rfl, rfl⟩) (by assumption) ?_))
  (try simp only [Act.put, List.setIfInBounds_toArray, List.set_cons_zero, List.set_cons_succ])
  (first | (refine Reg.take 1 (v := ?_) rfl (by kernel_rfl) (by kernel_rfl) (by kernel_rfl) (fun _ _ _ h => h) (Or.inl ⟨by rfl, ?_⟩) (by assumption) ?_; rotate_left; (focus ((intro W hSW); (try dsimp only at hSW); (try go_split_ands); go_simp; (try (with_reducible rfl)); done))) | (refine Reg.take 1 (v := undef) rfl (by kernel_rfl) (by kernel_rfl) (by kernel_rfl) (fun _ _ _ h => h) (Or.inr ⟨by rfl, rfl⟩) (by assumption) ?_))
  (try simp only [Act.put, List.setIfInBounds_toArray, List.set_cons_zero, List.set_cons_succ])
  (first | (refine Reg.take 2 (v := ?_) rfl (by kernel_rfl) (by kernel_rfl) (by kernel_rfl) (fun _ _ _ h => h) (Or.inl ⟨by rfl, ?_⟩) (by assumption) ?_; rotate_left; (focus ((intro W hSW); (try dsimp only at hSW); (try go_split_ands); go_simp; (try (with_reducible rfl)); done))) | (refine Reg.take 2 (v := undef) rfl (by kernel_rfl) (by kernel_rfl) (by kernel_rfl) (fun _ _ _ h => h) (Or.inr ⟨by rfl, rfl⟩) (by assumption) ?_))
  (try simp only [Act.put, List.setIfInBounds_toArray, List.set_cons_zero, List.set_cons_succ])
  (first | (refine Reg.take 3 (v := ?_) rfl (by kernel_rfl) (by kernel_rfl) (by kernel_rfl) (fun _ _ _ h => h) (Or.inl ⟨by rfl, ?_⟩) (by assumption) ?_; rotate_left; (focus ((intro W hSW); (try dsimp only at hSW); (try go_split_ands); go_simp; (try (with_reducible rfl)); done))) | (refine Reg.take 3 (v := undef) rfl (by kernel_rfl) (by kernel_rfl) (by kernel_rfl) (fun _ _ _ h => h) (Or.inr ⟨by rfl, rfl⟩) (by assumption) ?_))
  (try simp only [Act.put, List.setIfInBounds_toArray, List.set_cons_zero, List.set_cons_succ])
  have y0 := Cells.cell Z4.out 0
  have f0 := Cells.frozen Z4.out 0
  have y1 := Cells.cell Z4.out 1
  have f1 := Cells.frozen Z4.out 1
  refine Reg.step 4 rfl (by kernel_rfl) (by rfl) (fun K hK => ?_)
  go_simp
  have bt : Mov [w.heap.size + 2] w4 ((w4.setCell ⟨w.heap.size + 2, 0, none⟩ (.int .i64 (cap2 : Int))).setCell ⟨w.heap.size + 2, 1, none⟩ (.slice Q2 n2 c2)) := Mov.set2 _ _ _ _
  have L5 := Lib.hid (L4.out.trans (bt.up L4.out.size (by omega)))
  have X5 := Lib.hid (Cells.mov X4.out bt (by simp; try omega))
  have Z5 : Hid (Cells ((w4.setCell ⟨w.heap.size + 2, 0, none⟩ (.int .i64 (cap2 : Int))).setCell ⟨w.heap.size + 2, 1, none⟩ (.slice Q2 n2 c2)) (w.heap.size + 2) 28 #[.int .i64 (cap2 : Int), .slice Q2 n2 c2]) := Cells.set2 Z4.out _ _
  have Y5 := Lib.hid (Cells.mov Y4.out bt (by simp; try omega))
  have T5 := Lib.hid (Cells.mov T4.out bt (by simp; try omega))
  have N5 := Lib.hid (N4.out.mov Z4.out (by decide) (fun x hx q hq => by have h1 := NW.out x hx q hq; omega) bt)
  clear bt hHeld y0 f0 y1 f1
  clear L4 X4 Z4 Y4 T4 N4 
  generalize (w4.setCell ⟨w.heap.size + 2, 0, none⟩ (.int .i64 (cap2 : Int))).setCell ⟨w.heap.size + 2, 1, none⟩ (.slice Q2 n2 c2) = w5 at *
  refine hK.out _ _ (And.intro (NBox.cells X5.out).1 (And.intro (NBox.cells X5.out).2 (show _ ∧ _ ∧ _ ∧ _ ∧ _ ∧ _ from MBox.cells (x := zeroX) T5.out))) (fun hHeld => ?_)
  clear hK K
  (try simp only [Act.put, List.setIfInBounds_toArray, List.set_cons_zero, List.set_cons_succ])
  have y0 := Cells.cell Y5.out 0
  have f0 := Cells.frozen Y5.out 0
  have y1 := Cells.cell Y5.out 1
  have f1 := Cells.frozen Y5.out 1
  have y2 := Cells.cell Y5.out 2
  have f2 := Cells.frozen Y5.out 2
  have y3 := Cells.cell Y5.out 3
  have f3 := Cells.frozen Y5.out 3
  have y4 := Cells.cell Y5.out 4
  have f4 := Cells.frozen Y5.out 4
  have y5 := Cells.cell Y5.out 5
  have f5 := Cells.frozen Y5.out 5
  refine Reg.step 5 rfl (by kernel_rfl) (by rfl) (fun K hK => ?_)
  go_simp
  have bt : Mov [w.heap.size + 3] w5 ((((((w5.setCell ⟨w.heap.size + 3, 0, none⟩ (.int .i64 0)).setCell ⟨w.heap.size + 3, 1, none⟩ (.int .i64 0)).setCell ⟨w.heap.size + 3, 2, none⟩ (.int .i64 0)).setCell ⟨w.heap.size + 3, 3, none⟩ (.int .i64 0)).setCell ⟨w.heap.size + 3, 4, none⟩ (.slice none 0 0)).setCell ⟨w.heap.size + 3, 5, none⟩ (.slice none 0 0)) := Mov.set6 _ _ _ _ _ _ _ _
  have L6 := Lib.hid (L5.out.trans (bt.up L5.out.size (by omega)))
  have X6 := Lib.hid (Cells.mov X5.out bt (by simp; try omega))
  have Z6 := Lib.hid (Cells.mov Z5.out bt (by simp; try omega))
  have Y6 : Hid (Cells ((((((w5.setCell ⟨w.heap.size + 3, 0, none⟩ (.int .i64 0)).setCell ⟨w.heap.size + 3, 1, none⟩ (.int .i64 0)).setCell ⟨w.heap.size + 3, 2, none⟩ (.int .i64 0)).setCell ⟨w.heap.size + 3, 3, none⟩ (.int .i64 0)).setCell ⟨w.heap.size + 3, 4, none⟩ (.slice none 0 0)).setCell ⟨w.heap.size + 3, 5, none⟩ (.slice none 0 0)) (w.heap.size + 3) 39 #[.int .i64 0, .int .i64 0, .int .i64 0, .int .i64 0, .slice none 0 0, .slice none 0 0]) := Cells.set6 Y5.out _ _ _ _ _ _
  have T6 := Lib.hid (Cells.mov T5.out bt (by simp; try omega))
  have N6 := Lib.hid (N5.out.mov_ (fun e => by have h1 := NB.out _ e; omega) (fun x hx q hq => by have h1 := NW.out x hx q hq; omega) bt)
  clear bt hHeld y0 f0 y1 f1 y2 f2 y3 f3 y4 f4 y5 f5
  clear L5 X5 Z5 Y5 T5 N5 
  generalize (((((w5.setCell ⟨w.heap.size + 3, 0, none⟩ (.int .i64 0)).setCell ⟨w.heap.size + 3, 1, none⟩ (.int .i64 0)).setCell ⟨w.heap.size + 3, 2, none⟩ (.int .i64 0)).setCell ⟨w.heap.size + 3, 3, none⟩ (.int .i64 0)).setCell ⟨w.heap.size + 3, 4, none⟩ (.slice none 0 0)).setCell ⟨w.heap.size + 3, 5, none⟩ (.slice none 0 0) = w6 at *
  refine hK.out _ _ (And.intro (NBox.cells X6.out).1 (And.intro (NBox.cells X6.out).2 (show _ ∧ _ ∧ _ ∧ _ ∧ _ ∧ _ from MBox.cells (x := zeroX) T6.out))) (fun hHeld => ?_)
  clear hK K
  (try simp only [Act.put, List.setIfInBounds_toArray, List.set_cons_zero, List.set_cons_succ])
  (first | (refine Reg.take 6 (v := ?_) rfl (by kernel_rfl) (by kernel_rfl) (by kernel_rfl) (fun _ _ _ h => h) (Or.inl ⟨by rfl, ?_⟩) (by assumption) ?_; rotate_left; (focus ((intro W hSW); (try dsimp only at hSW); (try go_split_ands); go_simp; (try (with_reducible rfl)); done))) | (refine Reg.take 6 (v := undef) rfl (by kernel_rfl) (by kernel_rfl) (by kernel_rfl) (fun _ _ _ h => h) (Or.inr ⟨by rfl, rfl⟩) (by assumption) ?_))
  (try simp only [Act.put, List.setIfInBounds_toArray, List.set_cons_zero, List.set_cons_succ])
  (first | (refine Reg.take 7 (v := ?_) rfl (by kernel_rfl) (by kernel_rfl) (by kernel_rfl) (fun _ _ _ h => h) (Or.inl ⟨by rfl, ?_⟩) (by assumption) ?_; rotate_left; (focus ((intro W hSW); (try dsimp only at hSW); (try go_split_ands); go_simp; (try (with_reducible rfl)); done))) | (refine Reg.take 7 (v := undef) rfl (by kernel_rfl) (by kernel_rfl) (by kernel_rfl) (fun _ _ _ h => h) (Or.inr ⟨by rfl, rfl⟩) (by assumption) ?_))
  (try simp only [Act.put, List.setIfInBounds_toArray, List.set_cons_zero, List.set_cons_succ])
  refine wpAnyH_done (by kernel_rfl) ?_ _
  clear hHeld
  go_wp2_with fail
  refine bodyPost_ret_by (results_cc2 rfl _ _ (w.heap.size + 2) (w.heap.size + 3) _ _ _ _ _ _ _ _ rfl Z6.out Try.underlying28 rfl (by kernel_rfl) rfl Y6.out Try.underlying39 rfl (by kernel_rfl)) rfl ?_
  exact ⟨Q2, n2, c2, l2, zeroX, rfl, N6.out, LP.out, rfl, zero_at _, fun q hq => absurd hq zero_bl, L6.out⟩

set_option maxRecDepth 100000 in
set_option maxHeartbeats 6400000 in
theorem model_take {w : World} {cap : Nat} {Q : Option Addr} {n c : Nat} {l : List Mx} (h : NetAt w Q n c l) (hn : n ≤ 5000) (L : Option Addr) (m e : Nat) (i : Int) :
    Calls Try.prog 18 #[nv cap Q n c, .agg #[.int .i64 1, .int .i64 i, .slice L m e]] w (GotV w ((takeR cap (l.map Mx.p) i).1, (takeR cap (l.map Mx.p) i).2.1, (takeR cap (l.map Mx.p) i).2.2.1, (takeR cap (l.map Mx.p) i).2.2.2, 0)) := by
  have HN := Lib.hid h
  have HC := fun W (h : NetAt W Q n c l) => Lib.hid (docTake_any (cap := cap) h hn i)
  generalize takeR cap (l.map Mx.p) i = R at *
  obtain ⟨cap2, pl, p2, er⟩ := R
  show Calls _ _ _ _ (GotV w (cap2, pl, p2, er, 0))
  have L1 : Hid (Below w.heap.size w (((((w.alloc (.cells #[.int .i64 (cap : Int), .slice Q n c] 28)).alloc (.cells #[.int .i64 1, .int .i64 i, .slice L m e] 35)).alloc (.cells #[.int .i64 0, .slice none 0 0] 28)).alloc (.cells #[.int .i64 0, .int .i64 0, .int .i64 0, .int .i64 0, .slice none 0 0, .slice none 0 0] 39)).alloc (.cells #[.int .i64 0, .int .i64 0, .int .i64 0, .int .i64 0, .slice none 0 0, .slice none 0 0] 39))) := ((((((Below.refl _ w).alloc (by first | exact Nat.le_refl _ | (simp; try omega)) _).alloc (by first | exact Nat.le_refl _ | (simp; try omega)) _).alloc (by first | exact Nat.le_refl _ | (simp; try omega)) _).alloc (by first | exact Nat.le_refl _ | (simp; try omega)) _).alloc (by first | exact Nat.le_refl _ | (simp; try omega)) _)
  have X1 : Hid (Cells (((((w.alloc (.cells #[.int .i64 (cap : Int), .slice Q n c] 28)).alloc (.cells #[.int .i64 1, .int .i64 i, .slice L m e] 35)).alloc (.cells #[.int .i64 0, .slice none 0 0] 28)).alloc (.cells #[.int .i64 0, .int .i64 0, .int .i64 0, .int .i64 0, .slice none 0 0, .slice none 0 0] 39)).alloc (.cells #[.int .i64 0, .int .i64 0, .int .i64 0, .int .i64 0, .slice none 0 0, .slice none 0 0] 39)) (w.heap.size) 28 #[.int .i64 (cap : Int), .slice Q n c]) := by
    have := Cells.new w #[.int .i64 (cap : Int), .slice Q n c] 28
    (try simp only [World.size_alloc] at this)
    exact (Cells.alloc (Cells.alloc (Cells.alloc (Cells.alloc this _) _) _) _)
  have P1 : Hid (Cells (((((w.alloc (.cells #[.int .i64 (cap : Int), .slice Q n c] 28)).alloc (.cells #[.int .i64 1, .int .i64 i, .slice L m e] 35)).alloc (.cells #[.int .i64 0, .slice none 0 0] 28)).alloc (.cells #[.int .i64 0, .int .i64 0, .int .i64 0, .int .i64 0, .slice none 0 0, .slice none 0 0] 39)).alloc (.cells #[.int .i64 0, .int .i64 0, .int .i64 0, .int .i64 0, .slice none 0 0, .slice none 0 0] 39)) (w.heap.size + 1) 35 #[.int .i64 1, .int .i64 i, .slice L m e]) := by
    have := Cells.new (w.alloc (.cells #[.int .i64 (cap : Int), .slice Q n c] 28)) #[.int .i64 1, .int .i64 i, .slice L m e] 35
    (try simp only [World.size_alloc] at this)
    exact (Cells.alloc (Cells.alloc (Cells.alloc this _) _) _)
  have Z1 : Hid (Cells (((((w.alloc (.cells #[.int .i64 (cap : Int), .slice Q n c] 28)).alloc (.cells #[.int .i64 1, .int .i64 i, .slice L m e] 35)).alloc (.cells #[.int .i64 0, .slice none 0 0] 28)).alloc (.cells #[.int .i64 0, .int .i64 0, .int .i64 0, .int .i64 0, .slice none 0 0, .slice none 0 0] 39)).alloc (.cells #[.int .i64 0, .int .i64 0, .int .i64 0, .int .i64 0, .slice none 0 0, .slice none 0 0] 39)) (w.heap.size + 2) 28 #[.int .i64 0, .slice none 0 0]) := by
    have := Cells.new ((w.alloc (.cells #[.int .i64 (cap : Int), .slice Q n c] 28)).alloc (.cells #[.int .i64 1, .int .i64 i, .slice L m e] 35)) #[.int .i64 0, .slice none 0 0] 28
    (try simp only [World.size_alloc] at this)
    exact (Cells.alloc (Cells.alloc this _) _)
  have Y1 : Hid (Cells (((((w.alloc (.cells #[.int .i64 (cap : Int), .slice Q n c] 28)).alloc (.cells #[.int .i64 1, .int .i64 i, .slice L m e] 35)).alloc (.cells #[.int .i64 0, .slice none 0 0] 28)).alloc (.cells #[.int .i64 0, .int .i64 0, .int .i64 0, .int .i64 0, .slice none 0 0, .slice none 0 0] 39)).alloc (.cells #[.int .i64 0, .int .i64 0, .int .i64 0, .int .i64 0, .slice none 0 0, .slice none 0 0] 39)) (w.heap.size + 3) 39 #[.int .i64 0, .int .i64 0, .int .i64 0, .int .i64 0, .slice none 0 0, .slice none 0 0]) := by
    have := Cells.new (((w.alloc (.cells #[.int .i64 (cap : Int), .slice Q n c] 28)).alloc (.cells #[.int .i64 1, .int .i64 i, .slice L m e] 35)).alloc (.cells #[.int .i64 0, .slice none 0 0] 28)) #[.int .i64 0, .int .i64 0, .int .i64 0, .int .i64 0, .slice none 0 0, .slice none 0 0] 39
    (try simp only [World.size_alloc] at this)
    exact (Cells.alloc this _)
  have T1 : Hid (Cells (((((w.alloc (.cells #[.int .i64 (cap : Int), .slice Q n c] 28)).alloc (.cells #[.int .i64 1, .int .i64 i, .slice L m e] 35)).alloc (.cells #[.int .i64 0, .slice none 0 0] 28)).alloc (.cells #[.int .i64 0, .int .i64 0, .int .i64 0, .int .i64 0, .slice none 0 0, .slice none 0 0] 39)).alloc (.cells #[.int .i64 0, .int .i64 0, .int .i64 0, .int .i64 0, .slice none 0 0, .slice none 0 0] 39)) (w.heap.size + 4) 39 #[.int .i64 0, .int .i64 0, .int .i64 0, .int .i64 0, .slice none 0 0, .slice none 0 0]) := by
    have := Cells.new ((((w.alloc (.cells #[.int .i64 (cap : Int), .slice Q n c] 28)).alloc (.cells #[.int .i64 1, .int .i64 i, .slice L m e] 35)).alloc (.cells #[.int .i64 0, .slice none 0 0] 28)).alloc (.cells #[.int .i64 0, .int .i64 0, .int .i64 0, .int .i64 0, .slice none 0 0, .slice none 0 0] 39)) #[.int .i64 0, .int .i64 0, .int .i64 0, .int .i64 0, .slice none 0 0, .slice none 0 0] 39
    (try simp only [World.size_alloc] at this)
    exact this
  have SZ : Hid ((((((w.alloc (.cells #[.int .i64 (cap : Int), .slice Q n c] 28)).alloc (.cells #[.int .i64 1, .int .i64 i, .slice L m e] 35)).alloc (.cells #[.int .i64 0, .slice none 0 0] 28)).alloc (.cells #[.int .i64 0, .int .i64 0, .int .i64 0, .int .i64 0, .slice none 0 0, .slice none 0 0] 39)).alloc (.cells #[.int .i64 0, .int .i64 0, .int .i64 0, .int .i64 0, .slice none 0 0, .slice none 0 0] 39)).heap.size = w.heap.size + 5) := by show _ = _; simp
  clear h
  unfold nv at *
  go_enter Try.func18, Try.ntmps18
  go_upto_region 16 with (first | (go_at_call 39; refine (HC _ (HN.out.below L1.out)).out.mono ?_; rintro en w2 ⟨Q2, n2, c2, l2, y, rfl, hO, hP, hyp, hya, hyn, hap, hb⟩; have L2 := Lib.hid (L1.out.trans (hb.mono L1.out.size)); have X2 := Lib.hid (Cells.below X1.out hb); have Z2 := Lib.hid (Cells.below Z1.out hb); have Y2 := Lib.hid (Cells.below Y1.out hb); have T2 := Lib.hid (Cells.below T1.out hb); obtain ⟨k0, k1⟩ := NBox.cells X2.out; have g0 := Cells.frozen X2.out 0; have g1 := Cells.frozen X2.out 1; have N2 := Lib.hid ((hO.lower L1.out.size).base_ L1.out.size); have NW : Hid (∀ x ∈ l2, ∀ q, Bl x q → w.heap.size + 5 ≤ q) := (fun x hx q hq => by have h1 := hO.low x hx q hq; have h2 := SZ.out; omega); have NB : Hid (∀ q, (Value.slice Q2 n2 c2).ownBlock = some q → w.heap.size + 5 ≤ q) := (fun q hq => by have h1 := (hO.own.lt q hq).1; have h2 := SZ.out; omega); have LP := Lib.hid hP; have M2 := Lib.hid hya; have YP := Lib.hid hyp; have YN := Lib.hid (hyn.mono L1.out.size); have YZ : Hid (∀ q, Bl y q → w.heap.size + 5 ≤ q) := (fun q hq => by have h1 := hyn q hq; have h2 := SZ.out; omega); have b1 : Mov [w.heap.size] w2 ((w2.setCell ⟨w.heap.size, 0, none⟩ (.int .i64 (cap2 : Int))).setCell ⟨w.heap.size, 1, none⟩ (.slice Q2 n2 c2)) := Mov.set2 _ _ _ _; have M4 := Cells.mov T2.out b1 (by simp); obtain ⟨s0, q0, s1, q1, s2, q2, s3, q3, s4, q4, s5, q5⟩ := six_steps M4 (.int .i64 y.k) (.int .i64 y.f) (.int .i64 y.t) (.int .i64 y.i) (.slice y.A y.n y.c); clear b1 M4; (try unfold nv); (try unfold mxv); clear hb hO hP hyp hya hyn hap) | fail)
  clear k0 k1 g0 g1 L1 X1 P1 Z1 Y1 T1 SZ HC HN s0 q0 s1 q1 s2 q2 s3 q3 s4 q4 s5 q5
  have bt : Mov [w.heap.size] w2 ((w2.setCell ⟨w.heap.size, 0, none⟩ (.int .i64 (cap2 : Int))).setCell ⟨w.heap.size, 1, none⟩ (.slice Q2 n2 c2)) := Mov.set2 _ _ _ _
  have L3 := Lib.hid (L2.out.trans (bt.up L2.out.size (by omega)))
  have X3 : Hid (NBox ((w2.setCell ⟨w.heap.size, 0, none⟩ (.int .i64 (cap2 : Int))).setCell ⟨w.heap.size, 1, none⟩ (.slice Q2 n2 c2)) (w.heap.size) cap2 Q2 n2 c2) := Cells.set2 X2.out _ _
  have Z3 := Lib.hid (Cells.mov Z2.out bt (by simp; try omega))
  have Y3 := Lib.hid (Cells.mov Y2.out bt (by simp; try omega))
  have T3 := Lib.hid (Cells.mov T2.out bt (by simp; try omega))
  have N3 := Lib.hid (N2.out.mov_ (fun e => by have h1 := NB.out _ e; omega) (fun x hx q hq => by have h1 := NW.out x hx q hq; omega) bt)
  have M3 := Lib.hid (M2.out.keepB bt.size (fun q hq => bt.block q (M2.out.lt hq) (by have h1 := YZ.out q hq; simp; omega)))
  clear bt L2 X2 Z2 Y2 T2 N2 M2
  generalize (w2.setCell ⟨w.heap.size, 0, none⟩ (.int .i64 (cap2 : Int))).setCell ⟨w.heap.size, 1, none⟩ (.slice Q2 n2 c2) = w3 at *
  have bt : Mov [w.heap.size + 4] w3 ((((((w3.setCell ⟨w.heap.size + 4, 0, none⟩ (.int .i64 y.k)).setCell ⟨w.heap.size + 4, 1, none⟩ (.int .i64 y.f)).setCell ⟨w.heap.size + 4, 2, none⟩ (.int .i64 y.t)).setCell ⟨w.heap.size + 4, 3, none⟩ (.int .i64 y.i)).setCell ⟨w.heap.size + 4, 4, none⟩ (.slice y.A y.n y.c)).setCell ⟨w.heap.size + 4, 5, none⟩ (.slice y.B y.m y.d)) := Mov.set6 _ _ _ _ _ _ _ _
  have L4 := Lib.hid (L3.out.trans (bt.up L3.out.size (by omega)))
  have X4 := Lib.hid (Cells.mov X3.out bt (by simp; try omega))
  have Z4 := Lib.hid (Cells.mov Z3.out bt (by simp; try omega))
  have Y4 := Lib.hid (Cells.mov Y3.out bt (by simp; try omega))
  have T4 : Hid (MBox ((((((w3.setCell ⟨w.heap.size + 4, 0, none⟩ (.int .i64 y.k)).setCell ⟨w.heap.size + 4, 1, none⟩ (.int .i64 y.f)).setCell ⟨w.heap.size + 4, 2, none⟩ (.int .i64 y.t)).setCell ⟨w.heap.size + 4, 3, none⟩ (.int .i64 y.i)).setCell ⟨w.heap.size + 4, 4, none⟩ (.slice y.A y.n y.c)).setCell ⟨w.heap.size + 4, 5, none⟩ (.slice y.B y.m y.d)) (w.heap.size + 4) y) := Cells.set6 T3.out _ _ _ _ _ _
  have N4 := Lib.hid (N3.out.mov_ (fun e => by have h1 := NB.out _ e; omega) (fun x hx q hq => by have h1 := NW.out x hx q hq; omega) bt)
  have M4 := Lib.hid (M3.out.keepB bt.size (fun q hq => bt.block q (M3.out.lt hq) (by have h1 := YZ.out q hq; simp; omega)))
  clear bt L3 X3 Z3 Y3 T3 N3 M3
  generalize (((((w3.setCell ⟨w.heap.size + 4, 0, none⟩ (.int .i64 y.k)).setCell ⟨w.heap.size + 4, 1, none⟩ (.int .i64 y.f)).setCell ⟨w.heap.size + 4, 2, none⟩ (.int .i64 y.t)).setCell ⟨w.heap.size + 4, 3, none⟩ (.int .i64 y.i)).setCell ⟨w.heap.size + 4, 4, none⟩ (.slice y.A y.n y.c)).setCell ⟨w.heap.size + 4, 5, none⟩ (.slice y.B y.m y.d) = w4 at *
  have L5 := Lib.hid L4.out.drew
  have X5 := Lib.hid (Cells.below X4.out ((Below.refl _ w4).drew))
  have Z5 := Lib.hid (Cells.below Z4.out ((Below.refl _ w4).drew))
  have Y5 := Lib.hid (Cells.below Y4.out ((Below.refl _ w4).drew))
  have T5 := Lib.hid (Cells.below T4.out ((Below.refl _ w4).drew))
  have N5 := Lib.hid (OwnN.below N4.out ((Below.refl _ w4).drew))
  have M5 := Lib.hid (MAt.below M4.out ((Below.refl _ w4).drew))
  refine wp_region_held_drew (S := fun W => W.cell? ⟨w.heap.size, 0, none⟩ = some (.int .i64 (cap2 : Int)) ∧ W.cell? ⟨w.heap.size, 1, none⟩ = some (.slice Q2 n2 c2) ∧ W.cell? ⟨w.heap.size + 4, 0, none⟩ = some (.int .i64 y.k) ∧ W.cell? ⟨w.heap.size + 4, 1, none⟩ = some (.int .i64 y.f) ∧ W.cell? ⟨w.heap.size + 4, 2, none⟩ = some (.int .i64 y.t) ∧ W.cell? ⟨w.heap.size + 4, 3, none⟩ = some (.int .i64 y.i) ∧ W.cell? ⟨w.heap.size + 4, 4, none⟩ = some (.slice y.A y.n y.c) ∧ W.cell? ⟨w.heap.size + 4, 5, none⟩ = some (.slice y.B y.m y.d)) (by kernel_rfl) (And.intro (NBox.cells X5.out).1 (And.intro (NBox.cells X5.out).2 (show _ ∧ _ ∧ _ ∧ _ ∧ _ ∧ _ from MBox.cells (x := y) T5.out))) (fun hHeld => ?_)
  generalize w4.drew = w5 at *
  clear L4 X4 Z4 Y4 T4 N4 M4 
  (first | (refine Reg.take 0 (v := ?_) rfl (by kernel_rfl) (by kernel_rfl) (by kernel_rfl) (fun _ _ _ h => h) (Or.inl ⟨by rfl, ?_⟩) (by assumption) ?_; rotate_left; (focus ((intro W hSW); (try dsimp only at hSW); (try go_split_ands); go_simp; (try (with_reducible rfl)); done))) | (refine Reg.take 0 (v := undef) rfl (by kernel_rfl) (by kernel_rfl) (by kernel_rfl) (fun _ _ _ h => h) (Or.inr ⟨by rfl, rfl⟩) (by assumption) ?_))
  (try simp only [Act.put, List.setIfInBounds_toArray, List.set_cons_zero, List.set_cons_succ])
  (first | (refine Reg.take 1 (v := ?_) rfl (by kernel_rfl) (by kernel_rfl) (by kernel_rfl) (fun _ _ _ h => h) (Or.inl ⟨by rfl, ?_⟩) (by assumption) ?_; rotate_left; (focus ((intro W hSW); (try dsimp only at hSW); (try go_split_ands); go_simp; (try (with_reducible rfl)); done))) | (refine Reg.take 1 (v := undef) rfl (by kernel_rfl) (by kernel_rfl) (by kernel_rfl) (fun _ _ _ h => h) (Or.inr ⟨by rfl, rfl⟩) (by assumption) ?_))
  (try simp only [Act.put, List.setIfInBounds_toArray, List.set_cons_zero, List.set_cons_succ])
  (first | (refine Reg.take 2 (v := ?_) rfl (by kernel_rfl) (by kernel_rfl) (by kernel_rfl) (fun _ _ _ h => h) (Or.inl ⟨by rfl, ?_⟩) (by assumption) ?_; rotate_left; (focus ((intro W hSW); (try dsimp only at hSW); (try go_split_ands); go_simp; (try (with_reducible rfl)); done))) | (refine Reg.take 2 (v := undef) rfl (by kernel_rfl) (by kernel_rfl) (by kernel_rfl) (fun _ _ _ h => h) (Or.inr ⟨by rfl, rfl⟩) (by assumption) ?_))
  (try simp only [Act.put, List.setIfInBounds_toArray, List.set_cons_zero, List.set_cons_succ])
  (first | (refine Reg.take 3 (v := ?_) rfl (by kernel_rfl) (by kernel_rfl) (by kernel_rfl) (fun _ _ _ h => h) (Or.inl ⟨by rfl, ?_⟩) (by assumption) ?_; rotate_left; (focus ((intro W hSW); (try dsimp only at hSW); (try go_split_ands); go_simp; (try (with_reducible rfl)); done))) | (refine Reg.take 3 (v := undef) rfl (by kernel_rfl) (by kernel_rfl) (by kernel_rfl) (fun _ _ _ h => h) (Or.inr ⟨by rfl, rfl⟩) (by assumption) ?_))
  (try simp only [Act.put, List.setIfInBounds_toArray, List.set_cons_zero, List.set_cons_succ])
  have y0 := Cells.cell Z5.out 0
  have f0 := Cells.frozen Z5.out 0
  have y1 := Cells.cell Z5.out 1
  have f1 := Cells.frozen Z5.out 1
  refine Reg.step 4 rfl (by kernel_rfl) (by rfl) (fun K hK => ?_)
  go_simp
  have bt : Mov [w.heap.size + 2] w5 ((w5.setCell ⟨w.heap.size + 2, 0, none⟩ (.int .i64 (cap2 : Int))).setCell ⟨w.heap.size + 2, 1, none⟩ (.slice Q2 n2 c2)) := Mov.set2 _ _ _ _
  have L6 := Lib.hid (L5.out.trans (bt.up L5.out.size (by omega)))
  have X6 := Lib.hid (Cells.mov X5.out bt (by simp; try omega))
  have Z6 : Hid (Cells ((w5.setCell ⟨w.heap.size + 2, 0, none⟩ (.int .i64 (cap2 : Int))).setCell ⟨w.heap.size + 2, 1, none⟩ (.slice Q2 n2 c2)) (w.heap.size + 2) 28 #[.int .i64 (cap2 : Int), .slice Q2 n2 c2]) := Cells.set2 Z5.out _ _
  have Y6 := Lib.hid (Cells.mov Y5.out bt (by simp; try omega))
  have T6 := Lib.hid (Cells.mov T5.out bt (by simp; try omega))
  have N6 := Lib.hid (N5.out.mov Z5.out (by decide) (fun x hx q hq => by have h1 := NW.out x hx q hq; omega) bt)
  have M6 := Lib.hid (M5.out.keepB bt.size (fun q hq => bt.block q (M5.out.lt hq) (by have h1 := YZ.out q hq; simp; omega)))
  clear bt hHeld y0 f0 y1 f1
  clear L5 X5 Z5 Y5 T5 N5 M5 
  generalize (w5.setCell ⟨w.heap.size + 2, 0, none⟩ (.int .i64 (cap2 : Int))).setCell ⟨w.heap.size + 2, 1, none⟩ (.slice Q2 n2 c2) = w6 at *
  refine hK.out _ _ (And.intro (NBox.cells X6.out).1 (And.intro (NBox.cells X6.out).2 (show _ ∧ _ ∧ _ ∧ _ ∧ _ ∧ _ from MBox.cells (x := y) T6.out))) (fun hHeld => ?_)
  clear hK K
  (try simp only [Act.put, List.setIfInBounds_toArray, List.set_cons_zero, List.set_cons_succ])
  have y0 := Cells.cell Y6.out 0
  have f0 := Cells.frozen Y6.out 0
  have y1 := Cells.cell Y6.out 1
  have f1 := Cells.frozen Y6.out 1
  have y2 := Cells.cell Y6.out 2
  have f2 := Cells.frozen Y6.out 2
  have y3 := Cells.cell Y6.out 3
  have f3 := Cells.frozen Y6.out 3
  have y4 := Cells.cell Y6.out 4
  have f4 := Cells.frozen Y6.out 4
  have y5 := Cells.cell Y6.out 5
  have f5 := Cells.frozen Y6.out 5
  refine Reg.step 5 rfl (by kernel_rfl) (by rfl) (fun K hK => ?_)
  go_simp
  have bt : Mov [w.heap.size + 3] w6 ((((((w6.setCell ⟨w.heap.size + 3, 0, none⟩ (.int .i64 y.k)).setCell ⟨w.heap.size + 3, 1, none⟩ (.int .i64 y.f)).setCell ⟨w.heap.size + 3, 2, none⟩ (.int .i64 y.t)).setCell ⟨w.heap.size + 3, 3, none⟩ (.int .i64 y.i)).setCell ⟨w.heap.size + 3, 4, none⟩ (.slice y.A y.n y.c)).setCell ⟨w.heap.size + 3, 5, none⟩ (.slice y.B y.m y.d)) := Mov.set6 _ _ _ _ _ _ _ _
  have L7 := Lib.hid (L6.out.trans (bt.up L6.out.size (by omega)))
  have X7 := Lib.hid (Cells.mov X6.out bt (by simp; try omega))
  have Z7 := Lib.hid (Cells.mov Z6.out bt (by simp; try omega))
  have Y7 : Hid (Cells ((((((w6.setCell ⟨w.heap.size + 3, 0, none⟩ (.int .i64 y.k)).setCell ⟨w.heap.size + 3, 1, none⟩ (.int .i64 y.f)).setCell ⟨w.heap.size + 3, 2, none⟩ (.int .i64 y.t)).setCell ⟨w.heap.size + 3, 3, none⟩ (.int .i64 y.i)).setCell ⟨w.heap.size + 3, 4, none⟩ (.slice y.A y.n y.c)).setCell ⟨w.heap.size + 3, 5, none⟩ (.slice y.B y.m y.d)) (w.heap.size + 3) 39 #[.int .i64 y.k, .int .i64 y.f, .int .i64 y.t, .int .i64 y.i, .slice y.A y.n y.c, .slice y.B y.m y.d]) := Cells.set6 Y6.out _ _ _ _ _ _
  have T7 := Lib.hid (Cells.mov T6.out bt (by simp; try omega))
  have N7 := Lib.hid (N6.out.mov_ (fun e => by have h1 := NB.out _ e; omega) (fun x hx q hq => by have h1 := NW.out x hx q hq; omega) bt)
  have M7 := Lib.hid (M6.out.keepB bt.size (fun q hq => bt.block q (M6.out.lt hq) (by have h1 := YZ.out q hq; simp; omega)))
  clear bt hHeld y0 f0 y1 f1 y2 f2 y3 f3 y4 f4 y5 f5
  clear L6 X6 Z6 Y6 T6 N6 M6 
  generalize (((((w6.setCell ⟨w.heap.size + 3, 0, none⟩ (.int .i64 y.k)).setCell ⟨w.heap.size + 3, 1, none⟩ (.int .i64 y.f)).setCell ⟨w.heap.size + 3, 2, none⟩ (.int .i64 y.t)).setCell ⟨w.heap.size + 3, 3, none⟩ (.int .i64 y.i)).setCell ⟨w.heap.size + 3, 4, none⟩ (.slice y.A y.n y.c)).setCell ⟨w.heap.size + 3, 5, none⟩ (.slice y.B y.m y.d) = w7 at *
  refine hK.out _ _ (And.intro (NBox.cells X7.out).1 (And.intro (NBox.cells X7.out).2 (show _ ∧ _ ∧ _ ∧ _ ∧ _ ∧ _ from MBox.cells (x := y) T7.out))) (fun hHeld => ?_)
  clear hK K
  (try simp only [Act.put, List.setIfInBounds_toArray, List.set_cons_zero, List.set_cons_succ])
  (first | (refine Reg.take 6 (v := ?_) rfl (by kernel_rfl) (by kernel_rfl) (by kernel_rfl) (fun _ _ _ h => h) (Or.inl ⟨by rfl, ?_⟩) (by assumption) ?_; rotate_left; (focus ((intro W hSW); (try dsimp only at hSW); (try go_split_ands); go_simp; (try (with_reducible rfl)); done))) | (refine Reg.take 6 (v := undef) rfl (by kernel_rfl) (by kernel_rfl) (by kernel_rfl) (fun _ _ _ h => h) (Or.inr ⟨by rfl, rfl⟩) (by assumption) ?_))
  (try simp only [Act.put, List.setIfInBounds_toArray, List.set_cons_zero, List.set_cons_succ])
  (first | (refine Reg.take 7 (v := ?_) rfl (by kernel_rfl) (by kernel_rfl) (by kernel_rfl) (fun _ _ _ h => h) (Or.inl ⟨by rfl, ?_⟩) (by assumption) ?_; rotate_left; (focus ((intro W hSW); (try dsimp only at hSW); (try go_split_ands); go_simp; (try (with_reducible rfl)); done))) | (refine Reg.take 7 (v := undef) rfl (by kernel_rfl) (by kernel_rfl) (by kernel_rfl) (fun _ _ _ h => h) (Or.inr ⟨by rfl, rfl⟩) (by assumption) ?_))
  (try simp only [Act.put, List.setIfInBounds_toArray, List.set_cons_zero, List.set_cons_succ])
  refine wpAnyH_done (by kernel_rfl) ?_ _
  clear hHeld
  go_wp2_with fail
  refine bodyPost_ret_by (results_cc2 rfl _ _ (w.heap.size + 2) (w.heap.size + 3) _ _ _ _ _ _ _ _ rfl Z7.out Try.underlying28 rfl (by kernel_rfl) rfl Y7.out Try.underlying39 rfl (by kernel_rfl)) rfl ?_
  exact ⟨Q2, n2, c2, l2, y, rfl, N7.out, LP.out, YP.out, M7.out, YN.out, L7.out⟩

theorem model_any {w : World} {cap : Nat} {Q : Option Addr} {n c : Nat} {l : List Mx} (h : NetAt w Q n c l) (hn : n ≤ 5000) (hcap : cap ≤ 5000) {o : Ox} (ho : OpAt w o) :
    Calls Try.prog 18 #[nv cap Q n c, oxv o] w (GotV w (bodyR cap (l.map Mx.p) o.d o.i (o.l.map Mx.p))) := by
  obtain ⟨d, i, L, m, e, ls⟩ := o
  unfold oxv bodyR
  dsimp only at ho ⊢
  by_cases h0 : d = 0
  · rw [if_pos h0, h0]; exact model_send h hn hcap ho i
  rw [if_neg h0]
  by_cases h1 : d = 1
  · rw [if_pos h1, h1]; exact model_take h hn L m e i
  rw [if_neg h1]
  by_cases h2 : d = 2
  · rw [if_pos h2, h2]; exact model_drop h hn L m e i
  rw [if_neg h2]
  by_cases h3 : d = 3
  · rw [if_pos h3, h3]; exact model_double h hn L m e i
  rw [if_neg h3]
  by_cases h4 : d = 4
  · rw [if_pos h4, h4]; exact model_later h hn L m e i
  rw [if_neg h4]
  exact model_cut h hn L m e i d h0 h1 h2 h3 h4
end Net
end Go.Proofs.Ytamahknnppjegaa
/-
  WALKS: the document's Take, Int: a number's bytes.
-/
namespace Go.Proofs.Ytamahknnppjegaa
open Go.RowKit Mem
namespace Wire
theorem dec_snoc (l : List B8) (x : B8) : dec (l ++ [x]) = dec l + x.toNat % 128 * 128 ^ l.length := by
  induction l with
  | nil => simp [dec]
  | cons b r ih =>
    rw [List.cons_append, dec, dec, ih, List.length_cons, Nat.pow_succ, Nat.mul_add, Nat.add_assoc]
    congr 2
    rw [Nat.mul_comm 128, Nat.mul_assoc]
theorem dec_bound (l : List B8) : dec l < 128 ^ l.length := by
  induction l with
  | nil => simp [dec]
  | cons b r ih =>
    rw [dec, List.length_cons, Nat.pow_succ]
    have := Nat.mod_lt b.toNat (show 0 < 128 by omega)
    omega

set_option maxRecDepth 100000 in
set_option maxHeartbeats 3200000 in
theorem docTake_at {A : Option Addr} {len cap : Nat} {l : List B8} {w : World} (h : Row cb w A len cap l) {n k e : Nat} (ht : take1 l = (n, k, e)) :
    Calls Try.prog 74 #[.slice A len cap] w fun en w' => en = .returned (.tuple #[.int .u64 (n : Int), .int .i64 (k : Int), .int .i64 (e : Int)]) ∧ Below w.heap.size w w' := by
  have HR := Lib.hid h
  have HT := Lib.hid ht
  have hbig := h.big
  clear h ht
  go_enter Try.func74, Try.ntmps74
  go_wp2_with fail
  go_loopw [5, 6, 7, 10] (fun a _ _ t wr => ∃ (i v : Nat), t = .int .i64 i ∧ a = .int .u64 v ∧ i ≤ len ∧ i ≤ 9 ∧ wr = w ∧ Hid (v = dec (l.take i) ∧ scan 0 l = scan i (l.drop i))) (fun _ _ _ t _ => len - (intOf t).toNat)
  case atStart => exact ⟨0, 0, rfl, rfl, by omega, by omega, rfl, rfl, rfl⟩
  case round =>
    obtain ⟨i, v, rfl, rfl, hi, hi9, rfl, HV⟩ := hrel
    by_cases hlt : i < len
    · obtain ⟨x, hx⟩ := HR.out.get hlt
      obtain ⟨b, o, hA, c0⟩ := HR.out.cell hx
      subst hA
      obtain ⟨z, hz⟩ : ∃ z : Nat, z = x.toNat := ⟨_, rfl⟩
      have hz8 : z < 256 := by rw [hz]; exact x.isLt
      have hd : l.drop i = x :: l.drop (i + 1) := by
        obtain ⟨h1, h2⟩ := List.getElem?_eq_some_iff.1 hx
        rw [← h2, List.getElem_cons_drop]
      have c0' : wr.cell? ⟨b, o + i, none⟩ = some (.int .u8 (z : Int)) := by rw [hz]; exact c0
      have hi0 : (0 : Int) ≤ (i : Int) := by omega
      have hil : (i : Int) < (len : Int) := by omega
      have hs : scan 0 l = if (i = 9 ∧ 1 < z) ∨ (0 < i ∧ z = 0) then (0, 21) else if z < 128 then (i + 1, 0) else scan (i + 1) (l.drop (i + 1)) := by
        rw [HV.out.2, hd, hz]
        rfl
      have HS := Lib.hid hs
      have HSN : Hid (dec (l.take (i + 1)) = v + z % 128 * 128 ^ i) := by
        show _ = _
        rw [List.take_add_one, hx]
        show dec (l.take i ++ [x]) = _
        rw [dec_snoc, ← HV.out.1, List.length_take, Nat.min_eq_left (by have := HR.out.len; omega), hz]
      have hvb : v < 128 ^ i := by rw [HV.out.1]; have := dec_bound (l.take i); rw [List.length_take, Nat.min_eq_left (by have := HR.out.len; omega)] at this; exact this
      clear c0 hx hd hz hs
      by_cases h9 : i = 9
      · have e9 : ((i : Int) == 9) = true := by simp; omega
        have HI9 := Lib.hid h9
        clear h9
        by_cases hz1 : 1 < z
        · have hno : take1 l = (0, 0, 21) := by
            unfold take1
            rw [show scan 0 l = (0, 21) by have h1 := HS.out; rw [if_pos (Or.inl ⟨HI9.out, hz1⟩)] at h1; exact h1]
            rfl
          rw [HT.out] at hno
          simp only [Prod.mk.injEq] at hno
          obtain ⟨rfl, rfl, rfl⟩ := hno
          have eb : decide (1 < (z : Int)) = true := decide_eq_true (by omega)
          have eb2 : decide (1 < z) = true := decide_eq_true hz1
          go_wp2_with fail
          go_ret3
          exact ⟨rfl, Below.refl _ _⟩
        · have eb : decide (1 < (z : Int)) = false := decide_eq_false (by omega)
          have eb2 : decide (1 < z) = false := decide_eq_false hz1
          obtain ⟨NN, hNN⟩ : ∃ x, x = v + z % 128 * 128 ^ i := ⟨_, rfl⟩
          have hNb : NN < 18446744073709551616 := by
            rw [hNN]
            have h9 : 128 ^ 9 = 9223372036854775808 := by decide
            have h8 := HI9.out
            rw [h8, h9] at hvb
            rw [h8, h9]
            omega
          have hmul : (z : Int) % 128 * 2 ^ (7 * i) = ((z % 128 * 128 ^ i : Nat) : Int) := by
            rw [Int.pow_mul, show (2 : Int) ^ 7 = 128 by decide]
            push_cast
            rfl
          have hw : IntKind.u64.wrap ((v : Int) + IntKind.u64.wrap ((z : Int) % 128 * 2 ^ (7 * i))) = (NN : Int) := by
            rw [hmul, IntKind.wrap_u64, IntKind.wrap_u64]
            omega
          have HNN := Lib.hid hNN
          clear hmul hvb hNN
          go_upto_region 8 with fail
          (try rw [hw])
          have HD := Lib.hid HSN.out
          rw [← HNN.out] at HD
          clear hw c0'
          rcases e1 : decide (z < 128)
          · have hz128 : 128 ≤ z := by have := of_decide_eq_false e1; omega
            omega
          · have hz128 : z < 128 := of_decide_eq_true e1
            have eg : decide (128 ≤ (z : Int)) = false := decide_eq_false (by omega)
            have eg2 : decide (128 ≤ z) = false := decide_eq_false (by omega)
            by_cases hz0 : 0 < i ∧ z = 0
            · obtain ⟨hi0', hz0⟩ := hz0
              have hno : take1 l = (0, 0, 21) := by
                unfold take1
                rw [show scan 0 l = (0, 21) by have h1 := HS.out; rw [if_pos (Or.inr ⟨hi0', hz0⟩)] at h1; exact h1]
                rfl
              rw [HT.out] at hno
              simp only [Prod.mk.injEq] at hno
              obtain ⟨rfl, rfl, rfl⟩ := hno
              have ez : ((z : Int) == 0) = true := by simp; omega
              have ei : decide ((0 : Int) < (i : Int)) = true := decide_eq_true (by omega)
              have ei2 : decide (0 < i) = true := decide_eq_true (by omega)
              clear hz0
              go_wp2_with fail
              go_ret3
              exact ⟨rfl, Below.refl _ _⟩
            · have hyes : take1 l = (NN, i + 1, 0) := by
                have h1 := HS.out
                have h2 := HI9.out
                rw [if_neg (by omega), if_pos hz128] at h1
                unfold take1
                rw [h1]
                show (dec (l.take (i + 1)), i + 1, 0) = _
                rw [HD.out]
              rw [HT.out] at hyes
              simp only [Prod.mk.injEq] at hyes
              obtain ⟨rfl, rfl, rfl⟩ := hyes
              rcases ei : decide (0 < i)
              · have hi00 : i = 0 := by have := of_decide_eq_false ei; omega
                have ei3 : decide ((0 : Int) < (i : Int)) = false := decide_eq_false (by omega)
                have HI0 := Lib.hid hi00
                clear hi00
                go_wp2_with fail
                go_ret3
                exact ⟨by first | rfl | simp, Below.refl _ _⟩
              · have hi00 : 0 < i := of_decide_eq_true ei
                have ez : ((z : Int) == 0) = false := by simp; omega
                have ei3 : decide ((0 : Int) < (i : Int)) = true := decide_eq_true (by omega)
                go_wp2_with fail
                go_ret3
                exact ⟨by first | rfl | simp, Below.refl _ _⟩
      · have e9 : ((i : Int) == 9) = false := by simp; omega
        have HI9 : Hid (i ≤ 8) := by show i ≤ 8; omega
        clear h9
        obtain ⟨NN, hNN⟩ : ∃ x, x = v + z % 128 * 128 ^ i := ⟨_, rfl⟩
        have hNb : NN < 18446744073709551616 := by
          rw [hNN]
          have hp : 128 ^ (i + 1) ≤ 128 ^ 9 := Nat.pow_le_pow_right (by omega) (by have := HI9.out; omega)
          have hq : z % 128 * 128 ^ i ≤ 127 * 128 ^ i := Nat.mul_le_mul_right _ (by omega)
          rw [Nat.pow_succ] at hp
          have h9 : 128 ^ 9 = 9223372036854775808 := by decide
          omega
        have hmul : (z : Int) % 128 * 2 ^ (7 * i) = ((z % 128 * 128 ^ i : Nat) : Int) := by
          rw [Int.pow_mul, show (2 : Int) ^ 7 = 128 by decide]
          push_cast
          rfl
        have hw : IntKind.u64.wrap ((v : Int) + IntKind.u64.wrap ((z : Int) % 128 * 2 ^ (7 * i))) = (NN : Int) := by
          rw [hmul, IntKind.wrap_u64, IntKind.wrap_u64]
          omega
        have HNN := Lib.hid hNN
        clear hmul hvb hNN
        go_upto_region 8 with fail
        (try rw [hw])
        have HD := Lib.hid HSN.out
        rw [← HNN.out] at HD
        clear hw c0'
        rcases e1 : decide (z < 128)
        · have hz128 : 128 ≤ z := by have := of_decide_eq_false e1; omega
          have eg : decide (128 ≤ (z : Int)) = true := decide_eq_true (by omega)
          have eg2 : decide (128 ≤ z) = true := decide_eq_true (by omega)
          have HV2 : Hid (NN = dec (l.take (i + 1)) ∧ scan 0 l = scan (i + 1) (l.drop (i + 1))) := ⟨HD.out.symm, by have h1 := HS.out; have h2 := HI9.out; rw [if_neg (by omega), if_neg (by omega)] at h1; exact h1⟩
          go_wp2_with fail
          go_roundw
          case rel => exact ⟨i + 1, NN, by go_num, rfl, by omega, by have := HI9.out; omega, by first | rfl | trivial, HV2⟩
          case measure => simp [intOf]; omega
        · have hz128 : z < 128 := of_decide_eq_true e1
          have eg : decide (128 ≤ (z : Int)) = false := decide_eq_false (by omega)
          have eg2 : decide (128 ≤ z) = false := decide_eq_false (by omega)
          by_cases hz0 : 0 < i ∧ z = 0
          · obtain ⟨hi0', hz0⟩ := hz0
            have hno : take1 l = (0, 0, 21) := by
              unfold take1
              rw [show scan 0 l = (0, 21) by have h1 := HS.out; rw [if_pos (Or.inr ⟨hi0', hz0⟩)] at h1; exact h1]
              rfl
            rw [HT.out] at hno
            simp only [Prod.mk.injEq] at hno
            obtain ⟨rfl, rfl, rfl⟩ := hno
            have ez : ((z : Int) == 0) = true := by simp; omega
            have ei : decide ((0 : Int) < (i : Int)) = true := decide_eq_true (by omega)
            have ei2 : decide (0 < i) = true := decide_eq_true (by omega)
            clear hz0
            go_wp2_with fail
            go_ret3
            exact ⟨rfl, Below.refl _ _⟩
          · have hyes : take1 l = (NN, i + 1, 0) := by
              have h1 := HS.out
              have h2 := HI9.out
              rw [if_neg (by omega), if_pos hz128] at h1
              unfold take1
              rw [h1]
              show (dec (l.take (i + 1)), i + 1, 0) = _
              rw [HD.out]
            rw [HT.out] at hyes
            simp only [Prod.mk.injEq] at hyes
            obtain ⟨rfl, rfl, rfl⟩ := hyes
            rcases ei : decide (0 < i)
            · have hi00 : i = 0 := by have := of_decide_eq_false ei; omega
              have ei3 : decide ((0 : Int) < (i : Int)) = false := decide_eq_false (by omega)
              have HI0 := Lib.hid hi00
              clear hi00
              go_wp2_with fail
              go_ret3
              exact ⟨by first | rfl | simp, Below.refl _ _⟩
            · have hi00 : 0 < i := of_decide_eq_true ei
              have ez : ((z : Int) == 0) = false := by simp; omega
              have ei3 : decide ((0 : Int) < (i : Int)) = true := decide_eq_true (by omega)
              go_wp2_with fail
              go_ret3
              exact ⟨by first | rfl | simp, Below.refl _ _⟩
    · have hil : i = len := by omega
      have hno : take1 l = (0, 0, 20) := by
        unfold take1
        rw [HV.out.2, List.drop_of_length_le (by have := HR.out.len; omega)]
        rfl
      rw [HT.out] at hno
      simp only [Prod.mk.injEq] at hno
      obtain ⟨rfl, rfl, rfl⟩ := hno
      go_wp2_with fail
      go_ret3
      exact ⟨rfl, Below.refl _ _⟩
set_option maxRecDepth 100000 in
set_option maxHeartbeats 800000 in
theorem docInt_at {A : Option Addr} {len cap : Nat} {l : List B8} {w : World} (h : Row cb w A len cap l) {n k e : Nat} (ht : int1 l = (n, k, e)) :
    Calls Try.prog 69 #[.slice A len cap] w fun en w' => en = .returned (.tuple #[.int .i64 (n : Int), .int .i64 (k : Int), .int .i64 (e : Int)]) ∧ Below w.heap.size w w' := by
  have HR := Lib.hid h
  rcases hs : take1 l with ⟨n1, k1, e1⟩
  have HS := Lib.hid hs
  clear h
  unfold int1 at ht
  rw [hs] at ht
  by_cases he : e1 = 0
  · subst he
    simp only [if_pos] at ht
    by_cases hb : 9223372036854775807 < n1
    · rw [if_pos hb] at ht
      simp only [Prod.mk.injEq] at ht
      obtain ⟨rfl, rfl, rfl⟩ := ht
      have hd : decide (9223372036854775808 ≤ (n1 : Int)) = true := by simp; omega
      clear hs hb
      go_enter Try.func69, Try.ntmps69
      go_wp2_with (go_at_call 74; refine (docTake_at HR.out HS.out).mono ?_; rintro en w' ⟨rfl, hb⟩; have HB := Lib.hid hb; clear hb)
      go_ret3
      exact ⟨rfl, HB.out⟩
    · rw [if_neg hb] at ht
      simp only [Prod.mk.injEq] at ht
      obtain ⟨rfl, rfl, rfl⟩ := ht
      have hd : decide (9223372036854775808 ≤ (n1 : Int)) = false := by simp; omega
      have hw := wrap_small n1 (by omega)
      clear hs hb
      go_enter Try.func69, Try.ntmps69
      go_wp2_with (go_at_call 74; refine (docTake_at HR.out HS.out).mono ?_; rintro en w' ⟨rfl, hb⟩; have HB := Lib.hid hb; clear hb)
      go_ret3
      exact ⟨rfl, HB.out⟩
  · rw [if_neg he] at ht
    simp only [Prod.mk.injEq] at ht
    obtain ⟨rfl, rfl, rfl⟩ := ht
    obtain ⟨rfl, rfl, h3, -⟩ := take1_bad hs he
    clear hs he
    rcases h3 with rfl | rfl
    all_goals
      go_enter Try.func69, Try.ntmps69
      go_wp2_with (go_at_call 74; refine (docTake_at HR.out HS.out).mono ?_; rintro en w' ⟨rfl, hb⟩; have HB := Lib.hid hb; clear hb)
      go_ret3
      exact ⟨rfl, HB.out⟩
end Wire
end Go.Proofs.Ytamahknnppjegaa
/-
  WALKS: the document's TakeNums, TakeVec.
-/
namespace Go.Proofs.Ytamahknnppjegaa
open Go.RowKit Mem
namespace Wire
def lenW : Value → Nat
  | .slice _ n _ => n
  | _ => 0
set_option maxRecDepth 100000 in
set_option maxHeartbeats 1600000 in
theorem docTakeNums_at {A : Option Addr} {n c : Nat} {b : List B8} {w : World} (h : Row cb w A n c b) (hn : n ≤ 100000000) (m : Nat) (hm : m ≤ 9223372036854775807) {l : List Nat} {kk ee : Nat} (hi : ints m b = (l, kk, ee)) :
    Calls Try.prog 58 #[.slice A n c, .int .i64 m] w (TookN l kk ee w) := by
  have HR := Lib.hid h
  have HI := Lib.hid hi
  clear h hi
  have hneg : decide ((m : Int) < 0) = false := by simp
  go_enter Try.func58, Try.ntmps58
  go_wp2_with fail
  go_loopw [7, 8, 9, 10, 11] (fun s a _ _ _ wr => ∃ (B : Option Addr) (j d q : Nat), s = .slice B j d ∧ a = .int .i64 q ∧ j ≤ m ∧ q ≤ n ∧ j ≤ q ∧
    Hid (∃ acc : List Nat, Owns ci 3 w.heap.size wr (.slice B j d) j (asInts acc) ∧ Below w.heap.size w wr ∧ goOn acc q (ints (m - j) (b.drop q)) = (l, kk, ee))) (fun s _ _ _ _ _ => m - lenW s)
  case atStart => exact ⟨none, 0, 0, 0, rfl, rfl, by omega, by omega, by omega, [], Owns.nil _ _ _ _, Below.refl _ _, by rw [List.drop_zero, Nat.sub_zero, goOn_ints]; exact HI.out⟩
  case round =>
    obtain ⟨B, j, d, q, rfl, rfl, hp, hq, hjq, hH⟩ := hrel
    obtain ⟨acc, hown, hbel, hgo⟩ := hH.out
    have HO := Lib.hid hown
    have HB := Lib.hid hbel
    have HG := Lib.hid hgo
    clear hown hbel hgo hH
    rcases elt : decide (j < m)
    · have hge : ¬ j < m := of_decide_eq_false elt
      have hpm : m - j = 0 := by omega
      have G2 := HG.out
      rw [hpm, goOn_end] at G2
      simp only [Prod.mk.injEq] at G2
      obtain ⟨rfl, rfl, rfl⟩ := G2
      clear hpm HG hge
      go_wp2_with fail
      go_ret3
      exact ⟨B, j, d, rfl, HO.out, HB.out⟩
    · have hlt : j < m := of_decide_eq_true elt
      have hsl := run_tail A n c q hq
      have HT := Lib.hid ((HR.out.below HB.out).tail (k := q) hq)
      rcases h1 : int1 (b.drop q) with ⟨x, y, e⟩
      have H1 := Lib.hid h1
      clear h1
      have hms : m - j = (m - (j + 1)) + 1 := by omega
      by_cases he : e = 0
      · subst he
        obtain ⟨t1, hx⟩ := int1_one H1.out
        obtain ⟨y1, y2, y3, -⟩ := take1_one t1
        have hyn : q + y ≤ n := by rw [List.length_drop] at y2; have := HR.out.len; omega
        have G2 : Hid (goOn (acc ++ [x]) (q + y) (ints (m - (j + 1)) (b.drop (q + y))) = (l, kk, ee)) := by
          have := HG.out
          rw [hms, goOn_step H1.out] at this
          exact this
        clear t1 hx y2 y3 hms
        go_upto_region 6 with fail
        go_wp2_with (first
          | (go_at_call 69; refine (docInt_at HT.out H1.out).mono ?_; rintro e w2 ⟨rfl, hb2⟩; have B2 := Lib.hid hb2; clear hb2)
          | (at_builtin
             refine wpList_append_row ci_one Try.underlying37 info_int rfl rfl (.tmp 29) (.tmp 31) rfl rfl w.heap.size (.slice B j d) j (asInts acc) rfl (((HO.out.below B2.out)).alloc _) _ 1 1 [(x : Int)] rfl (row_one ci w2 _ _ _ rfl) (by omega) (by omega) (by have := HB.out.size; have := B2.out.size; simp; omega) ?_
             intro A3 c3 w3 hown3 hb3
             have O3 := Lib.hid hown3
             have B3 := Lib.hid hb3
             clear hown3 hb3))
        go_roundw
        case rel =>
          refine ⟨A3, j + 1, c3, q + y, rfl, by go_num, by omega, hyn, by omega, acc ++ [x], ?_, ?_, G2.out⟩
          · rw [asInts_append]; exact O3.out
          · exact (HB.out.trans ((B2.out.mono HB.out.size).trans (((Below.refl _ w2).alloc (Nat.le_trans HB.out.size B2.out.size) _).trans B3.out)))
        case measure => simp [lenW]; omega
      · obtain ⟨rfl, rfl, h3⟩ := int1_bad H1.out he
        have G2 := HG.out
        rw [hms, goOn_stop H1.out he] at G2
        simp only [Prod.mk.injEq] at G2
        obtain ⟨rfl, rfl, rfl⟩ := G2
        clear hms he HG
        go_upto_region 6 with fail
        rcases h3 with rfl | rfl
        all_goals
          go_wp2_with (go_at_call 69; refine (docInt_at HT.out H1.out).mono ?_; rintro e w2 ⟨rfl, hb2⟩; have B2 := Lib.hid hb2; clear hb2)
          go_ret3
          exact ⟨none, 0, 0, rfl, Owns.nil _ _ _ _, HB.out.trans (B2.out.mono HB.out.size)⟩
set_option maxRecDepth 100000 in
set_option maxHeartbeats 800000 in
theorem docTakeVec_at {A : Option Addr} {n c : Nat} {b : List B8} {w : World} (h : Row cb w A n c b) (hn : n ≤ 100000000) {v : List B8} {kk ee : Nat} (hi : vec1 b = (v, kk, ee)) :
    Calls Try.prog 59 #[.slice A n c] w (TookV v kk ee w) := by
  have HR := Lib.hid h
  have hlen := HR.out.len
  have hcap := HR.out.cap
  rcases h1 : int1 b with ⟨m, k1, e1⟩
  have H1 := Lib.hid h1
  unfold vec1 at hi
  rw [h1] at hi
  clear h h1
  by_cases he : e1 = 0
  · subst he
    simp only [if_pos] at hi
    obtain ⟨t1, hx⟩ := int1_one H1.out
    obtain ⟨y1, y2, y3, -⟩ := take1_one t1
    have y2' : k1 ≤ n := by omega
    clear t1 hx
    by_cases hb : 65536 < m
    · rw [if_pos hb] at hi
      simp only [Prod.mk.injEq] at hi
      obtain ⟨rfl, rfl, rfl⟩ := hi
      clear hlen y2
      go_enter Try.func59, Try.ntmps59
      go_wp2_with (go_at_call 69; refine (docInt_at HR.out H1.out).mono ?_; rintro e w2 ⟨rfl, hb2⟩; have B2 := Lib.hid hb2; clear hb2)
      go_ret3
      exact ⟨none, 0, 0, rfl, Owns.nil _ _ _ _, B2.out⟩
    · rw [if_neg hb] at hi
      by_cases hs : b.length - k1 < m
      · rw [if_pos hs] at hi
        simp only [Prod.mk.injEq] at hi
        obtain ⟨rfl, rfl, rfl⟩ := hi
        have hs' : (n : Int) - (k1 : Int) < (m : Int) := by omega
        clear hlen y2 hs
        go_enter Try.func59, Try.ntmps59
        go_wp2_with (go_at_call 69; refine (docInt_at HR.out H1.out).mono ?_; rintro e w2 ⟨rfl, hb2⟩; have B2 := Lib.hid hb2; clear hb2)
        go_ret3
        exact ⟨none, 0, 0, rfl, Owns.nil _ _ _ _, B2.out⟩
      · rw [if_neg hs] at hi
        simp only [Prod.mk.injEq] at hi
        obtain ⟨rfl, rfl, rfl⟩ := hi
        have hs' : (m : Int) ≤ (n : Int) - (k1 : Int) := by omega
        have hsn : k1 + m ≤ n := by omega
        have hsl := run_mid A n c k1 (k1 + m) (by omega) (by omega)
        rw [Nat.add_sub_cancel_left] at hsl
        have hrow := HR.out.mid (k := k1) (j := k1 + m) (by omega) hsn
        rw [Nat.add_sub_cancel_left] at hrow
        have hsl' : ∀ w, (Instr.slice 23 (.slice A n c) (some (.int .i64 (k1 : Int))) (some (.int .i64 ((k1 : Int) + (m : Int)))) none).run Try.prog w = .ok (.slice (tailA A c k1) m (c - k1)) w := fun w => by have := hsl w; rwa [Int.natCast_add] at this
        have HW := Lib.hid hrow
        have hm16 : m ≤ 65536 := by omega
        clear hlen y2 hs hsl hrow
        go_enter Try.func59, Try.ntmps59
        go_wp2_with (first
          | (go_at_call 69; refine (docInt_at HR.out H1.out).mono ?_; rintro e w2 ⟨rfl, hb2⟩; have B2 := Lib.hid hb2; clear hb2)
          | (at_builtin
             refine wpList_append_row cb_one Try.underlying23 info_byte rfl rfl (.const (.slice none 0 0)) (.tmp 30) rfl rfl w2.heap.size (.slice none 0 0) 0 [] rfl (Owns.nil _ _ _ _) (tailA A c k1) m (c - k1) _ rfl (HW.out.below B2.out) (by omega) (by omega) (Nat.le_refl _) ?_
             intro X d w3 h1 h2
             rw [List.nil_append, Nat.zero_add] at h1
             rw [Nat.zero_add]
             have O3 := Lib.hid h1
             have B3 := Lib.hid h2
             clear h1 h2))
        go_ret3
        refine ⟨X, m, d, ?_, O3.out.mono B2.out.size, B2.out.trans (B3.out.mono B2.out.size)⟩
        rw [Int.natCast_add]; rfl
  · rw [if_neg he] at hi
    simp only [Prod.mk.injEq] at hi
    obtain ⟨rfl, rfl, rfl⟩ := hi
    obtain ⟨rfl, rfl, h3⟩ := int1_bad H1.out he
    clear he hlen
    rcases h3 with rfl | rfl
    all_goals
      go_enter Try.func59, Try.ntmps59
      go_wp2_with (go_at_call 69; refine (docInt_at HR.out H1.out).mono ?_; rintro e w2 ⟨rfl, hb2⟩; have B2 := Lib.hid hb2; clear hb2)
      go_ret3
      exact ⟨none, 0, 0, rfl, Owns.nil _ _ _ _, B2.out⟩

end Wire
end Go.Proofs.Ytamahknnppjegaa
/-
  WALKS: the document's TakeMsg.
-/
namespace Go.Proofs.Ytamahknnppjegaa
open Go.RowKit Mem Box
namespace Net
open Wire

theorem row_cell {W : World} {b o n c : Nat} {l : List Int} {i : Nat} {z : Int} (h : Row ci W (some ⟨b, o, none⟩) n c l) (hz : l[i]? = some z) : W.cell? ⟨b, o + i, none⟩ = some (.int .i64 z) := by
  obtain ⟨b', o', e, hc⟩ := h.cell hz
  obtain ⟨rfl, rfl⟩ : b = b' ∧ o = o' := by simpa using e
  exact hc
set_option maxRecDepth 100000 in
set_option maxHeartbeats 3200000 in
theorem docTakeMsg_bad {A : Option Addr} {n c : Nat} {b : List B8} {w : World} (h : Row cb w A n c b) (hn : n ≤ 100000000) {hh aa : List Nat} {vv : List B8} {kk ee : Nat} (hm : msg1 b = (hh, aa, vv, kk, ee)) (he : ee ≠ 0) :
    Calls Try.prog 36 #[.slice A n c] w (NotM ee w) := by
  have HR := Lib.hid h
  have hlen := h.len
  unfold msg1 at hm
  rcases h5 : ints 5 b with ⟨l5, k5, e5⟩
  rw [h5] at hm
  have H5 := Lib.hid h5
  clear h
  by_cases c5 : e5 = 0
  · subst c5
    simp only [if_pos] at hm
    obtain ⟨p1, p2, p3, p4⟩ := ints_one 5 b l5 k5 h5
    obtain ⟨x, y, z, i, m, rfl⟩ := five_of p1
    simp only [List.getD_cons_succ, List.getD_cons_zero] at hm
    have hk5 : k5 ≤ n := by omega
    clear p1 p2 p3 p4 h5
    by_cases c6 : 64 < m
    · rw [if_pos c6] at hm
      simp only [Prod.mk.injEq] at hm
      obtain ⟨-, -, -, -, rfl⟩ := hm
      clear he hlen
      have L1 : Hid (Below w.heap.size w (w.alloc (.cells #[.int .i64 0, .int .i64 0, .int .i64 0, .int .i64 0, .slice none 0 0, .slice none 0 0] 39))) := ((Below.refl _ w).alloc (by first | exact Nat.le_refl _ | (simp; try omega)) _)
      have Z1 : Hid (Cells (w.alloc (.cells #[.int .i64 0, .int .i64 0, .int .i64 0, .int .i64 0, .slice none 0 0, .slice none 0 0] 39)) (w.heap.size) 39 #[.int .i64 0, .int .i64 0, .int .i64 0, .int .i64 0, .slice none 0 0, .slice none 0 0]) := by
        have := Cells.new w #[.int .i64 0, .int .i64 0, .int .i64 0, .int .i64 0, .slice none 0 0, .slice none 0 0] 39
        (try simp only [World.size_alloc] at this)
        exact this
      have SZ : Hid ((w.alloc (.cells #[.int .i64 0, .int .i64 0, .int .i64 0, .int .i64 0, .slice none 0 0, .slice none 0 0] 39)).heap.size = w.heap.size + 1) := by show _ = _; simp
      clear SZ
      go_enter Try.func36, Try.ntmps36
      go_upto_region 1 with fail
      generalize (w.alloc (.cells #[.int .i64 0, .int .i64 0, .int .i64 0, .int .i64 0, .slice none 0 0, .slice none 0 0] 39)) = w1 at *
      go_upto_region 2 with (first | (go_at_call 58; refine (docTakeNums_at (HR.out.below L1.out) hn 5 (by omega) H5.out).mono ?_; rintro e w2 ⟨X, j, d, rfl, hX, hb⟩; have L2 := Lib.hid (L1.out.trans (hb.mono L1.out.size)); have Z2 := Lib.hid (Cells.below Z1.out hb); obtain ⟨hx, hj⟩ := Wire.gave_row hX (by simp [asInts]); obtain ⟨hb0, ho0, e0, hlt0, hcell⟩ := hx.at_ (by rw [hj]; simp [asInts]); subst e0; have hj5 : j = 5 := (by rw [hj]; simp [asInts]); subst hj5; have I2 := Lib.hid hx; have h04 : w2.cell? ⟨hb0, ho0 + 4, none⟩ = some (.int .i64 m) := row_cell hx rfl; clear hj hcell hx; clear hX hb) | fail)
      clear L1 Z1
      obtain ⟨q0, q1, q2, q3, q4, q5⟩ := six_free Z2.out
      obtain ⟨s0, s1, s2, s3, s4, s5⟩ := MBox.cells (x := zeroX) Z2.out
      dsimp only [zeroX] at s0 s1 s2 s3 s4 s5
      go_wp2_with fail
      have bt := Mov.set6 w2 w.heap.size (.int .i64 0) (.int .i64 0) (.int .i64 0) (.int .i64 0) (.slice none 0 0) (.slice none 0 0)
      refine bodyPost_ret_by (results_c2 rfl _ _ w.heap.size _ _ _ _ rfl (Cells.set6 Z2.out (.int .i64 0) (.int .i64 0) (.int .i64 0) (.int .i64 0) (.slice none 0 0) (.slice none 0 0)) Try.underlying39 rfl (by kernel_rfl)) rfl ?_
      exact ⟨rfl, L2.out.trans (bt.up L2.out.size (Nat.le_refl _))⟩
    · rw [if_neg c6] at hm
      rcases hA : ints m (b.drop k5) with ⟨la, ka, ea⟩
      rw [hA] at hm
      have HA := Lib.hid hA
      have hs1 := run_tail A n c k5 hk5
      by_cases ca : ea = 0
      · subst ca
        simp only [if_pos] at hm
        obtain ⟨q1, q2, -, -⟩ := ints_one m _ la ka hA
        rw [List.length_drop] at q2
        have hka : k5 + ka ≤ n := by omega
        clear q1 q2 hA
        rcases hV : vec1 (b.drop (k5 + ka)) with ⟨lv, kv, ev⟩
        rw [hV] at hm
        have HV := Lib.hid hV
        have hs2 := tail_sum A n c k5 ka hka
        by_cases cv : ev = 0
        · subst cv
          simp at hm; omega
        · obtain ⟨-, rfl, h3⟩ := vec1_bad hV cv
          simp only [if_neg cv, Prod.mk.injEq] at hm
          obtain ⟨-, -, -, -, rfl⟩ := hm
          clear he hlen cv hV
          rcases h3 with rfl | rfl | rfl
          all_goals
            have L1 : Hid (Below w.heap.size w (w.alloc (.cells #[.int .i64 0, .int .i64 0, .int .i64 0, .int .i64 0, .slice none 0 0, .slice none 0 0] 39))) := ((Below.refl _ w).alloc (by first | exact Nat.le_refl _ | (simp; try omega)) _)
            have Z1 : Hid (Cells (w.alloc (.cells #[.int .i64 0, .int .i64 0, .int .i64 0, .int .i64 0, .slice none 0 0, .slice none 0 0] 39)) (w.heap.size) 39 #[.int .i64 0, .int .i64 0, .int .i64 0, .int .i64 0, .slice none 0 0, .slice none 0 0]) := by
              have := Cells.new w #[.int .i64 0, .int .i64 0, .int .i64 0, .int .i64 0, .slice none 0 0, .slice none 0 0] 39
              (try simp only [World.size_alloc] at this)
              exact this
            have SZ : Hid ((w.alloc (.cells #[.int .i64 0, .int .i64 0, .int .i64 0, .int .i64 0, .slice none 0 0, .slice none 0 0] 39)).heap.size = w.heap.size + 1) := by show _ = _; simp
            clear SZ
            go_enter Try.func36, Try.ntmps36
            go_upto_region 1 with fail
            generalize (w.alloc (.cells #[.int .i64 0, .int .i64 0, .int .i64 0, .int .i64 0, .slice none 0 0, .slice none 0 0] 39)) = w1 at *
            go_upto_region 2 with (first | (go_at_call 58; refine (docTakeNums_at (HR.out.below L1.out) hn 5 (by omega) H5.out).mono ?_; rintro e w2 ⟨X, j, d, rfl, hX, hb⟩; have L2 := Lib.hid (L1.out.trans (hb.mono L1.out.size)); have Z2 := Lib.hid (Cells.below Z1.out hb); obtain ⟨hx, hj⟩ := Wire.gave_row hX (by simp [asInts]); obtain ⟨hb0, ho0, e0, hlt0, hcell⟩ := hx.at_ (by rw [hj]; simp [asInts]); subst e0; have hj5 : j = 5 := (by rw [hj]; simp [asInts]); subst hj5; have I2 := Lib.hid hx; have h04 : w2.cell? ⟨hb0, ho0 + 4, none⟩ = some (.int .i64 m) := row_cell hx rfl; clear hj hcell hx; clear hX hb) | fail)
            clear L1 Z1
            go_upto_region 6 with fail
            clear h04
            have L3 := Lib.hid L2.out.drew
            have Z3 := Lib.hid (Cells.below Z2.out ((Below.refl _ w2).drew))
            have I3 := Lib.hid (Row.below I2.out ((Below.refl _ w2).drew))
            refine wp_region_held_drew (S := fun W => W.cell? ⟨hb0, ho0 + 4, none⟩ = some (.int .i64 m)) (by kernel_rfl) (row_cell I3.out rfl) (fun hHeld => ?_)
            generalize w2.drew = w3 at *
            clear L2 Z2 I2 
            (first | (refine Reg.take 0 (v := ?_) rfl (by kernel_rfl) (by kernel_rfl) (by kernel_rfl) (fun _ _ _ h => h) (Or.inl ⟨by rfl, ?_⟩) (by assumption) ?_; rotate_left; (focus ((intro W hSW); (try dsimp only at hSW); (try go_split_ands); go_simp; (try (with_reducible rfl)); done))) | (refine Reg.take 0 (v := undef) rfl (by kernel_rfl) (by kernel_rfl) (by kernel_rfl) (fun _ _ _ h => h) (Or.inr ⟨by rfl, rfl⟩) (by assumption) ?_))
            (try simp only [Act.put, List.setIfInBounds_toArray, List.set_cons_zero, List.set_cons_succ])
            (first | (refine Reg.take 1 (v := ?_) rfl (by kernel_rfl) (by kernel_rfl) (by kernel_rfl) (fun _ _ _ h => h) (Or.inl ⟨by rfl, ?_⟩) (by assumption) ?_; rotate_left; (focus ((intro W hSW); (try dsimp only at hSW); (try go_split_ands); go_simp; (try (with_reducible rfl)); done))) | (refine Reg.take 1 (v := undef) rfl (by kernel_rfl) (by kernel_rfl) (by kernel_rfl) (fun _ _ _ h => h) (Or.inr ⟨by rfl, rfl⟩) (by assumption) ?_))
            (try simp only [Act.put, List.setIfInBounds_toArray, List.set_cons_zero, List.set_cons_succ])
            (first | (refine Reg.take 2 (v := ?_) rfl (by kernel_rfl) (by kernel_rfl) (by kernel_rfl) (fun _ _ _ h => h) (Or.inl ⟨by rfl, ?_⟩) (by assumption) ?_; rotate_left; (focus ((intro W hSW); (try dsimp only at hSW); (try go_split_ands); go_simp; (try (with_reducible rfl)); done))) | (refine Reg.take 2 (v := undef) rfl (by kernel_rfl) (by kernel_rfl) (by kernel_rfl) (fun _ _ _ h => h) (Or.inr ⟨by rfl, rfl⟩) (by assumption) ?_))
            (try simp only [Act.put, List.setIfInBounds_toArray, List.set_cons_zero, List.set_cons_succ])
            (first | (refine Reg.take 3 (v := ?_) rfl (by kernel_rfl) (by kernel_rfl) (by kernel_rfl) (fun _ _ _ h => h) (Or.inl ⟨by rfl, ?_⟩) (by assumption) ?_; rotate_left; (focus ((intro W hSW); (try dsimp only at hSW); (try go_split_ands); go_simp; (try (with_reducible rfl)); done))) | (refine Reg.take 3 (v := undef) rfl (by kernel_rfl) (by kernel_rfl) (by kernel_rfl) (fun _ _ _ h => h) (Or.inr ⟨by rfl, rfl⟩) (by assumption) ?_))
            (try simp only [Act.put, List.setIfInBounds_toArray, List.set_cons_zero, List.set_cons_succ])
            (first | (refine Reg.take 4 (v := ?_) rfl (by kernel_rfl) (by kernel_rfl) (by kernel_rfl) (fun _ _ _ h => h) (Or.inl ⟨by rfl, ?_⟩) (by assumption) ?_; rotate_left; (focus ((intro W hSW); (try dsimp only at hSW); (try go_split_ands); go_simp; (try (with_reducible rfl)); done))) | (refine Reg.take 4 (v := undef) rfl (by kernel_rfl) (by kernel_rfl) (by kernel_rfl) (fun _ _ _ h => h) (Or.inr ⟨by rfl, rfl⟩) (by assumption) ?_))
            (try simp only [Act.put, List.setIfInBounds_toArray, List.set_cons_zero, List.set_cons_succ])
            (first | (refine Reg.take 5 (v := ?_) rfl (by kernel_rfl) (by kernel_rfl) (by kernel_rfl) (fun _ _ _ h => h) (Or.inl ⟨by rfl, ?_⟩) (by assumption) ?_; rotate_left; (focus ((intro W hSW); (try dsimp only at hSW); (try go_split_ands); go_simp; (try (with_reducible rfl)); done))) | (refine Reg.take 5 (v := undef) rfl (by kernel_rfl) (by kernel_rfl) (by kernel_rfl) (fun _ _ _ h => h) (Or.inr ⟨by rfl, rfl⟩) (by assumption) ?_))
            (try simp only [Act.put, List.setIfInBounds_toArray, List.set_cons_zero, List.set_cons_succ])
            refine Reg.step 6 rfl (by kernel_rfl) (by rfl) (fun K hK => ?_)
            go_simp
            refine ((docTakeNums_at ((HR.out.below L3.out).tail (k := k5) hk5) (by omega) m (by omega) HA.out)).mono ?_
            rintro e w4 ⟨Y, j3, d3, rfl, hY, hb⟩
            have L4 := Lib.hid (L3.out.trans (hb.mono L3.out.size))
            have Z4 := Lib.hid (Cells.below Z3.out hb)
            have I4 := Lib.hid (Row.below I3.out hb)
            have Y4 := Lib.hid (hY.mono L3.out.size)
            clear hY
            clear hb hHeld 
            clear L3 Z3 I3 
            refine hK.out _ _ (row_cell I4.out rfl) (fun hHeld => ?_)
            clear hK K
            (try simp only [Act.put, List.setIfInBounds_toArray, List.set_cons_zero, List.set_cons_succ])
            (first | (refine Reg.take 7 (v := ?_) rfl (by kernel_rfl) (by kernel_rfl) (by kernel_rfl) (fun _ _ _ h => h) (Or.inl ⟨by rfl, ?_⟩) (by assumption) ?_; rotate_left; (focus ((intro W hSW); (try dsimp only at hSW); (try go_split_ands); go_simp; (try (with_reducible rfl)); done))) | (refine Reg.take 7 (v := undef) rfl (by kernel_rfl) (by kernel_rfl) (by kernel_rfl) (fun _ _ _ h => h) (Or.inr ⟨by rfl, rfl⟩) (by assumption) ?_))
            (try simp only [Act.put, List.setIfInBounds_toArray, List.set_cons_zero, List.set_cons_succ])
            (first | (refine Reg.take 8 (v := ?_) rfl (by kernel_rfl) (by kernel_rfl) (by kernel_rfl) (fun _ _ _ h => h) (Or.inl ⟨by rfl, ?_⟩) (by assumption) ?_; rotate_left; (focus ((intro W hSW); (try dsimp only at hSW); (try go_split_ands); go_simp; (try (with_reducible rfl)); done))) | (refine Reg.take 8 (v := undef) rfl (by kernel_rfl) (by kernel_rfl) (by kernel_rfl) (fun _ _ _ h => h) (Or.inr ⟨by rfl, rfl⟩) (by assumption) ?_))
            (try simp only [Act.put, List.setIfInBounds_toArray, List.set_cons_zero, List.set_cons_succ])
            (first | (refine Reg.take 9 (v := ?_) rfl (by kernel_rfl) (by kernel_rfl) (by kernel_rfl) (fun _ _ _ h => h) (Or.inl ⟨by rfl, ?_⟩) (by assumption) ?_; rotate_left; (focus ((intro W hSW); (try dsimp only at hSW); (try go_split_ands); go_simp; (try (with_reducible rfl)); done))) | (refine Reg.take 9 (v := undef) rfl (by kernel_rfl) (by kernel_rfl) (by kernel_rfl) (fun _ _ _ h => h) (Or.inr ⟨by rfl, rfl⟩) (by assumption) ?_))
            (try simp only [Act.put, List.setIfInBounds_toArray, List.set_cons_zero, List.set_cons_succ])
            (first | (refine Reg.take 10 (v := ?_) rfl (by kernel_rfl) (by kernel_rfl) (by kernel_rfl) (fun _ _ _ h => h) (Or.inl ⟨by rfl, ?_⟩) (by assumption) ?_; rotate_left; (focus ((intro W hSW); (try dsimp only at hSW); (try go_split_ands); go_simp; (try (with_reducible rfl)); done))) | (refine Reg.take 10 (v := undef) rfl (by kernel_rfl) (by kernel_rfl) (by kernel_rfl) (fun _ _ _ h => h) (Or.inr ⟨by rfl, rfl⟩) (by assumption) ?_))
            (try simp only [Act.put, List.setIfInBounds_toArray, List.set_cons_zero, List.set_cons_succ])
            (first | (refine Reg.take 11 (v := ?_) rfl (by kernel_rfl) (by kernel_rfl) (by kernel_rfl) (fun _ _ _ h => h) (Or.inl ⟨by rfl, ?_⟩) (by assumption) ?_; rotate_left; (focus ((intro W hSW); (try dsimp only at hSW); (try go_split_ands); go_simp; (try (with_reducible rfl)); done))) | (refine Reg.take 11 (v := undef) rfl (by kernel_rfl) (by kernel_rfl) (by kernel_rfl) (fun _ _ _ h => h) (Or.inr ⟨by rfl, rfl⟩) (by assumption) ?_))
            (try simp only [Act.put, List.setIfInBounds_toArray, List.set_cons_zero, List.set_cons_succ])
            (first | (refine Reg.take 12 (v := ?_) rfl (by kernel_rfl) (by kernel_rfl) (by kernel_rfl) (fun _ _ _ h => h) (Or.inl ⟨by rfl, ?_⟩) (by assumption) ?_; rotate_left; (focus ((intro W hSW); (try dsimp only at hSW); (try go_split_ands); go_simp; (try (with_reducible rfl)); done))) | (refine Reg.take 12 (v := undef) rfl (by kernel_rfl) (by kernel_rfl) (by kernel_rfl) (fun _ _ _ h => h) (Or.inr ⟨by rfl, rfl⟩) (by assumption) ?_))
            (try simp only [Act.put, List.setIfInBounds_toArray, List.set_cons_zero, List.set_cons_succ])
            (first | (refine Reg.take 13 (v := ?_) rfl (by kernel_rfl) (by kernel_rfl) (by kernel_rfl) (fun _ _ _ h => h) (Or.inl ⟨by rfl, ?_⟩) (by assumption) ?_; rotate_left; (focus ((intro W hSW); (try dsimp only at hSW); (try go_split_ands); go_simp; (try (with_reducible rfl)); done))) | (refine Reg.take 13 (v := undef) rfl (by kernel_rfl) (by kernel_rfl) (by kernel_rfl) (fun _ _ _ h => h) (Or.inr ⟨by rfl, rfl⟩) (by assumption) ?_))
            (try simp only [Act.put, List.setIfInBounds_toArray, List.set_cons_zero, List.set_cons_succ])
            refine wpAnyH_done (by kernel_rfl) ?_ _
            clear hHeld
            go_upto_region 11 with (first | (go_at_call 59; refine (docTakeVec_at ((HR.out.below L4.out).tail (k := k5 + ka) hka) (by omega) HV.out).mono ?_; rintro e w5 ⟨V, j4, d4, rfl, hV, hb⟩; have L5 := Lib.hid (L4.out.trans (hb.mono L4.out.size)); have Z5 := Lib.hid (Cells.below Z4.out hb); clear hV hb) | fail)
            obtain ⟨q0, q1, q2, q3, q4, q5⟩ := six_free Z5.out
            obtain ⟨s0, s1, s2, s3, s4, s5⟩ := MBox.cells (x := zeroX) Z5.out
            dsimp only [zeroX] at s0 s1 s2 s3 s4 s5
            go_wp2_with fail
            have bt := Mov.set6 w5 w.heap.size (.int .i64 0) (.int .i64 0) (.int .i64 0) (.int .i64 0) (.slice none 0 0) (.slice none 0 0)
            refine bodyPost_ret_by (results_c2 rfl _ _ w.heap.size _ _ _ _ rfl (Cells.set6 Z5.out (.int .i64 0) (.int .i64 0) (.int .i64 0) (.int .i64 0) (.slice none 0 0) (.slice none 0 0)) Try.underlying39 rfl (by kernel_rfl)) rfl ?_
            exact ⟨rfl, L5.out.trans (bt.up L5.out.size (Nat.le_refl _))⟩
      · obtain ⟨-, rfl, h3⟩ := ints_bad _ _ _ _ _ hA ca
        simp only [if_neg ca, Prod.mk.injEq] at hm
        obtain ⟨-, -, -, -, rfl⟩ := hm
        clear he hlen ca hA
        rcases h3 with rfl | rfl
        all_goals
          have L1 : Hid (Below w.heap.size w (w.alloc (.cells #[.int .i64 0, .int .i64 0, .int .i64 0, .int .i64 0, .slice none 0 0, .slice none 0 0] 39))) := ((Below.refl _ w).alloc (by first | exact Nat.le_refl _ | (simp; try omega)) _)
          have Z1 : Hid (Cells (w.alloc (.cells #[.int .i64 0, .int .i64 0, .int .i64 0, .int .i64 0, .slice none 0 0, .slice none 0 0] 39)) (w.heap.size) 39 #[.int .i64 0, .int .i64 0, .int .i64 0, .int .i64 0, .slice none 0 0, .slice none 0 0]) := by
            have := Cells.new w #[.int .i64 0, .int .i64 0, .int .i64 0, .int .i64 0, .slice none 0 0, .slice none 0 0] 39
            (try simp only [World.size_alloc] at this)
            exact this
          have SZ : Hid ((w.alloc (.cells #[.int .i64 0, .int .i64 0, .int .i64 0, .int .i64 0, .slice none 0 0, .slice none 0 0] 39)).heap.size = w.heap.size + 1) := by show _ = _; simp
          clear SZ
          go_enter Try.func36, Try.ntmps36
          go_upto_region 1 with fail
          generalize (w.alloc (.cells #[.int .i64 0, .int .i64 0, .int .i64 0, .int .i64 0, .slice none 0 0, .slice none 0 0] 39)) = w1 at *
          go_upto_region 2 with (first | (go_at_call 58; refine (docTakeNums_at (HR.out.below L1.out) hn 5 (by omega) H5.out).mono ?_; rintro e w2 ⟨X, j, d, rfl, hX, hb⟩; have L2 := Lib.hid (L1.out.trans (hb.mono L1.out.size)); have Z2 := Lib.hid (Cells.below Z1.out hb); obtain ⟨hx, hj⟩ := Wire.gave_row hX (by simp [asInts]); obtain ⟨hb0, ho0, e0, hlt0, hcell⟩ := hx.at_ (by rw [hj]; simp [asInts]); subst e0; have hj5 : j = 5 := (by rw [hj]; simp [asInts]); subst hj5; have I2 := Lib.hid hx; have h04 : w2.cell? ⟨hb0, ho0 + 4, none⟩ = some (.int .i64 m) := row_cell hx rfl; clear hj hcell hx; clear hX hb) | fail)
          clear L1 Z1
          go_upto_region 6 with fail
          clear h04
          have L3 := Lib.hid L2.out.drew
          have Z3 := Lib.hid (Cells.below Z2.out ((Below.refl _ w2).drew))
          have I3 := Lib.hid (Row.below I2.out ((Below.refl _ w2).drew))
          refine wp_region_held_drew (S := fun W => W.cell? ⟨hb0, ho0 + 4, none⟩ = some (.int .i64 m)) (by kernel_rfl) (row_cell I3.out rfl) (fun hHeld => ?_)
          generalize w2.drew = w3 at *
          clear L2 Z2 I2 
          (first | (refine Reg.take 0 (v := ?_) rfl (by kernel_rfl) (by kernel_rfl) (by kernel_rfl) (fun _ _ _ h => h) (Or.inl ⟨by rfl, ?_⟩) (by assumption) ?_; rotate_left; (focus ((intro W hSW); (try dsimp only at hSW); (try go_split_ands); go_simp; (try (with_reducible rfl)); done))) | (refine Reg.take 0 (v := undef) rfl (by kernel_rfl) (by kernel_rfl) (by kernel_rfl) (fun _ _ _ h => h) (Or.inr ⟨by rfl, rfl⟩) (by assumption) ?_))
          (try simp only [Act.put, List.setIfInBounds_toArray, List.set_cons_zero, List.set_cons_succ])
          (first | (refine Reg.take 1 (v := ?_) rfl (by kernel_rfl) (by kernel_rfl) (by kernel_rfl) (fun _ _ _ h => h) (Or.inl ⟨by rfl, ?_⟩) (by assumption) ?_; rotate_left; (focus ((intro W hSW); (try dsimp only at hSW); (try go_split_ands); go_simp; (try (with_reducible rfl)); done))) | (refine Reg.take 1 (v := undef) rfl (by kernel_rfl) (by kernel_rfl) (by kernel_rfl) (fun _ _ _ h => h) (Or.inr ⟨by rfl, rfl⟩) (by assumption) ?_))
          (try simp only [Act.put, List.setIfInBounds_toArray, List.set_cons_zero, List.set_cons_succ])
          (first | (refine Reg.take 2 (v := ?_) rfl (by kernel_rfl) (by kernel_rfl) (by kernel_rfl) (fun _ _ _ h => h) (Or.inl ⟨by rfl, ?_⟩) (by assumption) ?_; rotate_left; (focus ((intro W hSW); (try dsimp only at hSW); (try go_split_ands); go_simp; (try (with_reducible rfl)); done))) | (refine Reg.take 2 (v := undef) rfl (by kernel_rfl) (by kernel_rfl) (by kernel_rfl) (fun _ _ _ h => h) (Or.inr ⟨by rfl, rfl⟩) (by assumption) ?_))
          (try simp only [Act.put, List.setIfInBounds_toArray, List.set_cons_zero, List.set_cons_succ])
          (first | (refine Reg.take 3 (v := ?_) rfl (by kernel_rfl) (by kernel_rfl) (by kernel_rfl) (fun _ _ _ h => h) (Or.inl ⟨by rfl, ?_⟩) (by assumption) ?_; rotate_left; (focus ((intro W hSW); (try dsimp only at hSW); (try go_split_ands); go_simp; (try (with_reducible rfl)); done))) | (refine Reg.take 3 (v := undef) rfl (by kernel_rfl) (by kernel_rfl) (by kernel_rfl) (fun _ _ _ h => h) (Or.inr ⟨by rfl, rfl⟩) (by assumption) ?_))
          (try simp only [Act.put, List.setIfInBounds_toArray, List.set_cons_zero, List.set_cons_succ])
          (first | (refine Reg.take 4 (v := ?_) rfl (by kernel_rfl) (by kernel_rfl) (by kernel_rfl) (fun _ _ _ h => h) (Or.inl ⟨by rfl, ?_⟩) (by assumption) ?_; rotate_left; (focus ((intro W hSW); (try dsimp only at hSW); (try go_split_ands); go_simp; (try (with_reducible rfl)); done))) | (refine Reg.take 4 (v := undef) rfl (by kernel_rfl) (by kernel_rfl) (by kernel_rfl) (fun _ _ _ h => h) (Or.inr ⟨by rfl, rfl⟩) (by assumption) ?_))
          (try simp only [Act.put, List.setIfInBounds_toArray, List.set_cons_zero, List.set_cons_succ])
          (first | (refine Reg.take 5 (v := ?_) rfl (by kernel_rfl) (by kernel_rfl) (by kernel_rfl) (fun _ _ _ h => h) (Or.inl ⟨by rfl, ?_⟩) (by assumption) ?_; rotate_left; (focus ((intro W hSW); (try dsimp only at hSW); (try go_split_ands); go_simp; (try (with_reducible rfl)); done))) | (refine Reg.take 5 (v := undef) rfl (by kernel_rfl) (by kernel_rfl) (by kernel_rfl) (fun _ _ _ h => h) (Or.inr ⟨by rfl, rfl⟩) (by assumption) ?_))
          (try simp only [Act.put, List.setIfInBounds_toArray, List.set_cons_zero, List.set_cons_succ])
          refine Reg.step 6 rfl (by kernel_rfl) (by rfl) (fun K hK => ?_)
          go_simp
          refine ((docTakeNums_at ((HR.out.below L3.out).tail (k := k5) hk5) (by omega) m (by omega) HA.out)).mono ?_
          rintro e w4 ⟨Y, j3, d3, rfl, hY, hb⟩
          have L4 := Lib.hid (L3.out.trans (hb.mono L3.out.size))
          have Z4 := Lib.hid (Cells.below Z3.out hb)
          have I4 := Lib.hid (Row.below I3.out hb)
          have Y4 := Lib.hid (hY.mono L3.out.size)
          clear hY
          clear hb hHeld 
          clear L3 Z3 I3 
          refine hK.out _ _ (row_cell I4.out rfl) (fun hHeld => ?_)
          clear hK K
          (try simp only [Act.put, List.setIfInBounds_toArray, List.set_cons_zero, List.set_cons_succ])
          (first | (refine Reg.take 7 (v := ?_) rfl (by kernel_rfl) (by kernel_rfl) (by kernel_rfl) (fun _ _ _ h => h) (Or.inl ⟨by rfl, ?_⟩) (by assumption) ?_; rotate_left; (focus ((intro W hSW); (try dsimp only at hSW); (try go_split_ands); go_simp; (try (with_reducible rfl)); done))) | (refine Reg.take 7 (v := undef) rfl (by kernel_rfl) (by kernel_rfl) (by kernel_rfl) (fun _ _ _ h => h) (Or.inr ⟨by rfl, rfl⟩) (by assumption) ?_))
          (try simp only [Act.put, List.setIfInBounds_toArray, List.set_cons_zero, List.set_cons_succ])
          (first | (refine Reg.take 8 (v := ?_) rfl (by kernel_rfl) (by kernel_rfl) (by kernel_rfl) (fun _ _ _ h => h) (Or.inl ⟨by rfl, ?_⟩) (by assumption) ?_; rotate_left; (focus ((intro W hSW); (try dsimp only at hSW); (try go_split_ands); go_simp; (try (with_reducible rfl)); done))) | (refine Reg.take 8 (v := undef) rfl (by kernel_rfl) (by kernel_rfl) (by kernel_rfl) (fun _ _ _ h => h) (Or.inr ⟨by rfl, rfl⟩) (by assumption) ?_))
          (try simp only [Act.put, List.setIfInBounds_toArray, List.set_cons_zero, List.set_cons_succ])
          (first | (refine Reg.take 9 (v := ?_) rfl (by kernel_rfl) (by kernel_rfl) (by kernel_rfl) (fun _ _ _ h => h) (Or.inl ⟨by rfl, ?_⟩) (by assumption) ?_; rotate_left; (focus ((intro W hSW); (try dsimp only at hSW); (try go_split_ands); go_simp; (try (with_reducible rfl)); done))) | (refine Reg.take 9 (v := undef) rfl (by kernel_rfl) (by kernel_rfl) (by kernel_rfl) (fun _ _ _ h => h) (Or.inr ⟨by rfl, rfl⟩) (by assumption) ?_))
          (try simp only [Act.put, List.setIfInBounds_toArray, List.set_cons_zero, List.set_cons_succ])
          (first | (refine Reg.take 10 (v := ?_) rfl (by kernel_rfl) (by kernel_rfl) (by kernel_rfl) (fun _ _ _ h => h) (Or.inl ⟨by rfl, ?_⟩) (by assumption) ?_; rotate_left; (focus ((intro W hSW); (try dsimp only at hSW); (try go_split_ands); go_simp; (try (with_reducible rfl)); done))) | (refine Reg.take 10 (v := undef) rfl (by kernel_rfl) (by kernel_rfl) (by kernel_rfl) (fun _ _ _ h => h) (Or.inr ⟨by rfl, rfl⟩) (by assumption) ?_))
          (try simp only [Act.put, List.setIfInBounds_toArray, List.set_cons_zero, List.set_cons_succ])
          (first | (refine Reg.take 11 (v := ?_) rfl (by kernel_rfl) (by kernel_rfl) (by kernel_rfl) (fun _ _ _ h => h) (Or.inl ⟨by rfl, ?_⟩) (by assumption) ?_; rotate_left; (focus ((intro W hSW); (try dsimp only at hSW); (try go_split_ands); go_simp; (try (with_reducible rfl)); done))) | (refine Reg.take 11 (v := undef) rfl (by kernel_rfl) (by kernel_rfl) (by kernel_rfl) (fun _ _ _ h => h) (Or.inr ⟨by rfl, rfl⟩) (by assumption) ?_))
          (try simp only [Act.put, List.setIfInBounds_toArray, List.set_cons_zero, List.set_cons_succ])
          (first | (refine Reg.take 12 (v := ?_) rfl (by kernel_rfl) (by kernel_rfl) (by kernel_rfl) (fun _ _ _ h => h) (Or.inl ⟨by rfl, ?_⟩) (by assumption) ?_; rotate_left; (focus ((intro W hSW); (try dsimp only at hSW); (try go_split_ands); go_simp; (try (with_reducible rfl)); done))) | (refine Reg.take 12 (v := undef) rfl (by kernel_rfl) (by kernel_rfl) (by kernel_rfl) (fun _ _ _ h => h) (Or.inr ⟨by rfl, rfl⟩) (by assumption) ?_))
          (try simp only [Act.put, List.setIfInBounds_toArray, List.set_cons_zero, List.set_cons_succ])
          (first | (refine Reg.take 13 (v := ?_) rfl (by kernel_rfl) (by kernel_rfl) (by kernel_rfl) (fun _ _ _ h => h) (Or.inl ⟨by rfl, ?_⟩) (by assumption) ?_; rotate_left; (focus ((intro W hSW); (try dsimp only at hSW); (try go_split_ands); go_simp; (try (with_reducible rfl)); done))) | (refine Reg.take 13 (v := undef) rfl (by kernel_rfl) (by kernel_rfl) (by kernel_rfl) (fun _ _ _ h => h) (Or.inr ⟨by rfl, rfl⟩) (by assumption) ?_))
          (try simp only [Act.put, List.setIfInBounds_toArray, List.set_cons_zero, List.set_cons_succ])
          refine wpAnyH_done (by kernel_rfl) ?_ _
          clear hHeld
          obtain ⟨q0, q1, q2, q3, q4, q5⟩ := six_free Z4.out
          obtain ⟨s0, s1, s2, s3, s4, s5⟩ := MBox.cells (x := zeroX) Z4.out
          dsimp only [zeroX] at s0 s1 s2 s3 s4 s5
          go_wp2_with fail
          have bt := Mov.set6 w4 w.heap.size (.int .i64 0) (.int .i64 0) (.int .i64 0) (.int .i64 0) (.slice none 0 0) (.slice none 0 0)
          refine bodyPost_ret_by (results_c2 rfl _ _ w.heap.size _ _ _ _ rfl (Cells.set6 Z4.out (.int .i64 0) (.int .i64 0) (.int .i64 0) (.int .i64 0) (.slice none 0 0) (.slice none 0 0)) Try.underlying39 rfl (by kernel_rfl)) rfl ?_
          exact ⟨rfl, L4.out.trans (bt.up L4.out.size (Nat.le_refl _))⟩
  · obtain ⟨-, rfl, h3⟩ := ints_bad _ _ _ _ _ H5.out c5
    simp only [if_neg c5, Prod.mk.injEq] at hm
    obtain ⟨-, -, -, -, rfl⟩ := hm
    clear he h5 c5 hlen
    rcases h3 with rfl | rfl
    all_goals
      have L1 : Hid (Below w.heap.size w (w.alloc (.cells #[.int .i64 0, .int .i64 0, .int .i64 0, .int .i64 0, .slice none 0 0, .slice none 0 0] 39))) := ((Below.refl _ w).alloc (by first | exact Nat.le_refl _ | (simp; try omega)) _)
      have Z1 : Hid (Cells (w.alloc (.cells #[.int .i64 0, .int .i64 0, .int .i64 0, .int .i64 0, .slice none 0 0, .slice none 0 0] 39)) (w.heap.size) 39 #[.int .i64 0, .int .i64 0, .int .i64 0, .int .i64 0, .slice none 0 0, .slice none 0 0]) := by
        have := Cells.new w #[.int .i64 0, .int .i64 0, .int .i64 0, .int .i64 0, .slice none 0 0, .slice none 0 0] 39
        (try simp only [World.size_alloc] at this)
        exact this
      have SZ : Hid ((w.alloc (.cells #[.int .i64 0, .int .i64 0, .int .i64 0, .int .i64 0, .slice none 0 0, .slice none 0 0] 39)).heap.size = w.heap.size + 1) := by show _ = _; simp
      clear SZ
      go_enter Try.func36, Try.ntmps36
      go_upto_region 1 with fail
      generalize (w.alloc (.cells #[.int .i64 0, .int .i64 0, .int .i64 0, .int .i64 0, .slice none 0 0, .slice none 0 0] 39)) = w1 at *
      go_upto_region 2 with (first | (go_at_call 58; refine (docTakeNums_at (HR.out.below L1.out) hn 5 (by omega) H5.out).mono ?_; rintro e w2 ⟨X, j, d, rfl, hX, hb⟩; have L2 := Lib.hid (L1.out.trans (hb.mono L1.out.size)); have Z2 := Lib.hid (Cells.below Z1.out hb); clear hX hb) | fail)
      clear L1 Z1
      obtain ⟨q0, q1, q2, q3, q4, q5⟩ := six_free Z2.out
      obtain ⟨s0, s1, s2, s3, s4, s5⟩ := MBox.cells (x := zeroX) Z2.out
      dsimp only [zeroX] at s0 s1 s2 s3 s4 s5
      go_wp2_with fail
      have bt := Mov.set6 w2 w.heap.size (.int .i64 0) (.int .i64 0) (.int .i64 0) (.int .i64 0) (.slice none 0 0) (.slice none 0 0)
      refine bodyPost_ret_by (results_c2 rfl _ _ w.heap.size _ _ _ _ rfl (Cells.set6 Z2.out (.int .i64 0) (.int .i64 0) (.int .i64 0) (.int .i64 0) (.slice none 0 0) (.slice none 0 0)) Try.underlying39 rfl (by kernel_rfl)) rfl ?_
      exact ⟨rfl, L2.out.trans (bt.up L2.out.size (Nat.le_refl _))⟩

set_option maxRecDepth 100000 in
set_option maxHeartbeats 6400000 in
theorem docTakeMsg_ok {A : Option Addr} {n c : Nat} {b : List B8} {w : World} (h : Row cb w A n c b) (hn : n ≤ 100000000) {x y z i m : Nat} {aa : List Nat} {vv : List B8} {kk : Nat} (hm : msg1 b = ([x, y, z, i, m], aa, vv, kk, 0)) :
    Calls Try.prog 36 #[.slice A n c] w (TookM x y z i aa vv kk w) := by
  have HR := Lib.hid h
  have hlen := h.len
  unfold msg1 at hm
  rcases h5 : ints 5 b with ⟨l5, k5, e5⟩
  rw [h5] at hm
  by_cases c5 : e5 = 0
  · subst c5
    simp only [if_pos] at hm
    obtain ⟨p1, p2, p3, p4⟩ := ints_one 5 b l5 k5 h5
    by_cases c6 : 64 < l5.getD 4 0
    · rw [if_pos c6] at hm
      simp at hm
    · rw [if_neg c6] at hm
      rcases hA : ints (l5.getD 4 0) (b.drop k5) with ⟨la, ka, ea⟩
      rw [hA] at hm
      by_cases ca : ea = 0
      · subst ca
        simp only [if_pos] at hm
        obtain ⟨q1, q2, -, -⟩ := ints_one _ _ la ka hA
        rw [List.length_drop] at q2
        rcases hV : vec1 (b.drop (k5 + ka)) with ⟨lv, kv, ev⟩
        rw [hV] at hm
        by_cases cv : ev = 0
        · subst cv
          simp only [if_pos, Prod.mk.injEq, and_true] at hm
          obtain ⟨rfl, rfl, rfl, rfl⟩ := hm
          simp only [List.getD_cons_succ, List.getD_cons_zero] at c6 hA
          have H5 := Lib.hid h5
          have HA := Lib.hid hA
          have HV := Lib.hid hV
          have hk5 : k5 ≤ n := by omega
          have hka : k5 + ka ≤ n := by omega
          obtain ⟨-, r2, -, -⟩ := vec1_one hV
          rw [List.length_drop] at r2
          have hkv : k5 + ka + kv ≤ n := by omega
          have hs1 := run_tail A n c k5 hk5
          have hs2 := tail_sum A n c k5 ka hka
          clear p1 p2 p3 p4 q1 q2 r2 h5 hA hV hlen h
          have L1 : Hid (Below w.heap.size w (w.alloc (.cells #[.int .i64 0, .int .i64 0, .int .i64 0, .int .i64 0, .slice none 0 0, .slice none 0 0] 39))) := ((Below.refl _ w).alloc (by first | exact Nat.le_refl _ | (simp; try omega)) _)
          have Z1 : Hid (Cells (w.alloc (.cells #[.int .i64 0, .int .i64 0, .int .i64 0, .int .i64 0, .slice none 0 0, .slice none 0 0] 39)) (w.heap.size) 39 #[.int .i64 0, .int .i64 0, .int .i64 0, .int .i64 0, .slice none 0 0, .slice none 0 0]) := by
            have := Cells.new w #[.int .i64 0, .int .i64 0, .int .i64 0, .int .i64 0, .slice none 0 0, .slice none 0 0] 39
            (try simp only [World.size_alloc] at this)
            exact this
          have SZ : Hid ((w.alloc (.cells #[.int .i64 0, .int .i64 0, .int .i64 0, .int .i64 0, .slice none 0 0, .slice none 0 0] 39)).heap.size = w.heap.size + 1) := by show _ = _; simp
          clear SZ
          go_enter Try.func36, Try.ntmps36
          go_upto_region 1 with fail
          generalize (w.alloc (.cells #[.int .i64 0, .int .i64 0, .int .i64 0, .int .i64 0, .slice none 0 0, .slice none 0 0] 39)) = w1 at *
          go_upto_region 2 with (first | (go_at_call 58; refine (docTakeNums_at (HR.out.below L1.out) hn 5 (by omega) H5.out).mono ?_; rintro e w2 ⟨X, j, d, rfl, hX, hb⟩; have L2 := Lib.hid (L1.out.trans (hb.mono L1.out.size)); have Z2 := Lib.hid (Cells.below Z1.out hb); obtain ⟨hx, hj⟩ := Wire.gave_row hX (by simp [asInts]); obtain ⟨hb0, ho0, e0, hlt0, hcell⟩ := hx.at_ (by rw [hj]; simp [asInts]); subst e0; have hj5 : j = 5 := (by rw [hj]; simp [asInts]); subst hj5; have I2 := Lib.hid hx; have h04 : w2.cell? ⟨hb0, ho0 + 4, none⟩ = some (.int .i64 m) := row_cell hx rfl; clear hj hcell hx; clear hX hb) | fail)
          clear L1 Z1
          go_upto_region 6 with fail
          clear h04
          have L3 := Lib.hid L2.out.drew
          have Z3 := Lib.hid (Cells.below Z2.out ((Below.refl _ w2).drew))
          have I3 := Lib.hid (Row.below I2.out ((Below.refl _ w2).drew))
          refine wp_region_held_drew (S := fun W => W.cell? ⟨hb0, ho0 + 4, none⟩ = some (.int .i64 m)) (by kernel_rfl) (row_cell I3.out rfl) (fun hHeld => ?_)
          generalize w2.drew = w3 at *
          clear L2 Z2 I2 
          (first | (refine Reg.take 0 (v := ?_) rfl (by kernel_rfl) (by kernel_rfl) (by kernel_rfl) (fun _ _ _ h => h) (Or.inl ⟨by rfl, ?_⟩) (by assumption) ?_; rotate_left; (focus ((intro W hSW); (try dsimp only at hSW); (try go_split_ands); go_simp; (try (with_reducible rfl)); done))) | (refine Reg.take 0 (v := undef) rfl (by kernel_rfl) (by kernel_rfl) (by kernel_rfl) (fun _ _ _ h => h) (Or.inr ⟨by rfl, rfl⟩) (by assumption) ?_))
          (try simp only [Act.put, List.setIfInBounds_toArray, List.set_cons_zero, List.set_cons_succ])
          (first | (refine Reg.take 1 (v := ?_) rfl (by kernel_rfl) (by kernel_rfl) (by kernel_rfl) (fun _ _ _ h => h) (Or.inl ⟨by rfl, ?_⟩) (by assumption) ?_; rotate_left; (focus ((intro W hSW); (try dsimp only at hSW); (try go_split_ands); go_simp; (try (with_reducible rfl)); done))) | (refine Reg.take 1 (v := undef) rfl (by kernel_rfl) (by kernel_rfl) (by kernel_rfl) (fun _ _ _ h => h) (Or.inr ⟨by rfl, rfl⟩) (by assumption) ?_))
          (try simp only [Act.put, List.setIfInBounds_toArray, List.set_cons_zero, List.set_cons_succ])
          (first | (refine Reg.take 2 (v := ?_) rfl (by kernel_rfl) (by kernel_rfl) (by kernel_rfl) (fun _ _ _ h => h) (Or.inl ⟨by rfl, ?_⟩) (by assumption) ?_; rotate_left; (focus ((intro W hSW); (try dsimp only at hSW); (try go_split_ands); go_simp; (try (with_reducible rfl)); done))) | (refine Reg.take 2 (v := undef) rfl (by kernel_rfl) (by kernel_rfl) (by kernel_rfl) (fun _ _ _ h => h) (Or.inr ⟨by rfl, rfl⟩) (by assumption) ?_))
          (try simp only [Act.put, List.setIfInBounds_toArray, List.set_cons_zero, List.set_cons_succ])
          (first | (refine Reg.take 3 (v := ?_) rfl (by kernel_rfl) (by kernel_rfl) (by kernel_rfl) (fun _ _ _ h => h) (Or.inl ⟨by rfl, ?_⟩) (by assumption) ?_; rotate_left; (focus ((intro W hSW); (try dsimp only at hSW); (try go_split_ands); go_simp; (try (with_reducible rfl)); done))) | (refine Reg.take 3 (v := undef) rfl (by kernel_rfl) (by kernel_rfl) (by kernel_rfl) (fun _ _ _ h => h) (Or.inr ⟨by rfl, rfl⟩) (by assumption) ?_))
          (try simp only [Act.put, List.setIfInBounds_toArray, List.set_cons_zero, List.set_cons_succ])
          (first | (refine Reg.take 4 (v := ?_) rfl (by kernel_rfl) (by kernel_rfl) (by kernel_rfl) (fun _ _ _ h => h) (Or.inl ⟨by rfl, ?_⟩) (by assumption) ?_; rotate_left; (focus ((intro W hSW); (try dsimp only at hSW); (try go_split_ands); go_simp; (try (with_reducible rfl)); done))) | (refine Reg.take 4 (v := undef) rfl (by kernel_rfl) (by kernel_rfl) (by kernel_rfl) (fun _ _ _ h => h) (Or.inr ⟨by rfl, rfl⟩) (by assumption) ?_))
          (try simp only [Act.put, List.setIfInBounds_toArray, List.set_cons_zero, List.set_cons_succ])
          (first | (refine Reg.take 5 (v := ?_) rfl (by kernel_rfl) (by kernel_rfl) (by kernel_rfl) (fun _ _ _ h => h) (Or.inl ⟨by rfl, ?_⟩) (by assumption) ?_; rotate_left; (focus ((intro W hSW); (try dsimp only at hSW); (try go_split_ands); go_simp; (try (with_reducible rfl)); done))) | (refine Reg.take 5 (v := undef) rfl (by kernel_rfl) (by kernel_rfl) (by kernel_rfl) (fun _ _ _ h => h) (Or.inr ⟨by rfl, rfl⟩) (by assumption) ?_))
          (try simp only [Act.put, List.setIfInBounds_toArray, List.set_cons_zero, List.set_cons_succ])
          refine Reg.step 6 rfl (by kernel_rfl) (by rfl) (fun K hK => ?_)
          go_simp
          refine ((docTakeNums_at ((HR.out.below L3.out).tail (k := k5) hk5) (by omega) m (by omega) HA.out)).mono ?_
          rintro e w4 ⟨Y, j3, d3, rfl, hY, hb⟩
          have L4 := Lib.hid (L3.out.trans (hb.mono L3.out.size))
          have Z4 := Lib.hid (Cells.below Z3.out hb)
          have I4 := Lib.hid (Row.below I3.out hb)
          have Y4 := Lib.hid (hY.mono L3.out.size)
          clear hY
          clear hb hHeld 
          clear L3 Z3 I3 
          refine hK.out _ _ (row_cell I4.out rfl) (fun hHeld => ?_)
          clear hK K
          (try simp only [Act.put, List.setIfInBounds_toArray, List.set_cons_zero, List.set_cons_succ])
          (first | (refine Reg.take 7 (v := ?_) rfl (by kernel_rfl) (by kernel_rfl) (by kernel_rfl) (fun _ _ _ h => h) (Or.inl ⟨by rfl, ?_⟩) (by assumption) ?_; rotate_left; (focus ((intro W hSW); (try dsimp only at hSW); (try go_split_ands); go_simp; (try (with_reducible rfl)); done))) | (refine Reg.take 7 (v := undef) rfl (by kernel_rfl) (by kernel_rfl) (by kernel_rfl) (fun _ _ _ h => h) (Or.inr ⟨by rfl, rfl⟩) (by assumption) ?_))
          (try simp only [Act.put, List.setIfInBounds_toArray, List.set_cons_zero, List.set_cons_succ])
          (first | (refine Reg.take 8 (v := ?_) rfl (by kernel_rfl) (by kernel_rfl) (by kernel_rfl) (fun _ _ _ h => h) (Or.inl ⟨by rfl, ?_⟩) (by assumption) ?_; rotate_left; (focus ((intro W hSW); (try dsimp only at hSW); (try go_split_ands); go_simp; (try (with_reducible rfl)); done))) | (refine Reg.take 8 (v := undef) rfl (by kernel_rfl) (by kernel_rfl) (by kernel_rfl) (fun _ _ _ h => h) (Or.inr ⟨by rfl, rfl⟩) (by assumption) ?_))
          (try simp only [Act.put, List.setIfInBounds_toArray, List.set_cons_zero, List.set_cons_succ])
          (first | (refine Reg.take 9 (v := ?_) rfl (by kernel_rfl) (by kernel_rfl) (by kernel_rfl) (fun _ _ _ h => h) (Or.inl ⟨by rfl, ?_⟩) (by assumption) ?_; rotate_left; (focus ((intro W hSW); (try dsimp only at hSW); (try go_split_ands); go_simp; (try (with_reducible rfl)); done))) | (refine Reg.take 9 (v := undef) rfl (by kernel_rfl) (by kernel_rfl) (by kernel_rfl) (fun _ _ _ h => h) (Or.inr ⟨by rfl, rfl⟩) (by assumption) ?_))
          (try simp only [Act.put, List.setIfInBounds_toArray, List.set_cons_zero, List.set_cons_succ])
          (first | (refine Reg.take 10 (v := ?_) rfl (by kernel_rfl) (by kernel_rfl) (by kernel_rfl) (fun _ _ _ h => h) (Or.inl ⟨by rfl, ?_⟩) (by assumption) ?_; rotate_left; (focus ((intro W hSW); (try dsimp only at hSW); (try go_split_ands); go_simp; (try (with_reducible rfl)); done))) | (refine Reg.take 10 (v := undef) rfl (by kernel_rfl) (by kernel_rfl) (by kernel_rfl) (fun _ _ _ h => h) (Or.inr ⟨by rfl, rfl⟩) (by assumption) ?_))
          (try simp only [Act.put, List.setIfInBounds_toArray, List.set_cons_zero, List.set_cons_succ])
          (first | (refine Reg.take 11 (v := ?_) rfl (by kernel_rfl) (by kernel_rfl) (by kernel_rfl) (fun _ _ _ h => h) (Or.inl ⟨by rfl, ?_⟩) (by assumption) ?_; rotate_left; (focus ((intro W hSW); (try dsimp only at hSW); (try go_split_ands); go_simp; (try (with_reducible rfl)); done))) | (refine Reg.take 11 (v := undef) rfl (by kernel_rfl) (by kernel_rfl) (by kernel_rfl) (fun _ _ _ h => h) (Or.inr ⟨by rfl, rfl⟩) (by assumption) ?_))
          (try simp only [Act.put, List.setIfInBounds_toArray, List.set_cons_zero, List.set_cons_succ])
          (first | (refine Reg.take 12 (v := ?_) rfl (by kernel_rfl) (by kernel_rfl) (by kernel_rfl) (fun _ _ _ h => h) (Or.inl ⟨by rfl, ?_⟩) (by assumption) ?_; rotate_left; (focus ((intro W hSW); (try dsimp only at hSW); (try go_split_ands); go_simp; (try (with_reducible rfl)); done))) | (refine Reg.take 12 (v := undef) rfl (by kernel_rfl) (by kernel_rfl) (by kernel_rfl) (fun _ _ _ h => h) (Or.inr ⟨by rfl, rfl⟩) (by assumption) ?_))
          (try simp only [Act.put, List.setIfInBounds_toArray, List.set_cons_zero, List.set_cons_succ])
          (first | (refine Reg.take 13 (v := ?_) rfl (by kernel_rfl) (by kernel_rfl) (by kernel_rfl) (fun _ _ _ h => h) (Or.inl ⟨by rfl, ?_⟩) (by assumption) ?_; rotate_left; (focus ((intro W hSW); (try dsimp only at hSW); (try go_split_ands); go_simp; (try (with_reducible rfl)); done))) | (refine Reg.take 13 (v := undef) rfl (by kernel_rfl) (by kernel_rfl) (by kernel_rfl) (fun _ _ _ h => h) (Or.inr ⟨by rfl, rfl⟩) (by assumption) ?_))
          (try simp only [Act.put, List.setIfInBounds_toArray, List.set_cons_zero, List.set_cons_succ])
          refine wpAnyH_done (by kernel_rfl) ?_ _
          clear hHeld
          go_upto_region 13 with (first | (go_at_call 59; refine (docTakeVec_at ((HR.out.below L4.out).tail (k := k5 + ka) hka) (by omega) HV.out).mono ?_; rintro e w5 ⟨V, j4, d4, rfl, hV, hb⟩; have L5 := Lib.hid (L4.out.trans (hb.mono L4.out.size)); have Z5 := Lib.hid (Cells.below Z4.out hb); have I5 := Lib.hid (Row.below I4.out hb); have Y5 := Lib.hid (Owns.below Y4.out hb); have V5 := Lib.hid (hV.mono L4.out.size); clear hV hb) | fail)
          have hwr : IntKind.i64.wrap ((k5 : Int) + (ka : Int) + (kv : Int)) = (k5 : Int) + (ka : Int) + (kv : Int) := by rw [IntKind.wrap_i64]; omega
          have HNE : Hid (hb0 ≠ w.heap.size) := fun e => by
            have h1 := row_cell I5.out (i := 4) rfl
            rw [e, Cells.cell Z5.out] at h1
            rcases ho0 with _ | _ | q <;> simp at h1
          have L6 := Lib.hid L5.out.drew
          have Z6 := Lib.hid (Cells.below Z5.out ((Below.refl _ w5).drew))
          have I6 := Lib.hid (Row.below I5.out ((Below.refl _ w5).drew))
          have Y6 := Lib.hid (Owns.below Y5.out ((Below.refl _ w5).drew))
          have V6 := Lib.hid (Owns.below V5.out ((Below.refl _ w5).drew))
          refine wp_region_held_drew (S := fun W => W.cell? ⟨hb0, ho0, none⟩ = some (.int .i64 (x : Int)) ∧ W.cell? ⟨hb0, ho0 + 1, none⟩ = some (.int .i64 (y : Int)) ∧ W.cell? ⟨hb0, ho0 + 2, none⟩ = some (.int .i64 (z : Int)) ∧ W.cell? ⟨hb0, ho0 + 3, none⟩ = some (.int .i64 (i : Int))) (by kernel_rfl) (And.intro (row_cell (i := 0) I6.out rfl) (And.intro (row_cell (i := 1) I6.out rfl) (And.intro (row_cell (i := 2) I6.out rfl) (row_cell (i := 3) I6.out rfl)))) (fun hHeld => ?_)
          generalize w5.drew = w6 at *
          clear L5 Z5 I5 Y5 V5 
          (first | (refine Reg.take 0 (v := ?_) rfl (by kernel_rfl) (by kernel_rfl) (by kernel_rfl) (fun _ _ _ h => h) (Or.inl ⟨by rfl, ?_⟩) (by assumption) ?_; rotate_left; (focus ((intro W hSW); (try dsimp only at hSW); (try go_split_ands); go_simp; (try (with_reducible rfl)); done))) | (refine Reg.take 0 (v := undef) rfl (by kernel_rfl) (by kernel_rfl) (by kernel_rfl) (fun _ _ _ h => h) (Or.inr ⟨by rfl, rfl⟩) (by assumption) ?_))
          (try simp only [Act.put, List.setIfInBounds_toArray, List.set_cons_zero, List.set_cons_succ])
          (first | (refine Reg.take 1 (v := ?_) rfl (by kernel_rfl) (by kernel_rfl) (by kernel_rfl) (fun _ _ _ h => h) (Or.inl ⟨by rfl, ?_⟩) (by assumption) ?_; rotate_left; (focus ((intro W hSW); (try dsimp only at hSW); (try go_split_ands); go_simp; (try (with_reducible rfl)); done))) | (refine Reg.take 1 (v := undef) rfl (by kernel_rfl) (by kernel_rfl) (by kernel_rfl) (fun _ _ _ h => h) (Or.inr ⟨by rfl, rfl⟩) (by assumption) ?_))
          (try simp only [Act.put, List.setIfInBounds_toArray, List.set_cons_zero, List.set_cons_succ])
          (first | (refine Reg.take 2 (v := ?_) rfl (by kernel_rfl) (by kernel_rfl) (by kernel_rfl) (fun _ _ _ h => h) (Or.inl ⟨by rfl, ?_⟩) (by assumption) ?_; rotate_left; (focus ((intro W hSW); (try dsimp only at hSW); (try go_split_ands); go_simp; (try (with_reducible rfl)); done))) | (refine Reg.take 2 (v := undef) rfl (by kernel_rfl) (by kernel_rfl) (by kernel_rfl) (fun _ _ _ h => h) (Or.inr ⟨by rfl, rfl⟩) (by assumption) ?_))
          (try simp only [Act.put, List.setIfInBounds_toArray, List.set_cons_zero, List.set_cons_succ])
          (first | (refine Reg.take 3 (v := ?_) rfl (by kernel_rfl) (by kernel_rfl) (by kernel_rfl) (fun _ _ _ h => h) (Or.inl ⟨by rfl, ?_⟩) (by assumption) ?_; rotate_left; (focus ((intro W hSW); (try dsimp only at hSW); (try go_split_ands); go_simp; (try (with_reducible rfl)); done))) | (refine Reg.take 3 (v := undef) rfl (by kernel_rfl) (by kernel_rfl) (by kernel_rfl) (fun _ _ _ h => h) (Or.inr ⟨by rfl, rfl⟩) (by assumption) ?_))
          (try simp only [Act.put, List.setIfInBounds_toArray, List.set_cons_zero, List.set_cons_succ])
          (first | (refine Reg.take 4 (v := ?_) rfl (by kernel_rfl) (by kernel_rfl) (by kernel_rfl) (fun _ _ _ h => h) (Or.inl ⟨by rfl, ?_⟩) (by assumption) ?_; rotate_left; (focus ((intro W hSW); (try dsimp only at hSW); (try go_split_ands); go_simp; (try (with_reducible rfl)); done))) | (refine Reg.take 4 (v := undef) rfl (by kernel_rfl) (by kernel_rfl) (by kernel_rfl) (fun _ _ _ h => h) (Or.inr ⟨by rfl, rfl⟩) (by assumption) ?_))
          (try simp only [Act.put, List.setIfInBounds_toArray, List.set_cons_zero, List.set_cons_succ])
          (first | (refine Reg.take 5 (v := ?_) rfl (by kernel_rfl) (by kernel_rfl) (by kernel_rfl) (fun _ _ _ h => h) (Or.inl ⟨by rfl, ?_⟩) (by assumption) ?_; rotate_left; (focus ((intro W hSW); (try dsimp only at hSW); (try go_split_ands); go_simp; (try (with_reducible rfl)); done))) | (refine Reg.take 5 (v := undef) rfl (by kernel_rfl) (by kernel_rfl) (by kernel_rfl) (fun _ _ _ h => h) (Or.inr ⟨by rfl, rfl⟩) (by assumption) ?_))
          (try simp only [Act.put, List.setIfInBounds_toArray, List.set_cons_zero, List.set_cons_succ])
          (first | (refine Reg.take 6 (v := ?_) rfl (by kernel_rfl) (by kernel_rfl) (by kernel_rfl) (fun _ _ _ h => h) (Or.inl ⟨by rfl, ?_⟩) (by assumption) ?_; rotate_left; (focus ((intro W hSW); (try dsimp only at hSW); (try go_split_ands); go_simp; (try (with_reducible rfl)); done))) | (refine Reg.take 6 (v := undef) rfl (by kernel_rfl) (by kernel_rfl) (by kernel_rfl) (fun _ _ _ h => h) (Or.inr ⟨by rfl, rfl⟩) (by assumption) ?_))
          (try simp only [Act.put, List.setIfInBounds_toArray, List.set_cons_zero, List.set_cons_succ])
          (first | (refine Reg.take 7 (v := ?_) rfl (by kernel_rfl) (by kernel_rfl) (by kernel_rfl) (fun _ _ _ h => h) (Or.inl ⟨by rfl, ?_⟩) (by assumption) ?_; rotate_left; (focus ((intro W hSW); (try dsimp only at hSW); (try go_split_ands); go_simp; (try (with_reducible rfl)); done))) | (refine Reg.take 7 (v := undef) rfl (by kernel_rfl) (by kernel_rfl) (by kernel_rfl) (fun _ _ _ h => h) (Or.inr ⟨by rfl, rfl⟩) (by assumption) ?_))
          (try simp only [Act.put, List.setIfInBounds_toArray, List.set_cons_zero, List.set_cons_succ])
          (first | (refine Reg.take 8 (v := ?_) rfl (by kernel_rfl) (by kernel_rfl) (by kernel_rfl) (fun _ _ _ h => h) (Or.inl ⟨by rfl, ?_⟩) (by assumption) ?_; rotate_left; (focus ((intro W hSW); (try dsimp only at hSW); (try go_split_ands); go_simp; (try (with_reducible rfl)); done))) | (refine Reg.take 8 (v := undef) rfl (by kernel_rfl) (by kernel_rfl) (by kernel_rfl) (fun _ _ _ h => h) (Or.inr ⟨by rfl, rfl⟩) (by assumption) ?_))
          (try simp only [Act.put, List.setIfInBounds_toArray, List.set_cons_zero, List.set_cons_succ])
          (first | (refine Reg.take 9 (v := ?_) rfl (by kernel_rfl) (by kernel_rfl) (by kernel_rfl) (fun _ _ _ h => h) (Or.inl ⟨by rfl, ?_⟩) (by assumption) ?_; rotate_left; (focus ((intro W hSW); (try dsimp only at hSW); (try go_split_ands); go_simp; (try (with_reducible rfl)); done))) | (refine Reg.take 9 (v := undef) rfl (by kernel_rfl) (by kernel_rfl) (by kernel_rfl) (fun _ _ _ h => h) (Or.inr ⟨by rfl, rfl⟩) (by assumption) ?_))
          (try simp only [Act.put, List.setIfInBounds_toArray, List.set_cons_zero, List.set_cons_succ])
          (first | (refine Reg.take 10 (v := ?_) rfl (by kernel_rfl) (by kernel_rfl) (by kernel_rfl) (fun _ _ _ h => h) (Or.inl ⟨by rfl, ?_⟩) (by assumption) ?_; rotate_left; (focus ((intro W hSW); (try dsimp only at hSW); (try go_split_ands); go_simp; (try (with_reducible rfl)); done))) | (refine Reg.take 10 (v := undef) rfl (by kernel_rfl) (by kernel_rfl) (by kernel_rfl) (fun _ _ _ h => h) (Or.inr ⟨by rfl, rfl⟩) (by assumption) ?_))
          (try simp only [Act.put, List.setIfInBounds_toArray, List.set_cons_zero, List.set_cons_succ])
          (first | (refine Reg.take 11 (v := ?_) rfl (by kernel_rfl) (by kernel_rfl) (by kernel_rfl) (fun _ _ _ h => h) (Or.inl ⟨by rfl, ?_⟩) (by assumption) ?_; rotate_left; (focus ((intro W hSW); (try dsimp only at hSW); (try go_split_ands); go_simp; (try (with_reducible rfl)); done))) | (refine Reg.take 11 (v := undef) rfl (by kernel_rfl) (by kernel_rfl) (by kernel_rfl) (fun _ _ _ h => h) (Or.inr ⟨by rfl, rfl⟩) (by assumption) ?_))
          (try simp only [Act.put, List.setIfInBounds_toArray, List.set_cons_zero, List.set_cons_succ])
          (first | (refine Reg.take 12 (v := ?_) rfl (by kernel_rfl) (by kernel_rfl) (by kernel_rfl) (fun _ _ _ h => h) (Or.inl ⟨by rfl, ?_⟩) (by assumption) ?_; rotate_left; (focus ((intro W hSW); (try dsimp only at hSW); (try go_split_ands); go_simp; (try (with_reducible rfl)); done))) | (refine Reg.take 12 (v := undef) rfl (by kernel_rfl) (by kernel_rfl) (by kernel_rfl) (fun _ _ _ h => h) (Or.inr ⟨by rfl, rfl⟩) (by assumption) ?_))
          (try simp only [Act.put, List.setIfInBounds_toArray, List.set_cons_zero, List.set_cons_succ])
          (first | (refine Reg.take 13 (v := ?_) rfl (by kernel_rfl) (by kernel_rfl) (by kernel_rfl) (fun _ _ _ h => h) (Or.inl ⟨by rfl, ?_⟩) (by assumption) ?_; rotate_left; (focus ((intro W hSW); (try dsimp only at hSW); (try go_split_ands); go_simp; (try (with_reducible rfl)); done))) | (refine Reg.take 13 (v := undef) rfl (by kernel_rfl) (by kernel_rfl) (by kernel_rfl) (fun _ _ _ h => h) (Or.inr ⟨by rfl, rfl⟩) (by assumption) ?_))
          (try simp only [Act.put, List.setIfInBounds_toArray, List.set_cons_zero, List.set_cons_succ])
          (first | (refine Reg.take 14 (v := ?_) rfl (by kernel_rfl) (by kernel_rfl) (by kernel_rfl) (fun _ _ _ h => h) (Or.inl ⟨by rfl, ?_⟩) (by assumption) ?_; rotate_left; (focus ((intro W hSW); (try dsimp only at hSW); (try go_split_ands); go_simp; (try (with_reducible rfl)); done))) | (refine Reg.take 14 (v := undef) rfl (by kernel_rfl) (by kernel_rfl) (by kernel_rfl) (fun _ _ _ h => h) (Or.inr ⟨by rfl, rfl⟩) (by assumption) ?_))
          (try simp only [Act.put, List.setIfInBounds_toArray, List.set_cons_zero, List.set_cons_succ])
          (first | (refine Reg.take 15 (v := ?_) rfl (by kernel_rfl) (by kernel_rfl) (by kernel_rfl) (fun _ _ _ h => h) (Or.inl ⟨by rfl, ?_⟩) (by assumption) ?_; rotate_left; (focus ((intro W hSW); (try dsimp only at hSW); (try go_split_ands); go_simp; (try (with_reducible rfl)); done))) | (refine Reg.take 15 (v := undef) rfl (by kernel_rfl) (by kernel_rfl) (by kernel_rfl) (fun _ _ _ h => h) (Or.inr ⟨by rfl, rfl⟩) (by assumption) ?_))
          (try simp only [Act.put, List.setIfInBounds_toArray, List.set_cons_zero, List.set_cons_succ])
          (first | (refine Reg.take 16 (v := ?_) rfl (by kernel_rfl) (by kernel_rfl) (by kernel_rfl) (fun _ _ _ h => h) (Or.inl ⟨by rfl, ?_⟩) (by assumption) ?_; rotate_left; (focus ((intro W hSW); (try dsimp only at hSW); (try go_split_ands); go_simp; (try (with_reducible rfl)); done))) | (refine Reg.take 16 (v := undef) rfl (by kernel_rfl) (by kernel_rfl) (by kernel_rfl) (fun _ _ _ h => h) (Or.inr ⟨by rfl, rfl⟩) (by assumption) ?_))
          (try simp only [Act.put, List.setIfInBounds_toArray, List.set_cons_zero, List.set_cons_succ])
          (first | (refine Reg.take 17 (v := ?_) rfl (by kernel_rfl) (by kernel_rfl) (by kernel_rfl) (fun _ _ _ h => h) (Or.inl ⟨by rfl, ?_⟩) (by assumption) ?_; rotate_left; (focus ((intro W hSW); (try dsimp only at hSW); (try go_split_ands); go_simp; (try (with_reducible rfl)); done))) | (refine Reg.take 17 (v := undef) rfl (by kernel_rfl) (by kernel_rfl) (by kernel_rfl) (fun _ _ _ h => h) (Or.inr ⟨by rfl, rfl⟩) (by assumption) ?_))
          (try simp only [Act.put, List.setIfInBounds_toArray, List.set_cons_zero, List.set_cons_succ])
          (try rw [hwr])
          have y0 := Cells.cell Z6.out 0
          have f0 := Cells.frozen Z6.out 0
          have y1 := Cells.cell Z6.out 1
          have f1 := Cells.frozen Z6.out 1
          have y2 := Cells.cell Z6.out 2
          have f2 := Cells.frozen Z6.out 2
          have y3 := Cells.cell Z6.out 3
          have f3 := Cells.frozen Z6.out 3
          have y4 := Cells.cell Z6.out 4
          have f4 := Cells.frozen Z6.out 4
          have y5 := Cells.cell Z6.out 5
          have f5 := Cells.frozen Z6.out 5
          refine Reg.step 18 rfl (by kernel_rfl) (by rfl) (fun K hK => ?_)
          go_simp
          have bt : Mov [w.heap.size] w6 ((((((w6.setCell ⟨w.heap.size, 0, none⟩ (.int .i64 (x : Int))).setCell ⟨w.heap.size, 1, none⟩ (.int .i64 (y : Int))).setCell ⟨w.heap.size, 2, none⟩ (.int .i64 (z : Int))).setCell ⟨w.heap.size, 3, none⟩ (.int .i64 (i : Int))).setCell ⟨w.heap.size, 4, none⟩ (.slice Y j3 d3)).setCell ⟨w.heap.size, 5, none⟩ (.slice V j4 d4)) := Mov.set6 _ _ _ _ _ _ _ _
          have L7 := Lib.hid (L6.out.trans (bt.up L6.out.size (Nat.le_refl _)))
          have Z7 : Hid (Cells ((((((w6.setCell ⟨w.heap.size, 0, none⟩ (.int .i64 (x : Int))).setCell ⟨w.heap.size, 1, none⟩ (.int .i64 (y : Int))).setCell ⟨w.heap.size, 2, none⟩ (.int .i64 (z : Int))).setCell ⟨w.heap.size, 3, none⟩ (.int .i64 (i : Int))).setCell ⟨w.heap.size, 4, none⟩ (.slice Y j3 d3)).setCell ⟨w.heap.size, 5, none⟩ (.slice V j4 d4)) (w.heap.size) 39 #[.int .i64 (x : Int), .int .i64 (y : Int), .int .i64 (z : Int), .int .i64 (i : Int), .slice Y j3 d3, .slice V j4 d4]) := Cells.set6 Z6.out _ _ _ _ _ _
          have I7 := Lib.hid (row_keep I6.out bt.size (fun q o h0 e => bt.block q (row_lt I6.out h0 e) (by injection e with e; injection e with e1 e2; rw [← e1]; simpa using HNE.out)))
          have Y7 := Lib.hid (owns_mov Y6.out Z6.out (by decide) bt)
          have V7 := Lib.hid (owns_mov V6.out Z6.out (by decide) bt)
          clear bt hHeld y0 f0 y1 f1 y2 f2 y3 f3 y4 f4 y5 f5
          clear L6 Z6 I6 Y6 V6 
          generalize (((((w6.setCell ⟨w.heap.size, 0, none⟩ (.int .i64 (x : Int))).setCell ⟨w.heap.size, 1, none⟩ (.int .i64 (y : Int))).setCell ⟨w.heap.size, 2, none⟩ (.int .i64 (z : Int))).setCell ⟨w.heap.size, 3, none⟩ (.int .i64 (i : Int))).setCell ⟨w.heap.size, 4, none⟩ (.slice Y j3 d3)).setCell ⟨w.heap.size, 5, none⟩ (.slice V j4 d4) = w7 at *
          refine hK.out _ _ (And.intro (row_cell (i := 0) I7.out rfl) (And.intro (row_cell (i := 1) I7.out rfl) (And.intro (row_cell (i := 2) I7.out rfl) (row_cell (i := 3) I7.out rfl)))) (fun hHeld => ?_)
          clear hK K
          (try simp only [Act.put, List.setIfInBounds_toArray, List.set_cons_zero, List.set_cons_succ])
          (first | (refine Reg.take 19 (v := ?_) rfl (by kernel_rfl) (by kernel_rfl) (by kernel_rfl) (fun _ _ _ h => h) (Or.inl ⟨by rfl, ?_⟩) (by assumption) ?_; rotate_left; (focus ((intro W hSW); (try dsimp only at hSW); (try go_split_ands); go_simp; (try (with_reducible rfl)); done))) | (refine Reg.take 19 (v := undef) rfl (by kernel_rfl) (by kernel_rfl) (by kernel_rfl) (fun _ _ _ h => h) (Or.inr ⟨by rfl, rfl⟩) (by assumption) ?_))
          (try simp only [Act.put, List.setIfInBounds_toArray, List.set_cons_zero, List.set_cons_succ])
          (first | (refine Reg.take 20 (v := ?_) rfl (by kernel_rfl) (by kernel_rfl) (by kernel_rfl) (fun _ _ _ h => h) (Or.inl ⟨by rfl, ?_⟩) (by assumption) ?_; rotate_left; (focus ((intro W hSW); (try dsimp only at hSW); (try go_split_ands); go_simp; (try (with_reducible rfl)); done))) | (refine Reg.take 20 (v := undef) rfl (by kernel_rfl) (by kernel_rfl) (by kernel_rfl) (fun _ _ _ h => h) (Or.inr ⟨by rfl, rfl⟩) (by assumption) ?_))
          (try simp only [Act.put, List.setIfInBounds_toArray, List.set_cons_zero, List.set_cons_succ])
          refine wpAnyH_done (by kernel_rfl) ?_ _
          clear hHeld
          go_wp2_with fail
          refine bodyPost_ret_by (results_c2 rfl _ _ w.heap.size _ _ _ _ rfl Z7.out Try.underlying39 rfl (by kernel_rfl)) rfl ?_
          exact ⟨Y, j3, d3, V, j4, d4, by rw [Int.natCast_add, Int.natCast_add]; rfl, Y7.out, V7.out, L7.out⟩
        · simp [cv] at hm
      · simp [ca] at hm
  · simp [c5] at hm
end Net
end Go.Proofs.Ytamahknnppjegaa
/-
  WALKS: the document's Read.
-/
namespace Go.Proofs.Ytamahknnppjegaa
open Go.RowKit Mem Box
namespace Net
open Wire (B8 asInts GaveE MsgBad msg1 TookM NotM msg1_one msg1_bad)

theorem docNew_at {cap : Nat} (h1 : 1 ≤ cap) (h2 : cap ≤ 4096) (w : World) : Calls Try.prog 12 #[.int .i64 (cap : Int)] w fun e w' => e = .returned (.tuple #[nv cap none 0 0, .int .i64 0]) ∧ Below w.heap.size w w' := by
  have hb : newB (cap : Int) = false := by unfold newB; simp; omega
  refine (docNew_any (cap : Int) w).mono ?_
  rw [hb]
  exact fun e w' h => h
set_option maxRecDepth 100000 in
set_option maxHeartbeats 1600000 in
theorem docRead_arg {A : Option Addr} {n c : Nat} {most : Int} (h : newB most = true) (w : World) :
    Calls Try.prog 14 #[.slice A n c, .int .i64 most] w fun e w' => e = .returned (.tuple #[nv 0 none 0 0, .int .i64 1]) ∧ Below w.heap.size w w' := by
  have HN := fun W => Lib.hid (docNew_any most W)
  rw [h] at HN
  have L1 : Hid (Below w.heap.size w (w.alloc (.cells #[.int .i64 0, .slice none 0 0] 28))) := (Below.refl _ w).alloc (Nat.le_refl _) _
  have Z1 : Hid (NBox (w.alloc (.cells #[.int .i64 0, .slice none 0 0] 28)) w.heap.size 0 none 0 0) := Cells.new _ _ _
  clear h
  go_enter Try.func14, Try.ntmps14
  go_upto_region 2 with (first | (go_at_call 12; refine (HN _).out.mono ?_; rintro e w2 ⟨rfl, hb⟩; have L2 := Lib.hid (L1.out.trans (hb.mono L1.out.size)); have Z2 := Lib.hid (Cells.below Z1.out hb); clear hb) | fail)
  have L3 := Lib.hid (L2.out.alloc L2.out.size (.cells #[.int .i64 0, .slice none 0 0] 28))
  have Z3 := Lib.hid (Cells.alloc Z2.out (.cells #[.int .i64 0, .slice none 0 0] 28))
  clear L1 Z1 L2 Z2
  generalize w2.alloc (.cells #[.int .i64 0, .slice none 0 0] 28) = w3 at *
  obtain ⟨z0, z1⟩ := NBox.cells (cap := 0) Z3.out
  have f0 := Cells.frozen Z3.out 0
  have f1 := Cells.frozen Z3.out 1
  go_wp2_with fail
  have bt := Mov.set2 w3 w.heap.size (.int .i64 0) (.slice none 0 0)
  refine bodyPost_ret_by (results_c1 rfl _ _ w.heap.size _ _ _ _ rfl (Cells.set2 Z3.out (.int .i64 0) (.slice none 0 0)) Try.underlying28 rfl (by kernel_rfl)) rfl ?_
  exact ⟨rfl, L3.out.trans (bt.up L3.out.size (Nat.le_refl _))⟩
set_option maxRecDepth 100000 in
set_option maxHeartbeats 12800000 in
theorem docRead_any {A : Option Addr} {n c : Nat} {b : List B8} {w : World} (h : Row cb w A n c b) (hn : n ≤ 100000000) {cap : Nat} (h1 : 1 ≤ cap) (h2 : cap ≤ 4096) :
    Calls Try.prog 14 #[.slice A n c, .int .i64 (cap : Int)] w fun e w' => (readP b = none ∧ e = .returned (.tuple #[nv 0 none 0 0, .int .i64 21]) ∧ Below w.heap.size w w') ∨ (∃ pl, readP b = some pl ∧ ((pl.length ≤ cap ∧ GaveN1 w cap pl 0 e w') ∨ (cap < pl.length ∧ e = .returned (.tuple #[nv 0 none 0 0, .int .i64 2]) ∧ Below w.heap.size w w'))) := by
  have HB := Lib.hid h
  have HN := fun W => Lib.hid (docNew_at h1 h2 W)
  have L1 : Hid (Below w.heap.size w (w.alloc (.cells #[.int .i64 0, .slice none 0 0] 28))) := (Below.refl _ w).alloc (Nat.le_refl _) _
  have Z1 : Hid (NBox (w.alloc (.cells #[.int .i64 0, .slice none 0 0] 28)) w.heap.size 0 none 0 0) := Cells.new _ _ _
  unfold nv at HN
  clear h
  go_enter Try.func14, Try.ntmps14
  go_upto_region 2 with (first | (go_at_call 12; refine (HN _).out.mono ?_; rintro e w2 ⟨rfl, hb⟩; have L2 := Lib.hid (L1.out.trans (hb.mono L1.out.size)); have Z2 := Lib.hid (Cells.below Z1.out hb); clear hb) | fail)
  have I3 : Hid (RdI w (w2.alloc (.cells #[.int .i64 (cap : Int), .slice none 0 0] 28)) cap w2.heap.size none 0 0 []) := ⟨L2.out.alloc L2.out.size _, Cells.alloc Z2.out _, Cells.new _ _ _, OwnN.nil _ _ _, Cells.lt Z2.out, by simp⟩
  obtain ⟨g, hg⟩ : ∃ g, g = w2.heap.size := ⟨_, rfl⟩
  rw [← hg] at I3
  rw [← hg]
  clear hg L1 Z1 L2 Z2 HN
  generalize w2.alloc (.cells #[.int .i64 (cap : Int), .slice none 0 0] 28) = w3 at *
  go_wp2_with fail
  go_loopw [0, 8, 9, 10] (fun s _ _ _ wr => ∃ (X : Option Addr) (r f : Nat) (R : Option Addr) (j d : Nat) (l : List Mx) (rest : List B8), s = .slice X r f ∧ j + r ≤ n ∧ Hid (RdI w wr cap g R j d l ∧ Row cb w X r f rest ∧ GotR b rest (l.map Mx.p))) (fun s _ _ _ _ => lenV s)
  case atStart => exact ⟨A, n, c, none, 0, 0, [], b, rfl, by omega, I3.out, HB.out, got_start b⟩
  case round =>
    obtain ⟨X, r, f, R, j, d, l, rest, rfl, hrn, hH⟩ := hrel
    have I1 := Lib.hid hH.out.1
    have R1 := Lib.hid hH.out.2.1
    have G1 := Lib.hid hH.out.2.2
    clear hH
    have hjl : Hid ((l.map Mx.p).length = j) := by show _ = _; rw [List.length_map, I1.out.own.len]
    rcases Nat.eq_zero_or_pos r with hr0 | hr0
    · subst hr0
      have hrest : rest = [] := List.eq_nil_of_length_eq_zero R1.out.len
      have GE : Hid (readP b = some (l.map Mx.p)) := got_end (by have := G1.out; rw [hrest] at this; exact this)
      obtain ⟨z0, z1⟩ := NBox.cells (cap := 0) I1.out.zb
      have f0 := Cells.frozen I1.out.zb 0
      have f1 := Cells.frozen I1.out.zb 1
      obtain ⟨k0, k1⟩ := NBox.cells I1.out.gb
      rcases ec : decide (cap < j)
      · have HLE : Hid (j ≤ cap) := by have := of_decide_eq_false ec; show j ≤ cap; omega
        go_wp2_with fail
        have bt := Mov.set2 wr w.heap.size (.int .i64 (cap : Int)) (.slice R j d)
        refine bodyPost_ret_by (results_c1 rfl _ _ w.heap.size _ _ _ _ rfl (Cells.set2 I1.out.zb (.int .i64 (cap : Int)) (.slice R j d)) Try.underlying28 rfl (by kernel_rfl)) rfl ?_
        exact .inr ⟨_, GE.out, .inl ⟨by rw [hjl.out]; exact HLE.out, R, j, d, l, rfl, I1.out.own.mov I1.out.zb (by decide) (fun x hx q hq => (I1.out.bn x hx q hq).2) bt, rfl, I1.out.below.trans (bt.up I1.out.below.size (Nat.le_refl _))⟩⟩
      · have HLE := Lib.hid (of_decide_eq_true ec)
        go_wp2_with fail
        have bt := Mov.set2 wr w.heap.size (.int .i64 0) (.slice none 0 0)
        refine bodyPost_ret_by (results_c1 rfl _ _ w.heap.size _ _ _ _ rfl (Cells.set2 I1.out.zb (.int .i64 0) (.slice none 0 0)) Try.underlying28 rfl (by kernel_rfl)) rfl ?_
        have LF := I1.out.below.trans (bt.up I1.out.below.size (Nat.le_refl _))
        exact .inr ⟨_, GE.out, .inr ⟨by rw [hjl.out]; exact HLE.out, rfl, LF⟩⟩
    · have hrest : rest ≠ [] := fun e => by have := R1.out.len; rw [e] at this; simp at this; omega
      have hri : decide ((0 : Int) < (r : Int)) = true := decide_eq_true (by omega)
      have hr8 : r ≤ 100000000 := by omega
      rcases hm1 : msg1 rest with ⟨hh, a, v, k, e⟩
      by_cases he : e = 0
      · subst he
        obtain ⟨x, y, z, i, rfl, m1, m2, m3, m4, m5, m6, m7⟩ := msg1_one hm1
        obtain ⟨o1, o2, o3, o4, o5⟩ := one_read hm1
        have GN := Lib.hid (got_next G1.out hrest hm1)
        have HT := fun W (hW : Row cb W X r f rest) => Lib.hid (docTakeMsg_ok hW hr8 hm1)
        have hkr : k ≤ r := by have := R1.out.len; omega
        have R2 := Lib.hid (R1.out.tail hkr)
        have hsl := fun w => run_tail X r f k hkr w
        have HOK := Lib.hid o1
        have HFI := Lib.hid o2
        clear m1 m2 m4 m5 m6 m7 o1 o2 o3 o5 hm1 hrest
        go_upto_region 6 with (first | (go_at_call 36; refine (HT _ (R1.out.below I1.out.below)).out.mono ?_; rintro e w4 ⟨PA, ka, ca, PB, kb, cb2, rfl, hO1, hO2, hb⟩; have I4 := Lib.hid (I1.out.keep hb); have hkb : kb ≤ 65536 := (by rw [← hO2.len]; exact (((ok_iff _).1 HOK.out).2.2.2)); have Y4 := made_msg hO1 hO2 HFI.out (by omega); have YA4 := Lib.hid Y4.1; have YN4 := Lib.hid (Y4.2.mono I1.out.below.size); have YL4 := Lib.hid (I1.out.apart Y4.2); clear hb hO1 hO2 Y4) | fail)
        have bb : Below w4.heap.size w4 (w4.alloc (.cells #[.int .i64 (x : Int), .int .i64 (y : Int), .int .i64 (z : Int), .int .i64 (i : Int), .slice PA ka ca, .slice PB kb cb2] 39)) := (Below.refl _ w4).alloc (Nat.le_refl _) _
        have I5 := Lib.hid (I4.out.keep bb)
        have YA5 := Lib.hid (YA4.out.below bb)
        have M5 : Hid (MBox (w4.alloc (.cells #[.int .i64 (x : Int), .int .i64 (y : Int), .int .i64 (z : Int), .int .i64 (i : Int), .slice PA ka ca, .slice PB kb cb2] 39)) w4.heap.size (⟨(x : Int), (y : Int), (z : Int), (i : Int), PA, ka, ca, asInts a, PB, kb, cb2, v⟩ : Mx)) := Cells.new _ _ _
        obtain ⟨p, hp⟩ : ∃ p, p = w4.heap.size := ⟨_, rfl⟩
        rw [← hp] at M5
        rw [← hp]
        clear bb hp I4 YA4 HT I1
        generalize w4.alloc (.cells #[.int .i64 (x : Int), .int .i64 (y : Int), .int .i64 (z : Int), .int .i64 (i : Int), .slice PA ka ca, .slice PB kb cb2] 39) = w5 at *
        obtain ⟨k0, k1⟩ := NBox.cells I5.out.gb
        obtain ⟨n0, n1, n2, n3, n4, n5⟩ := MBox.cells (x := (⟨(x : Int), (y : Int), (z : Int), (i : Int), PA, ka, ca, asInts a, PB, kb, cb2, v⟩ : Mx)) M5.out
        dsimp only at n0 n1 n2 n3 n4 n5
        have bb : Below w5.heap.size w5 (w5.alloc (.cells #[.int .i64 (x : Int), .int .i64 (y : Int), .int .i64 (z : Int), .int .i64 (i : Int), .slice PA ka ca, .slice PB kb cb2] 39)) := (Below.refl _ w5).alloc (Nat.le_refl _) _
        have I7 := Lib.hid (I5.out.keep bb)
        have YA7 := Lib.hid (YA5.out.below bb)
        have R7 := Lib.hid (one_msg w5 (⟨(x : Int), (y : Int), (z : Int), (i : Int), PA, ka, ca, asInts a, PB, kb, cb2, v⟩ : Mx))
        clear bb
        go_upto_region 9 with (first
          | (at_builtin
             refine OwnS.wpList_append fitM Try.underlying26 info_msg rfl (by omega) rfl (.tmp 33) (.tmp 35) rfl rfl w.heap.size (.slice R j d) j l rfl I7.out.own.own _ 1 1 [(⟨(x : Int), (y : Int), (z : Int), (i : Int), PA, ka, ca, asInts a, PB, kb, cb2, v⟩ : Mx)] rfl R7.out (by omega) I7.out.below.size ?_
             intro R' d' w8 ho hg hn'
             obtain ⟨G1', G2, G3⟩ := I7.out.grown hg
             have PU := Lib.hid (I7.out.push ho hg hn' YA7.out YN4.out YL4.out)
             have y1 := (NBox.cells G3).2
             have f1 : w8.frozen? ⟨g, 1, none⟩ = false := Cells.frozen G3 1
             clear ho hg hn' G1' G2 G3)
          | fail)
        clear n0 n1 n2 n3 n4 n5 k0 k1
        go_wp2_with fail
        go_roundw
        case rel => exact ⟨_, _, _, R', j + 1, d', l ++ [(⟨(x : Int), (y : Int), (z : Int), (i : Int), PA, ka, ca, asInts a, PB, kb, cb2, v⟩ : Mx)], _, rfl, by omega, PU.out, R2.out, by rw [List.map_append]; exact GN.out⟩
        case measure => simp [lenV]; omega
      · obtain ⟨rfl, h3⟩ := msg1_bad hm1 he
        have HNO := Lib.hid (got_bad G1.out hrest hm1 he)
        have HT := fun W (hW : Row cb W X r f rest) => Lib.hid (docTakeMsg_bad hW hr8 hm1 he)
        have hne : ((e : Int) != 0) = true := by simp only [bne_iff_ne, ne_eq]; omega
        clear hm1 he hrest h3
        go_upto_region 6 with (first | (go_at_call 36; refine (HT _ (R1.out.below I1.out.below)).out.mono ?_; rintro e' w4 ⟨rfl, hb⟩; have I4 := Lib.hid (I1.out.keep hb); clear hb) | fail)
        have I5 := Lib.hid (I4.out.keep ((Below.refl _ w4).alloc (Nat.le_refl _) (.cells #[.int .i64 0, .int .i64 0, .int .i64 0, .int .i64 0, .slice none 0 0, .slice none 0 0] 39)))
        clear I4 I1
        generalize w4.alloc (.cells #[.int .i64 0, .int .i64 0, .int .i64 0, .int .i64 0, .slice none 0 0, .slice none 0 0] 39) = w5 at *
        obtain ⟨z0, z1⟩ := NBox.cells (cap := 0) I5.out.zb
        have f0 := Cells.frozen I5.out.zb 0
        have f1 := Cells.frozen I5.out.zb 1
        go_wp2_with fail
        have bt := Mov.set2 w5 w.heap.size (.int .i64 0) (.slice none 0 0)
        refine bodyPost_ret_by (results_c1 rfl _ _ w.heap.size _ _ _ _ rfl (Cells.set2 I5.out.zb (.int .i64 0) (.slice none 0 0)) Try.underlying28 rfl (by kernel_rfl)) rfl ?_
        have LF := I5.out.below.trans (bt.up I5.out.below.size (Nat.le_refl _))
        exact .inl ⟨HNO.out, rfl, LF⟩
end Net
end Go.Proofs.Ytamahknnppjegaa
/-
  WHAT NetDoes' LOOP CARRIES: the net and the document's, each in a box, that read alike.
-/
namespace Go.Proofs.Ytamahknnppjegaa
open Go.RowKit Mem Box
namespace Net
open Wire (B8)
structure Dm (W w : World) (g h cap : Nat) (Q : Option Addr) (n c : Nat) (l : List Mx) (P : Option Addr) (m d : Nat) (k : List Mx) : Prop where
  below : Below W.heap.size W w
  a : NBox w g cap Q n c
  b : NBox w h cap P m d
  own : ∃ lo, g < lo ∧ h < lo ∧ lo ≤ w.heap.size ∧ OwnN lo lo w (.slice Q n c) n l
  own2 : ∃ lo, g < lo ∧ h < lo ∧ lo ≤ w.heap.size ∧ OwnN lo lo w (.slice P m d) m k
  eq : l.map Mx.p = k.map Mx.p
  len : n ≤ 4096 ∧ cap ≤ 4096
  up : W.heap.size ≤ g ∧ W.heap.size ≤ h
  ne : g ≠ h
section
variable {W w w' : World} {g h cap : Nat} {Q : Option Addr} {n c : Nat} {l : List Mx} {P : Option Addr} {m d : Nat} {k : List Mx}
theorem Dm.fresh (H : Dm W w g h cap Q n c l P m d k) (hb : Below w.heap.size w w') : Dm W w' g h cap Q n c l P m d k := by
  obtain ⟨lo, h1, h2, h3, ho⟩ := H.own
  obtain ⟨lo', h1', h2', h3', ho'⟩ := H.own2
  exact ⟨H.below.trans (hb.mono H.below.size), H.a.below hb, H.b.below hb, ⟨lo, h1, h2, Nat.le_trans h3 hb.size, ho.below hb⟩, ⟨lo', h1', h2', Nat.le_trans h3' hb.size, ho'.below hb⟩, H.eq, H.len, H.up, H.ne⟩
theorem Dm.same (H : Dm W w g h cap Q n c l P m d k) : m = n := by
  obtain ⟨_, -, -, -, ho⟩ := H.own
  obtain ⟨_, -, -, -, ho'⟩ := H.own2
  rw [← ho.len, ← ho'.len, ← List.length_map (f := Mx.p), ← H.eq, List.length_map]
theorem Dm.net (H : Dm W w g h cap Q n c l P m d k) : NetAt w Q n c l := by
  obtain ⟨_, -, -, -, ho⟩ := H.own
  exact ho.net (by have := H.len; omega)
theorem Dm.net2 (H : Dm W w g h cap Q n c l P m d k) : NetAt w P m d k := by
  obtain ⟨_, -, -, -, ho⟩ := H.own2
  exact ho.net (by have := H.len; have := H.same; omega)
/-- Both are put in anew. -/
theorem Dm.give {lo lo' : Nat} {Q2 : Option Addr} {n2 c2 : Nat} {l2 : List Mx} {P2 : Option Addr} {m2 d2 : Nat} {k2 : List Mx} {cap2 : Nat} (H : Dm W w g h cap Q n c l P m d k)
    (h0 : g < lo ∧ h < lo ∧ lo ≤ w.heap.size) (hN : OwnN lo lo w (.slice Q2 n2 c2) n2 l2) (h0' : g < lo' ∧ h < lo' ∧ lo' ≤ w.heap.size) (hN' : OwnN lo' lo' w (.slice P2 m2 d2) m2 k2) (he : l2.map Mx.p = k2.map Mx.p) (hl : n2 ≤ 4096 ∧ cap2 ≤ 4096) :
    Dm W ((((w.setCell ⟨g, 0, none⟩ (.int .i64 (cap2 : Int))).setCell ⟨g, 1, none⟩ (.slice Q2 n2 c2)).setCell ⟨h, 0, none⟩ (.int .i64 (cap2 : Int))).setCell ⟨h, 1, none⟩ (.slice P2 m2 d2)) g h cap2 Q2 n2 c2 l2 P2 m2 d2 k2 := by
  have b1 := Mov.set2 w g (.int .i64 (cap2 : Int)) (.slice Q2 n2 c2)
  have a1 : NBox ((w.setCell ⟨g, 0, none⟩ (.int .i64 (cap2 : Int))).setCell ⟨g, 1, none⟩ (.slice Q2 n2 c2)) g cap2 Q2 n2 c2 := Cells.set2 H.a _ _
  have e1 := Cells.mov H.b b1 (by have := H.ne; simp; omega)
  have o1 := hN.low_ h0.1 b1
  have o2 := hN'.low_ h0'.1 b1
  have l1 := H.below.trans (b1.up H.below.size H.up.1)
  have s1 := b1.size
  generalize (w.setCell ⟨g, 0, none⟩ (.int .i64 (cap2 : Int))).setCell ⟨g, 1, none⟩ (.slice Q2 n2 c2) = w1 at *
  have b2 := Mov.set2 w1 h (.int .i64 (cap2 : Int)) (.slice P2 m2 d2)
  have s2 := b2.size
  exact ⟨l1.trans (b2.up (Nat.le_trans H.below.size s1) H.up.2), Cells.mov a1 b2 (by have := H.ne; simp; omega), Cells.set2 e1 _ _, ⟨lo, h0.1, h0.2.1, by omega, o1.low_ h0.2.1 b2⟩, ⟨lo', h0'.1, h0'.2.1, by omega, o2.low_ h0'.2.1 b2⟩, he, hl, H.up, H.ne⟩
end
end Net
end Go.Proofs.Ytamahknnppjegaa
/-
  BYTES OF ONE'S OWN, EACH MADE MORE BY ONE: where they lie, what a write leaves.
-/
namespace Go.Proofs.Ytamahknnppjegaa
open Go.RowKit Mem Box
namespace Net
open Wire (B8)
/-- Where a row of bytes of one's own lies. -/
theorem own_place {w : World} {b n : Nat} {A : Option Addr} {c : Nat} {l : List B8} (h : Owns cb 5 b w (.slice A n c) n l) :
    ∃ g, (0 < n → A = some ⟨g, 0, none⟩ ∧ b ≤ g ∧ g < w.heap.size) ∧ (n = 0 → g = w.heap.size) := by
  rcases Nat.eq_zero_or_pos n with h0 | h0
  · exact ⟨w.heap.size, fun h => by omega, fun _ => rfl⟩
  · rcases h.2 with ⟨-, hn⟩ | ⟨g, cap, cur, hs, hbg, hg, -⟩
    · omega
    · injection hs with e1 e2 e3
      exact ⟨g, fun _ => ⟨e1, hbg, (Array.getElem?_eq_some_iff.1 hg).1⟩, fun h => by omega⟩
theorem inc_u (b : B8) : (u b + 1) % 256 = u (b + 1#8) := by
  unfold u
  rw [BitVec.toNat_add]
  have := b.isLt
  show _ = (((b.toNat + 1) % 256 : Nat) : Int)
  omega
theorem own_write {w : World} {b n g : Nat} {c : Nat} {l : List B8} (h : Owns cb 5 b w (.slice (some ⟨g, 0, none⟩) n c) n l) (k : Nat) (x : B8) (v : Value) (hv : v = cb x) :
    Owns cb 5 b (w.setCell ⟨g, k, none⟩ v) (.slice (some ⟨g, 0, none⟩) n c) n (l.set k x) ∧ Mov [g] w (w.setCell ⟨g, k, none⟩ v) := by
  subst hv
  have h1 := World.ownsRow.stored (h : World.ownsRow w b 5 1 _ n (l.map cb)) k (cb x)
  refine ⟨?_, Mov.set1 w (by simp) k _⟩
  show World.ownsRow _ _ _ _ _ _ _
  rw [List.map_set]
  exact h1.1
theorem own_cell {w : World} {b n g : Nat} {c : Nat} {l : List B8} (h : Owns cb 5 b w (.slice (some ⟨g, 0, none⟩) n c) n l) {k : Nat} (hk : k < n) : ∃ x, w.cell? ⟨g, k, none⟩ = some (.int .u8 (u x)) ∧ w.frozen? ⟨g, k, none⟩ = false := by
  have h0 := (h : World.ownsRow w b 5 1 _ n (l.map cb))
  have hl := h.len
  have h1 := World.ownsRow.cellAt h0 k (by omega)
  rw [List.getElem?_map, List.getElem?_eq_getElem (by omega)] at h1
  exact ⟨_, h1, World.ownsRow.frozenAt h0 k⟩
end Net
end Go.Proofs.Ytamahknnppjegaa
/-
  WHAT NetDoes' WALK CALLS: the code's and the document's New, Read, Write, Same by one contract each, told alike.
-/
namespace Go.Proofs.Ytamahknnppjegaa
open Go.RowKit Mem Box
namespace Net
open Wire (B8 GaveE)
/-- What New comes to. -/
def newR (most : Int) : Nat × Int := if newB most = true then (0, 1) else (most.toNat, 0)
theorem newR_cap (most : Int) : (newR most).1 ≤ 4096 := by
  unfold newR
  rcases e : newB most
  · rw [if_neg (by simp)]
    unfold newB at e
    simp at e
    show most.toNat ≤ 4096
    omega
  · rw [if_pos rfl]
    exact Nat.zero_le _
theorem newB_cap {most : Int} (h : newB most = false) : ∃ cap : Nat, most = (cap : Int) ∧ 1 ≤ cap ∧ cap ≤ 4096 := by
  unfold newB at h
  simp at h
  exact ⟨most.toNat, by omega, by omega, by omega⟩
theorem newR_eq (most : Int) : (Value.agg #[.int .i64 (bif newB most then 0 else most), .slice none 0 0] : Value) = nv (newR most).1 none 0 0 ∧ (bif newB most then (1 : Int) else 0) = (newR most).2 := by
  unfold newR
  rcases e : newB most
  · obtain ⟨cap, rfl, h1, h2⟩ := newB_cap e
    rw [if_neg (by simp)]
    exact ⟨rfl, rfl⟩
  · rw [if_pos rfl]
    exact ⟨rfl, rfl⟩
theorem got_new (most : Int) (w : World) : Calls Try.prog 11 #[.int .i64 most] w fun e w' => e = .returned (.tuple #[nv (newR most).1 none 0 0, .int .i64 (newR most).2]) ∧ Below w.heap.size w w' := by
  have h := new_any most w
  rw [(newR_eq most).1, (newR_eq most).2] at h
  exact h
theorem got_docNew (most : Int) (w : World) : Calls Try.prog 12 #[.int .i64 most] w fun e w' => e = .returned (.tuple #[nv (newR most).1 none 0 0, .int .i64 (newR most).2]) ∧ Below w.heap.size w w' := by
  have h := docNew_any most w
  rw [(newR_eq most).1, (newR_eq most).2] at h
  exact h
/-- What Read comes to. -/
def readR (most : Int) (b : List B8) : R3 := if newB most = true then (0, [], 1) else match readP b with | none => (0, [], 21) | some pl => if pl.length ≤ most.toNat then (most.toNat, pl, 0) else (0, [], 2)
theorem got_read {A : Option Addr} {n c : Nat} {b : List B8} {w : World} (h : Row cb w A n c b) (hn : n ≤ 100000000) (most : Int) :
    Calls Try.prog 13 #[.slice A n c, .int .i64 most] w (Got w (readR most b)) := by
  unfold readR
  rcases e : newB most
  · obtain ⟨cap, rfl, h1, h2⟩ := newB_cap e
    rw [if_neg (by simp)]
    refine (read_any h hn rfl h1 h2).mono ?_
    rintro en w' (⟨hp, rfl, hb⟩ | ⟨pl, hp, ⟨hl, hg⟩ | ⟨hl, rfl, hb⟩⟩)
    · rw [hp]
      exact got_err hb
    · rw [hp]
      dsimp only
      rw [if_pos (by simpa using hl)]
      exact hg
    · rw [hp]
      dsimp only
      rw [if_neg (by simp; omega)]
      exact got_err hb
  · rw [if_pos rfl]
    refine (read_arg e w).mono ?_
    rintro en w' ⟨rfl, hb⟩
    exact got_err hb
theorem got_docRead {A : Option Addr} {n c : Nat} {b : List B8} {w : World} (h : Row cb w A n c b) (hn : n ≤ 100000000) (most : Int) :
    Calls Try.prog 14 #[.slice A n c, .int .i64 most] w (Got w (readR most b)) := by
  unfold readR
  rcases e : newB most
  · obtain ⟨cap, rfl, h1, h2⟩ := newB_cap e
    rw [if_neg (by simp)]
    refine (docRead_any h hn h1 h2).mono ?_
    rintro en w' (⟨hp, rfl, hb⟩ | ⟨pl, hp, ⟨hl, hg⟩ | ⟨hl, rfl, hb⟩⟩)
    · rw [hp]
      exact got_err hb
    · rw [hp]
      dsimp only
      rw [if_pos (by simpa using hl)]
      exact hg
    · rw [hp]
      dsimp only
      rw [if_neg (by simp; omega)]
      exact got_err hb
  · rw [if_pos rfl]
    refine (docRead_arg e w).mono ?_
    rintro en w' ⟨rfl, hb⟩
    exact got_err hb
theorem readR_le (most : Int) (b : List B8) : (readR most b).2.1.length ≤ 4096 := by
  unfold readR
  rcases e : newB most
  · obtain ⟨cap, rfl, h1, h2⟩ := newB_cap e
    rw [if_neg (by simp)]
    rcases readP b with _ | pl
    · exact Nat.zero_le _
    · dsimp only
      by_cases hl : pl.length ≤ (cap : Int).toNat
      · rw [if_pos hl]
        show pl.length ≤ 4096
        simp at hl
        omega
      · rw [if_neg hl]
        exact Nat.zero_le _
  · rw [if_pos rfl]
    exact Nat.zero_le _
/-- Two that read alike are the same. -/
theorem same_eq {cap : Nat} {A B : Option Addr} {n c m d : Nat} {l l' : List Mx} {w : World} (h1 : NetAt w A n c l) (h2 : NetAt w B m d l') (he : l.map Mx.p = l'.map Mx.p) :
    Calls Try.prog 15 #[nv cap A n c, nv cap B m d] w fun e w' => e = .returned (.bool true) ∧ Below w.heap.size w w' := by
  refine (same_any (ca := cap) (cb := cap) h1 h2).mono ?_
  rintro e w' ⟨rfl, hb⟩
  exact ⟨by rw [he]; simp, hb⟩
theorem msg_eq {x y : Mx} {w : World} (hx : MAt w x) (hy : MAt w y) (he : x.p = y.p) :
    Calls Try.prog 19 #[mxv x, mxv y] w fun e w' => e = .returned (.bool true) ∧ Below w.heap.size w w' := by
  refine (sameMsg_any hx hy).mono ?_
  rintro e w' ⟨rfl, hb⟩
  exact ⟨by rw [he]; simp, hb⟩
theorem ints_eq {A B : Option Addr} {n c m d : Nat} {l : List Int} {w : World} (h1 : Row ci w A n c l) (h2 : Row ci w B m d l) :
    Calls Try.prog 20 #[.slice A n c, .slice B m d] w fun e w' => e = .returned (.bool true) ∧ Below w.heap.size w w' := by
  refine (sameInts_any h1 h2).mono ?_
  rintro e w' ⟨rfl, hb⟩
  exact ⟨by simp, hb⟩
/-- What Write comes to. -/
def wrR (pl : List Mp) : List B8 × Int := if pl.all okM = true then (writeP pl, 0) else ([], 1)
def GotWr (w : World) (R : List B8 × Int) (e : Ending) (w' : World) : Prop := ∃ A k c, e = .returned (.tuple #[.slice A k c, .int .i64 R.2]) ∧ Row cb w' A k c R.1 ∧ Below w.heap.size w w'
theorem wr_of {w w' : World} {pl : List Mp} {e : Ending} (hf : ∀ p ∈ pl, Fits p) (hl : pl.length ≤ 5000)
    (h : ((∀ p ∈ pl, okM p = true) ∧ GaveE cb 5 w.heap.size w (writeP pl) 0 e w') ∨ ((∃ p ∈ pl, okM p = false) ∧ e = .returned (.tuple #[.slice none 0 0, .int .i64 1]) ∧ Below w.heap.size w w')) : GotWr w (wrR pl) e w' := by
  unfold wrR
  rcases h with ⟨hok, A, k, c, rfl, hO, hb⟩ | ⟨⟨p, hp, hpo⟩, rfl, hb⟩
  · rw [if_pos (by simpa using hok)]
    have hlen : (writeP pl).length ≤ 140737488351232 := by
      have := write_len (fun p hp => ⟨hok p hp, hf p hp⟩)
      omega
    exact ⟨A, k, c, rfl, (Wire.gave_row hO hlen).1, hb⟩
  · rw [if_neg (by simp; exact ⟨p, hp, by simpa using hpo⟩)]
    exact ⟨none, 0, 0, rfl, Row.nil _ _, hb⟩
theorem got_write {w : World} {cap : Nat} {Q : Option Addr} {n c : Nat} {l : List Mx} (h : NetAt w Q n c l) (hn : n ≤ 5000) :
    Calls Try.prog 23 #[nv cap Q n c] w (GotWr w (wrR (l.map Mx.p))) :=
  (write_any h hn).mono fun _ _ hh => wr_of (at_fits h) (by rw [List.length_map, h.row.len]; exact hn) hh
theorem got_docWrite {w : World} {cap : Nat} {Q : Option Addr} {n c : Nat} {l : List Mx} (h : NetAt w Q n c l) (hn : n ≤ 5000) :
    Calls Try.prog 24 #[nv cap Q n c] w (GotWr w (wrR (l.map Mx.p))) :=
  (docWrite_any h hn).mono fun _ _ hh => wr_of (at_fits h) (by rw [List.length_map, h.row.len]; exact hn) hh
theorem send_le (cap : Nat) (N L : List Mp) : (sendP cap N L).length ≤ max N.length cap := by
  obtain ⟨r, hr, -, -, h⟩ := op_send cap N 0 L
  have h1 : (bodyR cap N 0 0 L).2.1 = sendP cap N L := by unfold bodyR; rw [if_pos rfl]; rfl
  rw [hr] at h1
  rw [← h1]
  exact h
theorem bodyR_le {cap : Nat} {N : List Mp} (hN : N.length ≤ 4096) (hc : cap ≤ 4096) (d i : Int) (L : List Mp) : (bodyR cap N d i L).2.1.length ≤ 4096 ∧ (bodyR cap N d i L).1 ≤ 4096 := by
  unfold bodyR
  by_cases h0 : d = 0
  · rw [if_pos h0]
    have := send_le cap N L
    exact ⟨by show (sendP cap N L).length ≤ 4096; omega, hc⟩
  rw [if_neg h0]
  by_cases h1 : d = 1
  · rw [if_pos h1]
    unfold takeR
    rcases atP N i with _ | x
    · exact ⟨Nat.zero_le _, Nat.zero_le _⟩
    · exact ⟨Nat.le_trans (List.length_eraseIdx_le _ _) hN, hc⟩
  rw [if_neg h1]
  by_cases h2 : d = 2
  · rw [if_pos h2]
    unfold dropR
    rcases atP N i with _ | x
    · exact ⟨Nat.zero_le _, Nat.zero_le _⟩
    · exact ⟨Nat.le_trans (List.length_eraseIdx_le _ _) hN, hc⟩
  rw [if_neg h2]
  by_cases h3 : d = 3
  · rw [if_pos h3]
    unfold doubleR
    rcases atP N i with _ | x
    · exact ⟨Nat.zero_le _, Nat.zero_le _⟩
    · dsimp only
      by_cases hl : N.length < cap
      · rw [if_pos hl]
        exact ⟨by show (N ++ [x]).length ≤ 4096; rw [List.length_append]; show N.length + 1 ≤ 4096; omega, hc⟩
      · rw [if_neg hl]
        exact ⟨Nat.zero_le _, Nat.zero_le _⟩
  rw [if_neg h3]
  by_cases h4 : d = 4
  · rw [if_pos h4]
    unfold laterR
    rcases e : atP N i with _ | x
    · exact ⟨Nat.zero_le _, Nat.zero_le _⟩
    · refine ⟨?_, hc⟩
      show (N.eraseIdx i.toNat ++ [x]).length ≤ 4096
      have hlt : i.toNat < N.length := by
        unfold atP at e
        split at e
        · exact (List.getElem?_eq_some_iff.1 e).1
        · cases e
      rw [List.length_append, List.length_eraseIdx, if_pos hlt]
      show N.length - 1 + 1 ≤ 4096
      omega
  rw [if_neg h4]
  exact ⟨Nat.le_trans (List.length_filter_le _ _) hN, hc⟩
/-- A row of messages of one's own stays where a block beneath it, or beyond all, is written to. -/
theorem OwnN.past {lo k : Nat} {w w' : World} {s : Value} {n : Nat} {l : List Mx} (h : OwnN lo lo w s n l) (hk : k < lo ∨ w.heap.size ≤ k) (hm : Mov [k] w w') : OwnN lo lo w' s n l := by
  refine h.mov_ (fun e => ?_) (fun x hx q hq e => ?_) hm
  · have := h.own.lt k e
    omega
  · have h1 := h.low x hx q hq
    have h2 := (h.at_ x hx).lt hq
    omega
/-- .. where the taken message's bytes are written to. -/
theorem OwnN.apart {lo lo2 k m : Nat} {w w' : World} {s : Value} {n : Nat} {l : List Mx} {y : Mx} (h : OwnN lo lo2 w s n l) (hy : ∀ q, Bl y q → s.ownBlock ≠ some q ∧ ∀ x ∈ l, ¬ Bl x q) (hm0 : y.m = m) (hk : 0 < m → y.B = some ⟨k, 0, none⟩) (h0 : m = 0 → w.heap.size ≤ k) (hm : Mov [k] w w') : OwnN lo lo2 w' s n l := by
  rcases Nat.eq_zero_or_pos m with hz | hp
  · have hs := h0 hz
    refine h.mov_ (fun e => ?_) (fun x hx q hq e => ?_) hm
    · have := h.own.lt k e
      omega
    · have h2 := (h.at_ x hx).lt hq
      omega
  · have hb : Bl y k := .inr ⟨by omega, 0, hk hp⟩
    exact h.mov_ (hy k hb).1 (fun x hx q hq e => (hy k hb).2 x hx (e ▸ hq)) hm
end Net
end Go.Proofs.Ytamahknnppjegaa
