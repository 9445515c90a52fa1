/-
  WALKS: net.Take, Drop, Double, Later, To, Cut.
-/
import Derived.Test.YtamahknnppjegaaNetPlain
import Derived.BigQuiet
namespace Go.Proofs.Ytamahknnppjegaa
open Go.RowKit Mem Box
namespace Net
open Wire (B8 info_int asInts asInts_append)

set_option maxRecDepth 100000 in
set_option maxHeartbeats 6400000 in
theorem later_ok {w : World} {cap : Nat} {Q : Option Addr} {n c : Nat} {l : List Mx} (h : NetAt w Q n c l) (hn : n ≤ 5000) {j : Nat} {x : Mx} (hx : l[j]? = some x) :
    Calls Try.prog 29 #[nv cap Q n c, .int .i64 (j : Int)] w (GaveN1 w cap ((l.map Mx.p).eraseIdx j ++ [x.p]) 0) := by
  have HN := Lib.hid h
  have hlen := h.row.len
  have hj : j < n := by rw [← hlen]; exact (List.getElem?_eq_some_iff.1 hx).1
  have HPK : Hid (pickP (l.map Mx.p) ((placesP n (fun i => (i : Int) != (j : Int))) ++ [j]) = ((l.map Mx.p).eraseIdx j ++ [x.p])) := by
    show _ = _
    rw [pick_app (x := x.p) (by rw [List.getElem?_map, hx]; rfl)]
    congr 1
    have hl : (l.map Mx.p).length = n := by rw [List.length_map, hlen]
    rw [← hl]
    exact pick_others _ _
  have HLT : Hid (∀ i ∈ (placesP n (fun i => (i : Int) != (j : Int))) ++ [j], i < n) := fun i hi => by
    rcases List.mem_append.1 hi with hi | hi
    · exact places_lt hi
    · rw [List.mem_singleton.1 hi]; exact hj
  have HAT : Hid ((placesP n (fun i => (i : Int) != (j : Int))).length ≤ n) := by
    show _ ≤ _
    exact places_len n _
  have HH := fun W => Lib.hid (has_any cap Q n c (j : Int) W)
  have hhb : hasB n (j : Int) = true := by unfold hasB; simp; omega
  rw [hhb] at HH
  have HO := fun W => Lib.hid (others_any cap Q n c j (by omega) W)
  have L1 : Hid (Below w.heap.size w ((w.alloc (.cells #[.int .i64 (cap : Int), .slice Q n c] 28)).alloc (.cells #[.int .i64 0, .slice none 0 0] 28))) := (((Below.refl _ w).alloc (by first | exact Nat.le_refl _ | (simp; try omega)) _).alloc (by first | exact Nat.le_refl _ | (simp; try omega)) _)
  have X1 : Hid (Cells ((w.alloc (.cells #[.int .i64 (cap : Int), .slice Q n c] 28)).alloc (.cells #[.int .i64 0, .slice none 0 0] 28)) (w.heap.size) 28 #[.int .i64 (cap : Int), .slice Q n c]) := by
    have := Cells.new w #[.int .i64 (cap : Int), .slice Q n c] 28
    (try simp only [World.size_alloc] at this)
    exact (Cells.alloc this _)
  have Z1 : Hid (Cells ((w.alloc (.cells #[.int .i64 (cap : Int), .slice Q n c] 28)).alloc (.cells #[.int .i64 0, .slice none 0 0] 28)) (w.heap.size + 1) 28 #[.int .i64 0, .slice none 0 0]) := by
    have := Cells.new (w.alloc (.cells #[.int .i64 (cap : Int), .slice Q n c] 28)) #[.int .i64 0, .slice none 0 0] 28
    (try simp only [World.size_alloc] at this)
    exact this
  have SZ : Hid (((w.alloc (.cells #[.int .i64 (cap : Int), .slice Q n c] 28)).alloc (.cells #[.int .i64 0, .slice none 0 0] 28)).heap.size = w.heap.size + 2) := by show _ = _; simp
  generalize (placesP n (fun i => (i : Int) != (j : Int))) = ats at *
  have HP := fun W (hW : Below w.heap.size w W) X m e (ha : Row ci W X m e (asInts (ats ++ [j]))) (hm : m ≤ 1000000) => Lib.hid (picked_any (cap := cap) (HN.out.below hW) ha HLT.out hm)
  clear h hx hhb hlen
  unfold nv at *
  go_enter Try.func29, Try.ntmps29
  go_upto_region 3 with (first | (go_at_call 53; refine ((HH _).out).mono ?_; rintro e w2 ⟨rfl, hb⟩; have L2 := Lib.hid (L1.out.trans (hb.mono L1.out.size)); have X2 := Lib.hid (Cells.below X1.out hb); have Z2 := Lib.hid (Cells.below Z1.out hb); obtain ⟨k0, k1⟩ := NBox.cells X2.out; clear hb) | fail)
  clear L1 X1 Z1 HH k0 k1 SZ
  have L3 := Lib.hid L2.out.drew
  have X3 := Lib.hid (Cells.below X2.out ((Below.refl _ w2).drew))
  have Z3 := Lib.hid (Cells.below Z2.out ((Below.refl _ w2).drew))
  refine wp_region_held_drew (S := fun W => W.cell? ⟨w.heap.size, 0, none⟩ = some (.int .i64 (cap : Int)) ∧ W.cell? ⟨w.heap.size, 1, none⟩ = some (.slice Q n c)) (by kernel_rfl) (And.intro (NBox.cells X3.out).1 (NBox.cells X3.out).2) (fun hHeld => ?_)
  generalize w2.drew = w3 at *
  clear L2 X2 Z2 
  (first | (refine Reg.take 0 (v := ?_) rfl (by kernel_rfl) (by kernel_rfl) (by kernel_rfl) (fun _ _ _ h => h) (Or.inl ⟨by rfl, ?_⟩) (by assumption) ?_; rotate_left; (focus ((intro W hSW); (try dsimp only at hSW); (try go_split_ands); go_simp; (try (with_reducible rfl)); done))) | (refine Reg.take 0 (v := undef) rfl (by kernel_rfl) (by kernel_rfl) (by kernel_rfl) (fun _ _ _ h => h) (Or.inr ⟨by rfl, rfl⟩) (by assumption) ?_))
  (try simp only [Act.put, List.setIfInBounds_toArray, List.set_cons_zero, List.set_cons_succ])
  (first | (refine Reg.take 1 (v := ?_) rfl (by kernel_rfl) (by kernel_rfl) (by kernel_rfl) (fun _ _ _ h => h) (Or.inl ⟨by rfl, ?_⟩) (by assumption) ?_; rotate_left; (focus ((intro W hSW); (try dsimp only at hSW); (try go_split_ands); go_simp; (try (with_reducible rfl)); done))) | (refine Reg.take 1 (v := undef) rfl (by kernel_rfl) (by kernel_rfl) (by kernel_rfl) (fun _ _ _ h => h) (Or.inr ⟨by rfl, rfl⟩) (by assumption) ?_))
  (try simp only [Act.put, List.setIfInBounds_toArray, List.set_cons_zero, List.set_cons_succ])
  (first | (refine Reg.take 2 (v := ?_) rfl (by kernel_rfl) (by kernel_rfl) (by kernel_rfl) (fun _ _ _ h => h) (Or.inl ⟨by rfl, ?_⟩) (by assumption) ?_; rotate_left; (focus ((intro W hSW); (try dsimp only at hSW); (try go_split_ands); go_simp; (try (with_reducible rfl)); done))) | (refine Reg.take 2 (v := undef) rfl (by kernel_rfl) (by kernel_rfl) (by kernel_rfl) (fun _ _ _ h => h) (Or.inr ⟨by rfl, rfl⟩) (by assumption) ?_))
  (try simp only [Act.put, List.setIfInBounds_toArray, List.set_cons_zero, List.set_cons_succ])
  (first | (refine Reg.take 4 (v := ?_) rfl (by kernel_rfl) (by kernel_rfl) (by kernel_rfl) (fun _ _ _ h => h) (Or.inl ⟨by rfl, ?_⟩) (by assumption) ?_; rotate_left; (focus ((intro W hSW); (try dsimp only at hSW); (try go_split_ands); go_simp; (try (with_reducible rfl)); done))) | (refine Reg.take 4 (v := undef) rfl (by kernel_rfl) (by kernel_rfl) (by kernel_rfl) (fun _ _ _ h => h) (Or.inr ⟨by rfl, rfl⟩) (by assumption) ?_))
  (try simp only [Act.put, List.setIfInBounds_toArray, List.set_cons_zero, List.set_cons_succ])
  refine Reg.step2 3 5 rfl rfl (by kernel_rfl) (by rfl) (by rfl) (fun K hK => ?_) (fun K hK => ?_)
  · skip
    go_simp
    refine ((HO _).out).mono ?_
    rintro e w4 ⟨⟨A, a, d, rfl, hO⟩, hb⟩
    have L4 := Lib.hid (L3.out.trans (hb.mono L3.out.size))
    have X4 := Lib.hid (Cells.below X3.out hb)
    have Z4 := Lib.hid (Cells.below Z3.out hb)
    have E0 : Hid (w.heap.size + 1 < w3.heap.size) := (show w.heap.size + 1 < w3.heap.size from Cells.lt Z3.out)
    have O4 := Lib.hid hO
    have AL : Hid (a = ats.length) := by have := hO.len; rw [Wire.asInts, List.length_map] at this; exact this.symm
    have E1 : Hid (w3.heap.size ≤ w4.heap.size) := hb.size
    obtain ⟨b0, hb0⟩ : ∃ b, b = w3.heap.size := ⟨_, rfl⟩
    rw [← hb0] at E0 E1 O4
    clear hO hb0
    clear hb hHeld HO
    clear L3 X3 Z3 
    refine hK.out _ _ (And.intro (NBox.cells X4.out).1 (NBox.cells X4.out).2) (fun hHeld => ?_)
    clear hK K
    (try simp only [Act.put, List.setIfInBounds_toArray, List.set_cons_zero, List.set_cons_succ])
    refine Reg.step 5 rfl (by kernel_rfl) (by rfl) (fun K hK => ?_)
    go_simp
    have bb : Below w4.heap.size w4 (w4.alloc (.cells #[.int .i64 (j : Int)] 3)) := (Below.refl _ w4).alloc (Nat.le_refl _) _
    have R5 := Lib.hid (rowI_one w4 (j : Int))
    have L5 := Lib.hid (L4.out.trans (bb.mono L4.out.size))
    have X5 := Lib.hid (Cells.below X4.out bb)
    have Z5 := Lib.hid (Cells.below Z4.out bb)
    have O5 := Lib.hid (Owns.below O4.out bb)
    obtain ⟨p1, hp1⟩ : ∃ p, p = w4.heap.size := ⟨_, rfl⟩
    rw [← hp1] at R5
    rw [← hp1]
    have Gp1 : Hid (p1 = w4.heap.size) := hp1
    clear bb hHeld hp1
    clear L4 X4 Z4 O4 
    generalize w4.alloc (.cells #[.int .i64 (j : Int)] 3) = w5 at *
    refine hK.out _ _ (And.intro (NBox.cells X5.out).1 (NBox.cells X5.out).2) (fun hHeld => ?_)
    clear hK K
    (try simp only [Act.put, List.setIfInBounds_toArray, List.set_cons_zero, List.set_cons_succ])
    refine Reg.step 6 rfl (by kernel_rfl) (by rfl) (fun K hK => ?_)
    have ha : a ≤ n := by have := AL.out; have := HAT.out; omega
    refine Mem.wp_append_row ci_one Try.underlying37 info_int rfl (.tmp 14) (.tmp 16) rfl rfl b0 (.slice A a d) a (asInts ats) rfl O5.out _ 1 1 [(j : Int)] rfl R5.out (by omega) (by omega) (by have h1 := row_lt R5.out (by omega) rfl; have h2 := E1.out; have h3 := Gp1.out; omega) ?_
    intro A' d' w6 hO hb
    have L6 := Lib.hid (L5.out.trans (hb.mono (by have := E0.out; omega)))
    have X6 := Lib.hid (Cells.low X5.out (by have := E0.out; omega) hb)
    have Z6 := Lib.hid (Cells.low Z5.out E0.out hb)
    rw [← asInts_append] at hO
    have R6 := Lib.hid (Wire.gave_row hO (by rw [Wire.asInts, List.length_map, List.length_append]; have := HAT.out; simp; omega)).1
    clear hO hb hHeld AL HAT
    clear L5 X5 Z5 O5 R5 
    refine hK.out _ _ (And.intro (NBox.cells X6.out).1 (NBox.cells X6.out).2) (fun hHeld => ?_)
    clear hK K
    (try simp only [Act.put, List.setIfInBounds_toArray, List.set_cons_zero, List.set_cons_succ])
    refine Reg.step 7 rfl (by kernel_rfl) (by rfl) (fun K hK => ?_)
    go_simp
    refine ((HP _ L6.out _ _ _ R6.out (by omega)).out).mono ?_
    rintro e w7 ⟨Q2, n2, c2, l2, rfl, hO, hP, hb⟩
    have L7 := Lib.hid (L6.out.trans (hb.mono L6.out.size))
    have X7 := Lib.hid (Cells.below X6.out hb)
    have Z7 := Lib.hid (Cells.below Z6.out hb)
    have R7 := Lib.hid (Row.below R6.out hb)
    have N7 := Lib.hid ((hO.lower L6.out.size).base_ L6.out.size)
    have NZ : Hid (∀ x ∈ l2, ∀ q, Bl x q → q ≠ w.heap.size + 1) := fun x hx q hq => by have h1 := hO.low x hx q hq; have h2 := Cells.lt Z6.out; omega
    have LP := Lib.hid hP
    unfold nv
    clear hO hP
    clear hb hHeld HP
    clear L6 X6 Z6 R6 
    clear R7
    refine hK.out _ _ (And.intro (NBox.cells X7.out).1 (NBox.cells X7.out).2) (fun hHeld => ?_)
    clear hK K
    (try simp only [Act.put, List.setIfInBounds_toArray, List.set_cons_zero, List.set_cons_succ])
    have y0 := Cells.cell Z7.out 0
    have f0 := Cells.frozen Z7.out 0
    have y1 := Cells.cell Z7.out 1
    have f1 := Cells.frozen Z7.out 1
    refine Reg.step 8 rfl (by kernel_rfl) (by rfl) (fun K hK => ?_)
    go_simp
    have bt : Mov [w.heap.size + 1] w7 ((w7.setCell ⟨w.heap.size + 1, 0, none⟩ (.int .i64 (cap : Int))).setCell ⟨w.heap.size + 1, 1, none⟩ (.slice Q2 n2 c2)) := Mov.set2 _ _ _ _
    have L8 := Lib.hid (L7.out.trans (bt.up L7.out.size (by omega)))
    have X8 := Lib.hid (Cells.mov X7.out bt (by simp; try omega))
    have Z8 : Hid (Cells ((w7.setCell ⟨w.heap.size + 1, 0, none⟩ (.int .i64 (cap : Int))).setCell ⟨w.heap.size + 1, 1, none⟩ (.slice Q2 n2 c2)) (w.heap.size + 1) 28 #[.int .i64 (cap : Int), .slice Q2 n2 c2]) := Cells.set2 Z7.out _ _
    have N8 := Lib.hid (N7.out.mov Z7.out (by decide) (fun x hx q hq => NZ.out x hx q hq) bt)
    clear bt hHeld y0 f0 y1 f1
    clear L7 X7 Z7 N7 
    generalize (w7.setCell ⟨w.heap.size + 1, 0, none⟩ (.int .i64 (cap : Int))).setCell ⟨w.heap.size + 1, 1, none⟩ (.slice Q2 n2 c2) = w8 at *
    refine hK.out _ _ (And.intro (NBox.cells X8.out).1 (NBox.cells X8.out).2) (fun hHeld => ?_)
    clear hK K
    (try simp only [Act.put, List.setIfInBounds_toArray, List.set_cons_zero, List.set_cons_succ])
    (first | (refine Reg.take 9 (v := ?_) rfl (by kernel_rfl) (by kernel_rfl) (by kernel_rfl) (fun _ _ _ h => h) (Or.inl ⟨by rfl, ?_⟩) (by assumption) ?_; rotate_left; (focus ((intro W hSW); (try dsimp only at hSW); (try go_split_ands); go_simp; (try (with_reducible rfl)); done))) | (refine Reg.take 9 (v := undef) rfl (by kernel_rfl) (by kernel_rfl) (by kernel_rfl) (fun _ _ _ h => h) (Or.inr ⟨by rfl, rfl⟩) (by assumption) ?_))
    (try simp only [Act.put, List.setIfInBounds_toArray, List.set_cons_zero, List.set_cons_succ])
    refine wpAnyH_done (by kernel_rfl) ?_ _
    clear hHeld
    go_wp2_with fail
    refine bodyPost_ret_by (results_c1 rfl _ _ (w.heap.size + 1) _ _ _ _ rfl Z8.out Try.underlying28 rfl (by kernel_rfl)) rfl ?_
    exact ⟨Q2, n2, c2, l2, rfl, N8.out, by rw [LP.out, HPK.out], L8.out⟩
  · skip
    go_simp
    have bb : Below w3.heap.size w3 (w3.alloc (.cells #[.int .i64 (j : Int)] 3)) := (Below.refl _ w3).alloc (Nat.le_refl _) _
    have R4 := Lib.hid (rowI_one w3 (j : Int))
    have L4 := Lib.hid (L3.out.trans (bb.mono L3.out.size))
    have X4 := Lib.hid (Cells.below X3.out bb)
    have Z4 := Lib.hid (Cells.below Z3.out bb)
    obtain ⟨p1, hp1⟩ : ∃ p, p = w3.heap.size := ⟨_, rfl⟩
    rw [← hp1] at R4
    rw [← hp1]
    have Gp1 : Hid (p1 = w3.heap.size) := hp1
    clear bb hHeld hp1
    clear L3 X3 Z3 
    generalize w3.alloc (.cells #[.int .i64 (j : Int)] 3) = w4 at *
    refine hK.out _ _ (And.intro (NBox.cells X4.out).1 (NBox.cells X4.out).2) (fun hHeld => ?_)
    clear hK K
    (try simp only [Act.put, List.setIfInBounds_toArray, List.set_cons_zero, List.set_cons_succ])
    refine Reg.step 3 rfl (by kernel_rfl) (by rfl) (fun K hK => ?_)
    go_simp
    refine ((HO _).out).mono ?_
    rintro e w5 ⟨⟨A, a, d, rfl, hO⟩, hb⟩
    have L5 := Lib.hid (L4.out.trans (hb.mono L4.out.size))
    have X5 := Lib.hid (Cells.below X4.out hb)
    have Z5 := Lib.hid (Cells.below Z4.out hb)
    have R5 := Lib.hid (Row.below R4.out hb)
    have E0 : Hid (w.heap.size + 1 < w4.heap.size) := (show w.heap.size + 1 < w4.heap.size from Cells.lt Z4.out)
    have O5 := Lib.hid hO
    have AL : Hid (a = ats.length) := by have := hO.len; rw [Wire.asInts, List.length_map] at this; exact this.symm
    have E1 : Hid (w4.heap.size ≤ w5.heap.size) := hb.size
    obtain ⟨b0, hb0⟩ : ∃ b, b = w4.heap.size := ⟨_, rfl⟩
    rw [← hb0] at E0 E1 O5
    clear hO hb0
    clear hb hHeld HO
    clear L4 X4 Z4 R4 
    refine hK.out _ _ (And.intro (NBox.cells X5.out).1 (NBox.cells X5.out).2) (fun hHeld => ?_)
    clear hK K
    (try simp only [Act.put, List.setIfInBounds_toArray, List.set_cons_zero, List.set_cons_succ])
    refine Reg.step 6 rfl (by kernel_rfl) (by rfl) (fun K hK => ?_)
    have ha : a ≤ n := by have := AL.out; have := HAT.out; omega
    refine Mem.wp_append_row ci_one Try.underlying37 info_int rfl (.tmp 14) (.tmp 16) rfl rfl b0 (.slice A a d) a (asInts ats) rfl O5.out _ 1 1 [(j : Int)] rfl R5.out (by omega) (by omega) (E1.out) ?_
    intro A' d' w6 hO hb
    have L6 := Lib.hid (L5.out.trans (hb.mono (by have := E0.out; omega)))
    have X6 := Lib.hid (Cells.low X5.out (by have := E0.out; omega) hb)
    have Z6 := Lib.hid (Cells.low Z5.out E0.out hb)
    rw [← asInts_append] at hO
    have R6 := Lib.hid (Wire.gave_row hO (by rw [Wire.asInts, List.length_map, List.length_append]; have := HAT.out; simp; omega)).1
    clear hO hb hHeld AL HAT
    clear L5 X5 Z5 R5 O5 
    refine hK.out _ _ (And.intro (NBox.cells X6.out).1 (NBox.cells X6.out).2) (fun hHeld => ?_)
    clear hK K
    (try simp only [Act.put, List.setIfInBounds_toArray, List.set_cons_zero, List.set_cons_succ])
    refine Reg.step 7 rfl (by kernel_rfl) (by rfl) (fun K hK => ?_)
    go_simp
    refine ((HP _ L6.out _ _ _ R6.out (by omega)).out).mono ?_
    rintro e w7 ⟨Q2, n2, c2, l2, rfl, hO, hP, hb⟩
    have L7 := Lib.hid (L6.out.trans (hb.mono L6.out.size))
    have X7 := Lib.hid (Cells.below X6.out hb)
    have Z7 := Lib.hid (Cells.below Z6.out hb)
    have R7 := Lib.hid (Row.below R6.out hb)
    have N7 := Lib.hid ((hO.lower L6.out.size).base_ L6.out.size)
    have NZ : Hid (∀ x ∈ l2, ∀ q, Bl x q → q ≠ w.heap.size + 1) := fun x hx q hq => by have h1 := hO.low x hx q hq; have h2 := Cells.lt Z6.out; omega
    have LP := Lib.hid hP
    unfold nv
    clear hO hP
    clear hb hHeld HP
    clear L6 X6 Z6 R6 
    clear R7
    refine hK.out _ _ (And.intro (NBox.cells X7.out).1 (NBox.cells X7.out).2) (fun hHeld => ?_)
    clear hK K
    (try simp only [Act.put, List.setIfInBounds_toArray, List.set_cons_zero, List.set_cons_succ])
    have y0 := Cells.cell Z7.out 0
    have f0 := Cells.frozen Z7.out 0
    have y1 := Cells.cell Z7.out 1
    have f1 := Cells.frozen Z7.out 1
    refine Reg.step 8 rfl (by kernel_rfl) (by rfl) (fun K hK => ?_)
    go_simp
    have bt : Mov [w.heap.size + 1] w7 ((w7.setCell ⟨w.heap.size + 1, 0, none⟩ (.int .i64 (cap : Int))).setCell ⟨w.heap.size + 1, 1, none⟩ (.slice Q2 n2 c2)) := Mov.set2 _ _ _ _
    have L8 := Lib.hid (L7.out.trans (bt.up L7.out.size (by omega)))
    have X8 := Lib.hid (Cells.mov X7.out bt (by simp; try omega))
    have Z8 : Hid (Cells ((w7.setCell ⟨w.heap.size + 1, 0, none⟩ (.int .i64 (cap : Int))).setCell ⟨w.heap.size + 1, 1, none⟩ (.slice Q2 n2 c2)) (w.heap.size + 1) 28 #[.int .i64 (cap : Int), .slice Q2 n2 c2]) := Cells.set2 Z7.out _ _
    have N8 := Lib.hid (N7.out.mov Z7.out (by decide) (fun x hx q hq => NZ.out x hx q hq) bt)
    clear bt hHeld y0 f0 y1 f1
    clear L7 X7 Z7 N7 
    generalize (w7.setCell ⟨w.heap.size + 1, 0, none⟩ (.int .i64 (cap : Int))).setCell ⟨w.heap.size + 1, 1, none⟩ (.slice Q2 n2 c2) = w8 at *
    refine hK.out _ _ (And.intro (NBox.cells X8.out).1 (NBox.cells X8.out).2) (fun hHeld => ?_)
    clear hK K
    (try simp only [Act.put, List.setIfInBounds_toArray, List.set_cons_zero, List.set_cons_succ])
    (first | (refine Reg.take 9 (v := ?_) rfl (by kernel_rfl) (by kernel_rfl) (by kernel_rfl) (fun _ _ _ h => h) (Or.inl ⟨by rfl, ?_⟩) (by assumption) ?_; rotate_left; (focus ((intro W hSW); (try dsimp only at hSW); (try go_split_ands); go_simp; (try (with_reducible rfl)); done))) | (refine Reg.take 9 (v := undef) rfl (by kernel_rfl) (by kernel_rfl) (by kernel_rfl) (fun _ _ _ h => h) (Or.inr ⟨by rfl, rfl⟩) (by assumption) ?_))
    (try simp only [Act.put, List.setIfInBounds_toArray, List.set_cons_zero, List.set_cons_succ])
    refine wpAnyH_done (by kernel_rfl) ?_ _
    clear hHeld
    go_wp2_with fail
    refine bodyPost_ret_by (results_c1 rfl _ _ (w.heap.size + 1) _ _ _ _ rfl Z8.out Try.underlying28 rfl (by kernel_rfl)) rfl ?_
    exact ⟨Q2, n2, c2, l2, rfl, N8.out, by rw [LP.out, HPK.out], L8.out⟩

set_option maxRecDepth 100000 in
set_option maxHeartbeats 6400000 in
theorem double_ok {w : World} {cap : Nat} {Q : Option Addr} {n c : Nat} {l : List Mx} (h : NetAt w Q n c l) (hn : n ≤ 5000) {j : Nat} {x : Mx} (hx : l[j]? = some x) (hr : n < cap) :
    Calls Try.prog 31 #[nv cap Q n c, .int .i64 (j : Int)] w (GaveN1 w cap (l.map Mx.p ++ [x.p]) 0) := by
  have HN := Lib.hid h
  have hlen := h.row.len
  have hj : j < n := by rw [← hlen]; exact (List.getElem?_eq_some_iff.1 hx).1
  have HPK : Hid (pickP (l.map Mx.p) ((List.range n) ++ [j]) = (l.map Mx.p ++ [x.p])) := by
    show _ = _
    rw [pick_app (x := x.p) (by rw [List.getElem?_map, hx]; rfl)]
    congr 1
    have hl : (l.map Mx.p).length = n := by rw [List.length_map, hlen]
    rw [← hl]
    exact pick_all _
  have HLT : Hid (∀ i ∈ (List.range n) ++ [j], i < n) := fun i hi => by
    rcases List.mem_append.1 hi with hi | hi
    · exact List.mem_range.1 hi
    · rw [List.mem_singleton.1 hi]; exact hj
  have HAT : Hid ((List.range n).length ≤ n) := by
    show _ ≤ _
    rw [List.length_range]; exact Nat.le_refl _
  have HH := fun W => Lib.hid (has_any cap Q n c (j : Int) W)
  have hhb : hasB n (j : Int) = true := by unfold hasB; simp; omega
  rw [hhb] at HH
  have HO := fun W => Lib.hid (all_any cap Q n c (by omega) W)
  have HR := fun W => Lib.hid (hasRoom_any cap Q n c W)
  have hrr : decide (n < cap) = true := decide_eq_true hr
  rw [hrr] at HR
  have L1 : Hid (Below w.heap.size w ((w.alloc (.cells #[.int .i64 (cap : Int), .slice Q n c] 28)).alloc (.cells #[.int .i64 0, .slice none 0 0] 28))) := (((Below.refl _ w).alloc (by first | exact Nat.le_refl _ | (simp; try omega)) _).alloc (by first | exact Nat.le_refl _ | (simp; try omega)) _)
  have X1 : Hid (Cells ((w.alloc (.cells #[.int .i64 (cap : Int), .slice Q n c] 28)).alloc (.cells #[.int .i64 0, .slice none 0 0] 28)) (w.heap.size) 28 #[.int .i64 (cap : Int), .slice Q n c]) := by
    have := Cells.new w #[.int .i64 (cap : Int), .slice Q n c] 28
    (try simp only [World.size_alloc] at this)
    exact (Cells.alloc this _)
  have Z1 : Hid (Cells ((w.alloc (.cells #[.int .i64 (cap : Int), .slice Q n c] 28)).alloc (.cells #[.int .i64 0, .slice none 0 0] 28)) (w.heap.size + 1) 28 #[.int .i64 0, .slice none 0 0]) := by
    have := Cells.new (w.alloc (.cells #[.int .i64 (cap : Int), .slice Q n c] 28)) #[.int .i64 0, .slice none 0 0] 28
    (try simp only [World.size_alloc] at this)
    exact this
  have SZ : Hid (((w.alloc (.cells #[.int .i64 (cap : Int), .slice Q n c] 28)).alloc (.cells #[.int .i64 0, .slice none 0 0] 28)).heap.size = w.heap.size + 2) := by show _ = _; simp
  generalize (List.range n) = ats at *
  have HP := fun W (hW : Below w.heap.size w W) X m e (ha : Row ci W X m e (asInts (ats ++ [j]))) (hm : m ≤ 1000000) => Lib.hid (picked_any (cap := cap) (HN.out.below hW) ha HLT.out hm)
  clear h hx hhb hlen hr hrr
  unfold nv at *
  go_enter Try.func31, Try.ntmps31
  go_upto_region 5 with (first | (go_at_call 53; refine ((HH _).out).mono ?_; rintro e w2 ⟨rfl, hb⟩; have L2 := Lib.hid (L1.out.trans (hb.mono L1.out.size)); have X2 := Lib.hid (Cells.below X1.out hb); have Z2 := Lib.hid (Cells.below Z1.out hb); obtain ⟨k0, k1⟩ := NBox.cells X2.out; clear hb) | (go_at_call 35; refine ((HR _).out).mono ?_; rintro e w3 ⟨rfl, hb⟩; have L3 := Lib.hid (L2.out.trans (hb.mono L2.out.size)); have X3 := Lib.hid (Cells.below X2.out hb); have Z3 := Lib.hid (Cells.below Z2.out hb); clear hb k0 k1) | fail)
  clear L1 X1 Z1 HH L2 X2 Z2 HR SZ
  have L4 := Lib.hid L3.out.drew
  have X4 := Lib.hid (Cells.below X3.out ((Below.refl _ w3).drew))
  have Z4 := Lib.hid (Cells.below Z3.out ((Below.refl _ w3).drew))
  refine wp_region_held_drew (S := fun W => W.cell? ⟨w.heap.size, 0, none⟩ = some (.int .i64 (cap : Int)) ∧ W.cell? ⟨w.heap.size, 1, none⟩ = some (.slice Q n c)) (by kernel_rfl) (And.intro (NBox.cells X4.out).1 (NBox.cells X4.out).2) (fun hHeld => ?_)
  generalize w3.drew = w4 at *
  clear L3 X3 Z3 
  (first | (refine Reg.take 0 (v := ?_) rfl (by kernel_rfl) (by kernel_rfl) (by kernel_rfl) (fun _ _ _ h => h) (Or.inl ⟨by rfl, ?_⟩) (by assumption) ?_; rotate_left; (focus ((intro W hSW); (try dsimp only at hSW); (try go_split_ands); go_simp; (try (with_reducible rfl)); done))) | (refine Reg.take 0 (v := undef) rfl (by kernel_rfl) (by kernel_rfl) (by kernel_rfl) (fun _ _ _ h => h) (Or.inr ⟨by rfl, rfl⟩) (by assumption) ?_))
  (try simp only [Act.put, List.setIfInBounds_toArray, List.set_cons_zero, List.set_cons_succ])
  (first | (refine Reg.take 1 (v := ?_) rfl (by kernel_rfl) (by kernel_rfl) (by kernel_rfl) (fun _ _ _ h => h) (Or.inl ⟨by rfl, ?_⟩) (by assumption) ?_; rotate_left; (focus ((intro W hSW); (try dsimp only at hSW); (try go_split_ands); go_simp; (try (with_reducible rfl)); done))) | (refine Reg.take 1 (v := undef) rfl (by kernel_rfl) (by kernel_rfl) (by kernel_rfl) (fun _ _ _ h => h) (Or.inr ⟨by rfl, rfl⟩) (by assumption) ?_))
  (try simp only [Act.put, List.setIfInBounds_toArray, List.set_cons_zero, List.set_cons_succ])
  (first | (refine Reg.take 3 (v := ?_) rfl (by kernel_rfl) (by kernel_rfl) (by kernel_rfl) (fun _ _ _ h => h) (Or.inl ⟨by rfl, ?_⟩) (by assumption) ?_; rotate_left; (focus ((intro W hSW); (try dsimp only at hSW); (try go_split_ands); go_simp; (try (with_reducible rfl)); done))) | (refine Reg.take 3 (v := undef) rfl (by kernel_rfl) (by kernel_rfl) (by kernel_rfl) (fun _ _ _ h => h) (Or.inr ⟨by rfl, rfl⟩) (by assumption) ?_))
  (try simp only [Act.put, List.setIfInBounds_toArray, List.set_cons_zero, List.set_cons_succ])
  refine Reg.step2 2 4 rfl rfl (by kernel_rfl) (by rfl) (by rfl) (fun K hK => ?_) (fun K hK => ?_)
  · skip
    go_simp
    refine ((HO _).out).mono ?_
    rintro e w5 ⟨⟨A, a, d, rfl, hO⟩, hb⟩
    have L5 := Lib.hid (L4.out.trans (hb.mono L4.out.size))
    have X5 := Lib.hid (Cells.below X4.out hb)
    have Z5 := Lib.hid (Cells.below Z4.out hb)
    have E0 : Hid (w.heap.size + 1 < w4.heap.size) := (show w.heap.size + 1 < w4.heap.size from Cells.lt Z4.out)
    have O5 := Lib.hid hO
    have AL : Hid (a = ats.length) := by have := hO.len; rw [Wire.asInts, List.length_map] at this; exact this.symm
    have E1 : Hid (w4.heap.size ≤ w5.heap.size) := hb.size
    obtain ⟨b0, hb0⟩ : ∃ b, b = w4.heap.size := ⟨_, rfl⟩
    rw [← hb0] at E0 E1 O5
    clear hO hb0
    clear hb hHeld HO
    clear L4 X4 Z4 
    refine hK.out _ _ (And.intro (NBox.cells X5.out).1 (NBox.cells X5.out).2) (fun hHeld => ?_)
    clear hK K
    (try simp only [Act.put, List.setIfInBounds_toArray, List.set_cons_zero, List.set_cons_succ])
    refine Reg.step 4 rfl (by kernel_rfl) (by rfl) (fun K hK => ?_)
    go_simp
    have bb : Below w5.heap.size w5 (w5.alloc (.cells #[.int .i64 (j : Int)] 3)) := (Below.refl _ w5).alloc (Nat.le_refl _) _
    have R6 := Lib.hid (rowI_one w5 (j : Int))
    have L6 := Lib.hid (L5.out.trans (bb.mono L5.out.size))
    have X6 := Lib.hid (Cells.below X5.out bb)
    have Z6 := Lib.hid (Cells.below Z5.out bb)
    have O6 := Lib.hid (Owns.below O5.out bb)
    obtain ⟨p1, hp1⟩ : ∃ p, p = w5.heap.size := ⟨_, rfl⟩
    rw [← hp1] at R6
    rw [← hp1]
    have Gp1 : Hid (p1 = w5.heap.size) := hp1
    clear bb hHeld hp1
    clear L5 X5 Z5 O5 
    generalize w5.alloc (.cells #[.int .i64 (j : Int)] 3) = w6 at *
    refine hK.out _ _ (And.intro (NBox.cells X6.out).1 (NBox.cells X6.out).2) (fun hHeld => ?_)
    clear hK K
    (try simp only [Act.put, List.setIfInBounds_toArray, List.set_cons_zero, List.set_cons_succ])
    refine Reg.step 5 rfl (by kernel_rfl) (by rfl) (fun K hK => ?_)
    have ha : a ≤ n := by have := AL.out; have := HAT.out; omega
    refine Mem.wp_append_row ci_one Try.underlying37 info_int rfl (.tmp 19) (.tmp 21) rfl rfl b0 (.slice A a d) a (asInts ats) rfl O6.out _ 1 1 [(j : Int)] rfl R6.out (by omega) (by omega) (by have h1 := row_lt R6.out (by omega) rfl; have h2 := E1.out; have h3 := Gp1.out; omega) ?_
    intro A' d' w7 hO hb
    have L7 := Lib.hid (L6.out.trans (hb.mono (by have := E0.out; omega)))
    have X7 := Lib.hid (Cells.low X6.out (by have := E0.out; omega) hb)
    have Z7 := Lib.hid (Cells.low Z6.out E0.out hb)
    rw [← asInts_append] at hO
    have R7 := Lib.hid (Wire.gave_row hO (by rw [Wire.asInts, List.length_map, List.length_append]; have := HAT.out; simp; omega)).1
    clear hO hb hHeld AL HAT
    clear L6 X6 Z6 O6 R6 
    refine hK.out _ _ (And.intro (NBox.cells X7.out).1 (NBox.cells X7.out).2) (fun hHeld => ?_)
    clear hK K
    (try simp only [Act.put, List.setIfInBounds_toArray, List.set_cons_zero, List.set_cons_succ])
    refine Reg.step 6 rfl (by kernel_rfl) (by rfl) (fun K hK => ?_)
    go_simp
    refine ((HP _ L7.out _ _ _ R7.out (by omega)).out).mono ?_
    rintro e w8 ⟨Q2, n2, c2, l2, rfl, hO, hP, hb⟩
    have L8 := Lib.hid (L7.out.trans (hb.mono L7.out.size))
    have X8 := Lib.hid (Cells.below X7.out hb)
    have Z8 := Lib.hid (Cells.below Z7.out hb)
    have R8 := Lib.hid (Row.below R7.out hb)
    have N8 := Lib.hid ((hO.lower L7.out.size).base_ L7.out.size)
    have NZ : Hid (∀ x ∈ l2, ∀ q, Bl x q → q ≠ w.heap.size + 1) := fun x hx q hq => by have h1 := hO.low x hx q hq; have h2 := Cells.lt Z7.out; omega
    have LP := Lib.hid hP
    unfold nv
    clear hO hP
    clear hb hHeld HP
    clear L7 X7 Z7 R7 
    clear R8
    refine hK.out _ _ (And.intro (NBox.cells X8.out).1 (NBox.cells X8.out).2) (fun hHeld => ?_)
    clear hK K
    (try simp only [Act.put, List.setIfInBounds_toArray, List.set_cons_zero, List.set_cons_succ])
    have y0 := Cells.cell Z8.out 0
    have f0 := Cells.frozen Z8.out 0
    have y1 := Cells.cell Z8.out 1
    have f1 := Cells.frozen Z8.out 1
    refine Reg.step 7 rfl (by kernel_rfl) (by rfl) (fun K hK => ?_)
    go_simp
    have bt : Mov [w.heap.size + 1] w8 ((w8.setCell ⟨w.heap.size + 1, 0, none⟩ (.int .i64 (cap : Int))).setCell ⟨w.heap.size + 1, 1, none⟩ (.slice Q2 n2 c2)) := Mov.set2 _ _ _ _
    have L9 := Lib.hid (L8.out.trans (bt.up L8.out.size (by omega)))
    have X9 := Lib.hid (Cells.mov X8.out bt (by simp; try omega))
    have Z9 : Hid (Cells ((w8.setCell ⟨w.heap.size + 1, 0, none⟩ (.int .i64 (cap : Int))).setCell ⟨w.heap.size + 1, 1, none⟩ (.slice Q2 n2 c2)) (w.heap.size + 1) 28 #[.int .i64 (cap : Int), .slice Q2 n2 c2]) := Cells.set2 Z8.out _ _
    have N9 := Lib.hid (N8.out.mov Z8.out (by decide) (fun x hx q hq => NZ.out x hx q hq) bt)
    clear bt hHeld y0 f0 y1 f1
    clear L8 X8 Z8 N8 
    generalize (w8.setCell ⟨w.heap.size + 1, 0, none⟩ (.int .i64 (cap : Int))).setCell ⟨w.heap.size + 1, 1, none⟩ (.slice Q2 n2 c2) = w9 at *
    refine hK.out _ _ (And.intro (NBox.cells X9.out).1 (NBox.cells X9.out).2) (fun hHeld => ?_)
    clear hK K
    (try simp only [Act.put, List.setIfInBounds_toArray, List.set_cons_zero, List.set_cons_succ])
    (first | (refine Reg.take 8 (v := ?_) rfl (by kernel_rfl) (by kernel_rfl) (by kernel_rfl) (fun _ _ _ h => h) (Or.inl ⟨by rfl, ?_⟩) (by assumption) ?_; rotate_left; (focus ((intro W hSW); (try dsimp only at hSW); (try go_split_ands); go_simp; (try (with_reducible rfl)); done))) | (refine Reg.take 8 (v := undef) rfl (by kernel_rfl) (by kernel_rfl) (by kernel_rfl) (fun _ _ _ h => h) (Or.inr ⟨by rfl, rfl⟩) (by assumption) ?_))
    (try simp only [Act.put, List.setIfInBounds_toArray, List.set_cons_zero, List.set_cons_succ])
    refine wpAnyH_done (by kernel_rfl) ?_ _
    clear hHeld
    go_wp2_with fail
    refine bodyPost_ret_by (results_c1 rfl _ _ (w.heap.size + 1) _ _ _ _ rfl Z9.out Try.underlying28 rfl (by kernel_rfl)) rfl ?_
    exact ⟨Q2, n2, c2, l2, rfl, N9.out, by rw [LP.out, HPK.out], L9.out⟩
  · skip
    go_simp
    have bb : Below w4.heap.size w4 (w4.alloc (.cells #[.int .i64 (j : Int)] 3)) := (Below.refl _ w4).alloc (Nat.le_refl _) _
    have R5 := Lib.hid (rowI_one w4 (j : Int))
    have L5 := Lib.hid (L4.out.trans (bb.mono L4.out.size))
    have X5 := Lib.hid (Cells.below X4.out bb)
    have Z5 := Lib.hid (Cells.below Z4.out bb)
    obtain ⟨p1, hp1⟩ : ∃ p, p = w4.heap.size := ⟨_, rfl⟩
    rw [← hp1] at R5
    rw [← hp1]
    have Gp1 : Hid (p1 = w4.heap.size) := hp1
    clear bb hHeld hp1
    clear L4 X4 Z4 
    generalize w4.alloc (.cells #[.int .i64 (j : Int)] 3) = w5 at *
    refine hK.out _ _ (And.intro (NBox.cells X5.out).1 (NBox.cells X5.out).2) (fun hHeld => ?_)
    clear hK K
    (try simp only [Act.put, List.setIfInBounds_toArray, List.set_cons_zero, List.set_cons_succ])
    refine Reg.step 2 rfl (by kernel_rfl) (by rfl) (fun K hK => ?_)
    go_simp
    refine ((HO _).out).mono ?_
    rintro e w6 ⟨⟨A, a, d, rfl, hO⟩, hb⟩
    have L6 := Lib.hid (L5.out.trans (hb.mono L5.out.size))
    have X6 := Lib.hid (Cells.below X5.out hb)
    have Z6 := Lib.hid (Cells.below Z5.out hb)
    have R6 := Lib.hid (Row.below R5.out hb)
    have E0 : Hid (w.heap.size + 1 < w5.heap.size) := (show w.heap.size + 1 < w5.heap.size from Cells.lt Z5.out)
    have O6 := Lib.hid hO
    have AL : Hid (a = ats.length) := by have := hO.len; rw [Wire.asInts, List.length_map] at this; exact this.symm
    have E1 : Hid (w5.heap.size ≤ w6.heap.size) := hb.size
    obtain ⟨b0, hb0⟩ : ∃ b, b = w5.heap.size := ⟨_, rfl⟩
    rw [← hb0] at E0 E1 O6
    clear hO hb0
    clear hb hHeld HO
    clear L5 X5 Z5 R5 
    refine hK.out _ _ (And.intro (NBox.cells X6.out).1 (NBox.cells X6.out).2) (fun hHeld => ?_)
    clear hK K
    (try simp only [Act.put, List.setIfInBounds_toArray, List.set_cons_zero, List.set_cons_succ])
    refine Reg.step 5 rfl (by kernel_rfl) (by rfl) (fun K hK => ?_)
    have ha : a ≤ n := by have := AL.out; have := HAT.out; omega
    refine Mem.wp_append_row ci_one Try.underlying37 info_int rfl (.tmp 19) (.tmp 21) rfl rfl b0 (.slice A a d) a (asInts ats) rfl O6.out _ 1 1 [(j : Int)] rfl R6.out (by omega) (by omega) (E1.out) ?_
    intro A' d' w7 hO hb
    have L7 := Lib.hid (L6.out.trans (hb.mono (by have := E0.out; omega)))
    have X7 := Lib.hid (Cells.low X6.out (by have := E0.out; omega) hb)
    have Z7 := Lib.hid (Cells.low Z6.out E0.out hb)
    rw [← asInts_append] at hO
    have R7 := Lib.hid (Wire.gave_row hO (by rw [Wire.asInts, List.length_map, List.length_append]; have := HAT.out; simp; omega)).1
    clear hO hb hHeld AL HAT
    clear L6 X6 Z6 R6 O6 
    refine hK.out _ _ (And.intro (NBox.cells X7.out).1 (NBox.cells X7.out).2) (fun hHeld => ?_)
    clear hK K
    (try simp only [Act.put, List.setIfInBounds_toArray, List.set_cons_zero, List.set_cons_succ])
    refine Reg.step 6 rfl (by kernel_rfl) (by rfl) (fun K hK => ?_)
    go_simp
    refine ((HP _ L7.out _ _ _ R7.out (by omega)).out).mono ?_
    rintro e w8 ⟨Q2, n2, c2, l2, rfl, hO, hP, hb⟩
    have L8 := Lib.hid (L7.out.trans (hb.mono L7.out.size))
    have X8 := Lib.hid (Cells.below X7.out hb)
    have Z8 := Lib.hid (Cells.below Z7.out hb)
    have R8 := Lib.hid (Row.below R7.out hb)
    have N8 := Lib.hid ((hO.lower L7.out.size).base_ L7.out.size)
    have NZ : Hid (∀ x ∈ l2, ∀ q, Bl x q → q ≠ w.heap.size + 1) := fun x hx q hq => by have h1 := hO.low x hx q hq; have h2 := Cells.lt Z7.out; omega
    have LP := Lib.hid hP
    unfold nv
    clear hO hP
    clear hb hHeld HP
    clear L7 X7 Z7 R7 
    clear R8
    refine hK.out _ _ (And.intro (NBox.cells X8.out).1 (NBox.cells X8.out).2) (fun hHeld => ?_)
    clear hK K
    (try simp only [Act.put, List.setIfInBounds_toArray, List.set_cons_zero, List.set_cons_succ])
    have y0 := Cells.cell Z8.out 0
    have f0 := Cells.frozen Z8.out 0
    have y1 := Cells.cell Z8.out 1
    have f1 := Cells.frozen Z8.out 1
    refine Reg.step 7 rfl (by kernel_rfl) (by rfl) (fun K hK => ?_)
    go_simp
    have bt : Mov [w.heap.size + 1] w8 ((w8.setCell ⟨w.heap.size + 1, 0, none⟩ (.int .i64 (cap : Int))).setCell ⟨w.heap.size + 1, 1, none⟩ (.slice Q2 n2 c2)) := Mov.set2 _ _ _ _
    have L9 := Lib.hid (L8.out.trans (bt.up L8.out.size (by omega)))
    have X9 := Lib.hid (Cells.mov X8.out bt (by simp; try omega))
    have Z9 : Hid (Cells ((w8.setCell ⟨w.heap.size + 1, 0, none⟩ (.int .i64 (cap : Int))).setCell ⟨w.heap.size + 1, 1, none⟩ (.slice Q2 n2 c2)) (w.heap.size + 1) 28 #[.int .i64 (cap : Int), .slice Q2 n2 c2]) := Cells.set2 Z8.out _ _
    have N9 := Lib.hid (N8.out.mov Z8.out (by decide) (fun x hx q hq => NZ.out x hx q hq) bt)
    clear bt hHeld y0 f0 y1 f1
    clear L8 X8 Z8 N8 
    generalize (w8.setCell ⟨w.heap.size + 1, 0, none⟩ (.int .i64 (cap : Int))).setCell ⟨w.heap.size + 1, 1, none⟩ (.slice Q2 n2 c2) = w9 at *
    refine hK.out _ _ (And.intro (NBox.cells X9.out).1 (NBox.cells X9.out).2) (fun hHeld => ?_)
    clear hK K
    (try simp only [Act.put, List.setIfInBounds_toArray, List.set_cons_zero, List.set_cons_succ])
    (first | (refine Reg.take 8 (v := ?_) rfl (by kernel_rfl) (by kernel_rfl) (by kernel_rfl) (fun _ _ _ h => h) (Or.inl ⟨by rfl, ?_⟩) (by assumption) ?_; rotate_left; (focus ((intro W hSW); (try dsimp only at hSW); (try go_split_ands); go_simp; (try (with_reducible rfl)); done))) | (refine Reg.take 8 (v := undef) rfl (by kernel_rfl) (by kernel_rfl) (by kernel_rfl) (fun _ _ _ h => h) (Or.inr ⟨by rfl, rfl⟩) (by assumption) ?_))
    (try simp only [Act.put, List.setIfInBounds_toArray, List.set_cons_zero, List.set_cons_succ])
    refine wpAnyH_done (by kernel_rfl) ?_ _
    clear hHeld
    go_wp2_with fail
    refine bodyPost_ret_by (results_c1 rfl _ _ (w.heap.size + 1) _ _ _ _ rfl Z9.out Try.underlying28 rfl (by kernel_rfl)) rfl ?_
    exact ⟨Q2, n2, c2, l2, rfl, N9.out, by rw [LP.out, HPK.out], L9.out⟩

set_option maxRecDepth 100000 in
set_option maxHeartbeats 3200000 in
theorem later_bad {cap : Nat} {Q : Option Addr} {n c : Nat} {i : Int} (hi : hasB n i = false) (w : World) :
    Calls Try.prog 29 #[nv cap Q n c, .int .i64 i] w fun e w' => e = .returned (.tuple #[nv 0 none 0 0, .int .i64 4]) ∧ Below w.heap.size w w' := by
  have HH := fun W => Lib.hid (has_any cap Q n c i W)
  rw [hi] at HH
  have L1 : Hid (Below w.heap.size w ((w.alloc (.cells #[.int .i64 (cap : Int), .slice Q n c] 28)).alloc (.cells #[.int .i64 0, .slice none 0 0] 28))) := (((Below.refl _ w).alloc (by first | exact Nat.le_refl _ | (simp; try omega)) _).alloc (by first | exact Nat.le_refl _ | (simp; try omega)) _)
  have X1 : Hid (Cells ((w.alloc (.cells #[.int .i64 (cap : Int), .slice Q n c] 28)).alloc (.cells #[.int .i64 0, .slice none 0 0] 28)) (w.heap.size) 28 #[.int .i64 (cap : Int), .slice Q n c]) := by
    have := Cells.new w #[.int .i64 (cap : Int), .slice Q n c] 28
    (try simp only [World.size_alloc] at this)
    exact (Cells.alloc this _)
  have Z1 : Hid (Cells ((w.alloc (.cells #[.int .i64 (cap : Int), .slice Q n c] 28)).alloc (.cells #[.int .i64 0, .slice none 0 0] 28)) (w.heap.size + 1) 28 #[.int .i64 0, .slice none 0 0]) := by
    have := Cells.new (w.alloc (.cells #[.int .i64 (cap : Int), .slice Q n c] 28)) #[.int .i64 0, .slice none 0 0] 28
    (try simp only [World.size_alloc] at this)
    exact this
  have SZ : Hid (((w.alloc (.cells #[.int .i64 (cap : Int), .slice Q n c] 28)).alloc (.cells #[.int .i64 0, .slice none 0 0] 28)).heap.size = w.heap.size + 2) := by show _ = _; simp
  clear SZ
  unfold nv at *
  go_enter Try.func29, Try.ntmps29
  go_wp2_with (first | (go_at_call 53; refine ((HH _).out).mono ?_; rintro e w2 ⟨rfl, hb⟩; have L2 := Lib.hid (L1.out.trans (hb.mono L1.out.size)); have X2 := Lib.hid (Cells.below X1.out hb); have Z2 := Lib.hid (Cells.below Z1.out hb); obtain ⟨k0, k1⟩ := NBox.cells X2.out; obtain ⟨z0, z1⟩ := NBox.cells Z2.out; have f0 := Cells.frozen Z2.out 0; have f1 := Cells.frozen Z2.out 1; clear hb) | fail)
  refine bodyPost_ret_by (results_c1 rfl _ _ (w.heap.size + 1) _ _ _ _ rfl (Cells.set2 Z2.out (.int .i64 0) (.slice none 0 0)) Try.underlying28 rfl (by kernel_rfl)) rfl ?_
  exact ⟨rfl, L2.out.trans ((Mov.set2 _ _ _ _).up L2.out.size (by omega))⟩

set_option maxRecDepth 100000 in
set_option maxHeartbeats 3200000 in
theorem double_bad {cap : Nat} {Q : Option Addr} {n c : Nat} {i : Int} (hi : hasB n i = false) (w : World) :
    Calls Try.prog 31 #[nv cap Q n c, .int .i64 i] w fun e w' => e = .returned (.tuple #[nv 0 none 0 0, .int .i64 4]) ∧ Below w.heap.size w w' := by
  have HH := fun W => Lib.hid (has_any cap Q n c i W)
  rw [hi] at HH
  have L1 : Hid (Below w.heap.size w ((w.alloc (.cells #[.int .i64 (cap : Int), .slice Q n c] 28)).alloc (.cells #[.int .i64 0, .slice none 0 0] 28))) := (((Below.refl _ w).alloc (by first | exact Nat.le_refl _ | (simp; try omega)) _).alloc (by first | exact Nat.le_refl _ | (simp; try omega)) _)
  have X1 : Hid (Cells ((w.alloc (.cells #[.int .i64 (cap : Int), .slice Q n c] 28)).alloc (.cells #[.int .i64 0, .slice none 0 0] 28)) (w.heap.size) 28 #[.int .i64 (cap : Int), .slice Q n c]) := by
    have := Cells.new w #[.int .i64 (cap : Int), .slice Q n c] 28
    (try simp only [World.size_alloc] at this)
    exact (Cells.alloc this _)
  have Z1 : Hid (Cells ((w.alloc (.cells #[.int .i64 (cap : Int), .slice Q n c] 28)).alloc (.cells #[.int .i64 0, .slice none 0 0] 28)) (w.heap.size + 1) 28 #[.int .i64 0, .slice none 0 0]) := by
    have := Cells.new (w.alloc (.cells #[.int .i64 (cap : Int), .slice Q n c] 28)) #[.int .i64 0, .slice none 0 0] 28
    (try simp only [World.size_alloc] at this)
    exact this
  have SZ : Hid (((w.alloc (.cells #[.int .i64 (cap : Int), .slice Q n c] 28)).alloc (.cells #[.int .i64 0, .slice none 0 0] 28)).heap.size = w.heap.size + 2) := by show _ = _; simp
  clear SZ
  unfold nv at *
  go_enter Try.func31, Try.ntmps31
  go_wp2_with (first | (go_at_call 53; refine ((HH _).out).mono ?_; rintro e w2 ⟨rfl, hb⟩; have L2 := Lib.hid (L1.out.trans (hb.mono L1.out.size)); have X2 := Lib.hid (Cells.below X1.out hb); have Z2 := Lib.hid (Cells.below Z1.out hb); obtain ⟨k0, k1⟩ := NBox.cells X2.out; obtain ⟨z0, z1⟩ := NBox.cells Z2.out; have f0 := Cells.frozen Z2.out 0; have f1 := Cells.frozen Z2.out 1; clear hb) | fail)
  refine bodyPost_ret_by (results_c1 rfl _ _ (w.heap.size + 1) _ _ _ _ rfl (Cells.set2 Z2.out (.int .i64 0) (.slice none 0 0)) Try.underlying28 rfl (by kernel_rfl)) rfl ?_
  exact ⟨rfl, L2.out.trans ((Mov.set2 _ _ _ _).up L2.out.size (by omega))⟩

set_option maxRecDepth 100000 in
set_option maxHeartbeats 3200000 in
theorem double_long {cap : Nat} {Q : Option Addr} {n c : Nat} {i : Int} (hi : hasB n i = true) (hr : ¬ n < cap) (w : World) :
    Calls Try.prog 31 #[nv cap Q n c, .int .i64 i] w fun e w' => e = .returned (.tuple #[nv 0 none 0 0, .int .i64 2]) ∧ Below w.heap.size w w' := by
  have HH := fun W => Lib.hid (has_any cap Q n c i W)
  have HR := fun W => Lib.hid (hasRoom_any cap Q n c W)
  rw [show decide (n < cap) = false from decide_eq_false hr] at HR
  rw [hi] at HH
  have L1 : Hid (Below w.heap.size w ((w.alloc (.cells #[.int .i64 (cap : Int), .slice Q n c] 28)).alloc (.cells #[.int .i64 0, .slice none 0 0] 28))) := (((Below.refl _ w).alloc (by first | exact Nat.le_refl _ | (simp; try omega)) _).alloc (by first | exact Nat.le_refl _ | (simp; try omega)) _)
  have X1 : Hid (Cells ((w.alloc (.cells #[.int .i64 (cap : Int), .slice Q n c] 28)).alloc (.cells #[.int .i64 0, .slice none 0 0] 28)) (w.heap.size) 28 #[.int .i64 (cap : Int), .slice Q n c]) := by
    have := Cells.new w #[.int .i64 (cap : Int), .slice Q n c] 28
    (try simp only [World.size_alloc] at this)
    exact (Cells.alloc this _)
  have Z1 : Hid (Cells ((w.alloc (.cells #[.int .i64 (cap : Int), .slice Q n c] 28)).alloc (.cells #[.int .i64 0, .slice none 0 0] 28)) (w.heap.size + 1) 28 #[.int .i64 0, .slice none 0 0]) := by
    have := Cells.new (w.alloc (.cells #[.int .i64 (cap : Int), .slice Q n c] 28)) #[.int .i64 0, .slice none 0 0] 28
    (try simp only [World.size_alloc] at this)
    exact this
  have SZ : Hid (((w.alloc (.cells #[.int .i64 (cap : Int), .slice Q n c] 28)).alloc (.cells #[.int .i64 0, .slice none 0 0] 28)).heap.size = w.heap.size + 2) := by show _ = _; simp
  clear SZ
  unfold nv at *
  go_enter Try.func31, Try.ntmps31
  go_wp2_with (first | (go_at_call 53; refine ((HH _).out).mono ?_; rintro e w2 ⟨rfl, hb⟩; have L2 := Lib.hid (L1.out.trans (hb.mono L1.out.size)); have X2 := Lib.hid (Cells.below X1.out hb); have Z2 := Lib.hid (Cells.below Z1.out hb); obtain ⟨k0, k1⟩ := NBox.cells X2.out; clear hb) | (go_at_call 35; refine ((HR _).out).mono ?_; rintro e w3 ⟨rfl, hb⟩; have L3 := Lib.hid (L2.out.trans (hb.mono L2.out.size)); have X3 := Lib.hid (Cells.below X2.out hb); have Z3 := Lib.hid (Cells.below Z2.out hb); obtain ⟨k0, k1⟩ := NBox.cells X3.out; obtain ⟨z0, z1⟩ := NBox.cells Z3.out; have f0 := Cells.frozen Z3.out 0; have f1 := Cells.frozen Z3.out 1; clear hb k0 k1) | fail)
  refine bodyPost_ret_by (results_c1 rfl _ _ (w.heap.size + 1) _ _ _ _ rfl (Cells.set2 Z3.out (.int .i64 0) (.slice none 0 0)) Try.underlying28 rfl (by kernel_rfl)) rfl ?_
  exact ⟨rfl, L3.out.trans ((Mov.set2 _ _ _ _).up L3.out.size (by omega))⟩

set_option maxRecDepth 100000 in
set_option maxHeartbeats 3200000 in
theorem take_bad {cap : Nat} {Q : Option Addr} {n c : Nat} {i : Int} (hi : hasB n i = false) (w : World) :
    Calls Try.prog 30 #[nv cap Q n c, .int .i64 i] w fun e w' => e = .returned (.tuple #[nv 0 none 0 0, mxv ⟨0, 0, 0, 0, none, 0, 0, [], none, 0, 0, []⟩, .int .i64 4]) ∧ Below w.heap.size w w' := by
  have HH := fun W => Lib.hid (has_any cap Q n c i W)
  rw [hi] at HH
  have L1 : Hid (Below w.heap.size w (((w.alloc (.cells #[.int .i64 (cap : Int), .slice Q n c] 28)).alloc (.cells #[.int .i64 0, .slice none 0 0] 28)).alloc (.cells #[.int .i64 0, .int .i64 0, .int .i64 0, .int .i64 0, .slice none 0 0, .slice none 0 0] 39))) := ((((Below.refl _ w).alloc (by first | exact Nat.le_refl _ | (simp; try omega)) _).alloc (by first | exact Nat.le_refl _ | (simp; try omega)) _).alloc (by first | exact Nat.le_refl _ | (simp; try omega)) _)
  have X1 : Hid (Cells (((w.alloc (.cells #[.int .i64 (cap : Int), .slice Q n c] 28)).alloc (.cells #[.int .i64 0, .slice none 0 0] 28)).alloc (.cells #[.int .i64 0, .int .i64 0, .int .i64 0, .int .i64 0, .slice none 0 0, .slice none 0 0] 39)) (w.heap.size) 28 #[.int .i64 (cap : Int), .slice Q n c]) := by
    have := Cells.new w #[.int .i64 (cap : Int), .slice Q n c] 28
    (try simp only [World.size_alloc] at this)
    exact (Cells.alloc (Cells.alloc this _) _)
  have Z1 : Hid (Cells (((w.alloc (.cells #[.int .i64 (cap : Int), .slice Q n c] 28)).alloc (.cells #[.int .i64 0, .slice none 0 0] 28)).alloc (.cells #[.int .i64 0, .int .i64 0, .int .i64 0, .int .i64 0, .slice none 0 0, .slice none 0 0] 39)) (w.heap.size + 1) 28 #[.int .i64 0, .slice none 0 0]) := by
    have := Cells.new (w.alloc (.cells #[.int .i64 (cap : Int), .slice Q n c] 28)) #[.int .i64 0, .slice none 0 0] 28
    (try simp only [World.size_alloc] at this)
    exact (Cells.alloc this _)
  have Y1 : Hid (Cells (((w.alloc (.cells #[.int .i64 (cap : Int), .slice Q n c] 28)).alloc (.cells #[.int .i64 0, .slice none 0 0] 28)).alloc (.cells #[.int .i64 0, .int .i64 0, .int .i64 0, .int .i64 0, .slice none 0 0, .slice none 0 0] 39)) (w.heap.size + 2) 39 #[.int .i64 0, .int .i64 0, .int .i64 0, .int .i64 0, .slice none 0 0, .slice none 0 0]) := by
    have := Cells.new ((w.alloc (.cells #[.int .i64 (cap : Int), .slice Q n c] 28)).alloc (.cells #[.int .i64 0, .slice none 0 0] 28)) #[.int .i64 0, .int .i64 0, .int .i64 0, .int .i64 0, .slice none 0 0, .slice none 0 0] 39
    (try simp only [World.size_alloc] at this)
    exact this
  have SZ : Hid ((((w.alloc (.cells #[.int .i64 (cap : Int), .slice Q n c] 28)).alloc (.cells #[.int .i64 0, .slice none 0 0] 28)).alloc (.cells #[.int .i64 0, .int .i64 0, .int .i64 0, .int .i64 0, .slice none 0 0, .slice none 0 0] 39)).heap.size = w.heap.size + 3) := by show _ = _; simp
  clear SZ
  unfold nv mxv at *
  go_enter Try.func30, Try.ntmps30
  go_wp2_with (first | (go_at_call 53; refine ((HH _).out).mono ?_; rintro e w2 ⟨rfl, hb⟩; have L2 := Lib.hid (L1.out.trans (hb.mono L1.out.size)); have X2 := Lib.hid (Cells.below X1.out hb); have Z2 := Lib.hid (Cells.below Z1.out hb); have Y2 := Lib.hid (Cells.below Y1.out hb); obtain ⟨k0, k1⟩ := NBox.cells X2.out; obtain ⟨z0, z1⟩ := NBox.cells Z2.out; have f0 := Cells.frozen Z2.out 0; have f1 := Cells.frozen Z2.out 1; obtain ⟨q0, q1, q2, q3, q4, q5⟩ := six_free Y2.out; obtain ⟨s0, s1, s2, s3, s4, s5⟩ := MBox.cells (x := ⟨0, 0, 0, 0, none, 0, 0, [], none, 0, 0, []⟩) Y2.out; dsimp only at s0 s1 s2 s3 s4 s5; clear hb) | fail)
  have b1 := Mov.set2 w2 (w.heap.size + 1) (.int .i64 0) (.slice none 0 0)
  have HZ := Cells.set2 Z2.out (.int .i64 0) (.slice none 0 0)
  have HY := Cells.mov Y2.out b1 (by simp)
  have b2 := Mov.set6 ((w2.setCell ⟨w.heap.size + 1, 0, none⟩ (.int .i64 0)).setCell ⟨w.heap.size + 1, 1, none⟩ (.slice none 0 0)) (w.heap.size + 2) (.int .i64 0) (.int .i64 0) (.int .i64 0) (.int .i64 0) (.slice none 0 0) (.slice none 0 0)
  refine bodyPost_ret_by (results_cc1 rfl _ _ (w.heap.size + 1) (w.heap.size + 2) _ _ _ _ _ _ _ _ rfl (Cells.mov HZ b2 (by simp)) Try.underlying28 rfl (by kernel_rfl) rfl (Cells.set6 HY (.int .i64 0) (.int .i64 0) (.int .i64 0) (.int .i64 0) (.slice none 0 0) (.slice none 0 0)) Try.underlying39 rfl (by kernel_rfl)) rfl ?_
  exact ⟨rfl, (L2.out.trans (b1.up L2.out.size (by omega))).trans (b2.up (by simpa using L2.out.size) (by omega))⟩

/-- What Take gave: a net of its own, a message of its own apart from it. -/
def GaveT (w : World) (cap : Nat) (pl : List Mp) (p : Mp) (e : Ending) (w' : World) : Prop :=
  ∃ Q n c l y, e = .returned (.tuple #[nv cap Q n c, mxv y, .int .i64 0]) ∧ OwnN w.heap.size w.heap.size w' (.slice Q n c) n l ∧ l.map Mx.p = pl ∧ y.p = p ∧ MAt w' y ∧ New w.heap.size y ∧ Owns cb 5 w.heap.size w' (.slice y.B y.m y.d) y.m y.x ∧
    (∀ q, Bl y q → (Value.slice Q n c).ownBlock ≠ some q ∧ ∀ x ∈ l, ¬ Bl x q) ∧ Below w.heap.size w w'
set_option maxRecDepth 100000 in
set_option maxHeartbeats 6400000 in
theorem take_ok {w : World} {cap : Nat} {Q : Option Addr} {n c : Nat} {l : List Mx} (h : NetAt w Q n c l) (hn : n ≤ 5000) {j : Nat} {x : Mx} (hx : l[j]? = some x) :
    Calls Try.prog 30 #[nv cap Q n c, .int .i64 (j : Int)] w (GaveT w cap ((l.map Mx.p).eraseIdx j) x.p) := by
  have HN := Lib.hid h
  have hlen := h.row.len
  have hj : j < n := by rw [← hlen]; exact (List.getElem?_eq_some_iff.1 hx).1
  have HPK : Hid (pickP (l.map Mx.p) (placesP n (fun i => (i : Int) != (j : Int))) = (l.map Mx.p).eraseIdx j) := by
    show _ = _
    have hl : (l.map Mx.p).length = n := by rw [List.length_map, hlen]
    rw [← hl]
    exact pick_others _ _
  have HLT : Hid (∀ i ∈ placesP n (fun i => (i : Int) != (j : Int)), i < n) := fun i hi => places_lt hi
  have HAT : Hid ((placesP n (fun i => (i : Int) != (j : Int))).length ≤ n) := places_len n _
  have HH := fun W => Lib.hid (has_any cap Q n c (j : Int) W)
  have hhb : hasB n (j : Int) = true := by unfold hasB; simp; omega
  rw [hhb] at HH
  have HO := fun W => Lib.hid (others_any cap Q n c j (by omega) W)
  obtain ⟨b2, o2, hQ, hb2, hcs⟩ := h.cells hx
  have HC := fun W (h : MAt W x) => Lib.hid (cloned_any h)
  have HXM := Lib.hid (h.at_ x (List.mem_of_getElem? hx))
  have HCS := Lib.hid hcs
  generalize placesP n (fun i => (i : Int) != (j : Int)) = ats at *
  have HP := fun W (hW : Below w.heap.size w W) X m e (ha : Row ci W X m e (asInts ats)) (hm : m ≤ 1000000) => Lib.hid (picked_any (cap := cap) (HN.out.below hW) ha HLT.out hm)
  subst hQ
  have L1 : Hid (Below w.heap.size w (((w.alloc (.cells #[.int .i64 (cap : Int), .slice (some ⟨b2, o2, none⟩) n c] 28)).alloc (.cells #[.int .i64 0, .slice none 0 0] 28)).alloc (.cells #[.int .i64 0, .int .i64 0, .int .i64 0, .int .i64 0, .slice none 0 0, .slice none 0 0] 39))) := ((((Below.refl _ w).alloc (by first | exact Nat.le_refl _ | (simp; try omega)) _).alloc (by first | exact Nat.le_refl _ | (simp; try omega)) _).alloc (by first | exact Nat.le_refl _ | (simp; try omega)) _)
  have X1 : Hid (Cells (((w.alloc (.cells #[.int .i64 (cap : Int), .slice (some ⟨b2, o2, none⟩) n c] 28)).alloc (.cells #[.int .i64 0, .slice none 0 0] 28)).alloc (.cells #[.int .i64 0, .int .i64 0, .int .i64 0, .int .i64 0, .slice none 0 0, .slice none 0 0] 39)) (w.heap.size) 28 #[.int .i64 (cap : Int), .slice (some ⟨b2, o2, none⟩) n c]) := by
    have := Cells.new w #[.int .i64 (cap : Int), .slice (some ⟨b2, o2, none⟩) n c] 28
    (try simp only [World.size_alloc] at this)
    exact (Cells.alloc (Cells.alloc this _) _)
  have Z1 : Hid (Cells (((w.alloc (.cells #[.int .i64 (cap : Int), .slice (some ⟨b2, o2, none⟩) n c] 28)).alloc (.cells #[.int .i64 0, .slice none 0 0] 28)).alloc (.cells #[.int .i64 0, .int .i64 0, .int .i64 0, .int .i64 0, .slice none 0 0, .slice none 0 0] 39)) (w.heap.size + 1) 28 #[.int .i64 0, .slice none 0 0]) := by
    have := Cells.new (w.alloc (.cells #[.int .i64 (cap : Int), .slice (some ⟨b2, o2, none⟩) n c] 28)) #[.int .i64 0, .slice none 0 0] 28
    (try simp only [World.size_alloc] at this)
    exact (Cells.alloc this _)
  have Y1 : Hid (Cells (((w.alloc (.cells #[.int .i64 (cap : Int), .slice (some ⟨b2, o2, none⟩) n c] 28)).alloc (.cells #[.int .i64 0, .slice none 0 0] 28)).alloc (.cells #[.int .i64 0, .int .i64 0, .int .i64 0, .int .i64 0, .slice none 0 0, .slice none 0 0] 39)) (w.heap.size + 2) 39 #[.int .i64 0, .int .i64 0, .int .i64 0, .int .i64 0, .slice none 0 0, .slice none 0 0]) := by
    have := Cells.new ((w.alloc (.cells #[.int .i64 (cap : Int), .slice (some ⟨b2, o2, none⟩) n c] 28)).alloc (.cells #[.int .i64 0, .slice none 0 0] 28)) #[.int .i64 0, .int .i64 0, .int .i64 0, .int .i64 0, .slice none 0 0, .slice none 0 0] 39
    (try simp only [World.size_alloc] at this)
    exact this
  have SZ : Hid ((((w.alloc (.cells #[.int .i64 (cap : Int), .slice (some ⟨b2, o2, none⟩) n c] 28)).alloc (.cells #[.int .i64 0, .slice none 0 0] 28)).alloc (.cells #[.int .i64 0, .int .i64 0, .int .i64 0, .int .i64 0, .slice none 0 0, .slice none 0 0] 39)).heap.size = w.heap.size + 3) := by show _ = _; simp
  have hi0 : (0 : Int) ≤ (j : Int) := by omega
  have hi1 : (j : Int) < (n : Int) := by omega
  clear h hx hhb hlen hcs SZ
  unfold nv at *
  go_enter Try.func30, Try.ntmps30
  go_upto_region 3 with (first | (go_at_call 53; refine ((HH _).out).mono ?_; rintro e w2 ⟨rfl, hb⟩; have L2 := Lib.hid (L1.out.trans (hb.mono L1.out.size)); have X2 := Lib.hid (Cells.below X1.out hb); have Z2 := Lib.hid (Cells.below Z1.out hb); have Y2 := Lib.hid (Cells.below Y1.out hb); obtain ⟨k0, k1⟩ := NBox.cells X2.out; clear hb) | fail)
  clear L1 X1 Z1 Y1 HH k0 k1
  have L3 := Lib.hid L2.out.drew
  have X3 := Lib.hid (Cells.below X2.out ((Below.refl _ w2).drew))
  have Z3 := Lib.hid (Cells.below Z2.out ((Below.refl _ w2).drew))
  have Y3 := Lib.hid (Cells.below Y2.out ((Below.refl _ w2).drew))
  refine wp_region_held_drew (S := fun W => W.cell? ⟨w.heap.size, 0, none⟩ = some (.int .i64 (cap : Int)) ∧ W.cell? ⟨w.heap.size, 1, none⟩ = some (.slice (some ⟨b2, o2, none⟩) n c) ∧ W.cell? ⟨b2, o2 + j * 6, none⟩ = some (.int .i64 x.k) ∧ W.cell? ⟨b2, o2 + j * 6 + 1, none⟩ = some (.int .i64 x.f) ∧ W.cell? ⟨b2, o2 + j * 6 + 2, none⟩ = some (.int .i64 x.t) ∧ W.cell? ⟨b2, o2 + j * 6 + 3, none⟩ = some (.int .i64 x.i) ∧ W.cell? ⟨b2, o2 + j * 6 + 4, none⟩ = some (.slice x.A x.n x.c) ∧ W.cell? ⟨b2, o2 + j * 6 + 5, none⟩ = some (.slice x.B x.m x.d)) (by kernel_rfl) (And.intro (NBox.cells X3.out).1 (And.intro (NBox.cells X3.out).2 (HCS.out _ L3.out))) (fun hHeld => ?_)
  generalize w2.drew = w3 at *
  clear L2 X2 Z2 Y2 
  (first | (refine Reg.take 0 (v := ?_) rfl (by kernel_rfl) (by kernel_rfl) (by kernel_rfl) (fun _ _ _ h => h) (Or.inl ⟨by rfl, ?_⟩) (by assumption) ?_; rotate_left; (focus ((intro W hSW); (try dsimp only at hSW); (try go_split_ands); go_simp; (try (with_reducible rfl)); done))) | (refine Reg.take 0 (v := undef) rfl (by kernel_rfl) (by kernel_rfl) (by kernel_rfl) (fun _ _ _ h => h) (Or.inr ⟨by rfl, rfl⟩) (by assumption) ?_))
  (try simp only [Act.put, List.setIfInBounds_toArray, List.set_cons_zero, List.set_cons_succ])
  (first | (refine Reg.take 1 (v := ?_) rfl (by kernel_rfl) (by kernel_rfl) (by kernel_rfl) (fun _ _ _ h => h) (Or.inl ⟨by rfl, ?_⟩) (by assumption) ?_; rotate_left; (focus ((intro W hSW); (try dsimp only at hSW); (try go_split_ands); go_simp; (try (with_reducible rfl)); done))) | (refine Reg.take 1 (v := undef) rfl (by kernel_rfl) (by kernel_rfl) (by kernel_rfl) (fun _ _ _ h => h) (Or.inr ⟨by rfl, rfl⟩) (by assumption) ?_))
  (try simp only [Act.put, List.setIfInBounds_toArray, List.set_cons_zero, List.set_cons_succ])
  (first | (refine Reg.take 2 (v := ?_) rfl (by kernel_rfl) (by kernel_rfl) (by kernel_rfl) (fun _ _ _ h => h) (Or.inl ⟨by rfl, ?_⟩) (by assumption) ?_; rotate_left; (focus ((intro W hSW); (try dsimp only at hSW); (try go_split_ands); go_simp; (try (with_reducible rfl)); done))) | (refine Reg.take 2 (v := undef) rfl (by kernel_rfl) (by kernel_rfl) (by kernel_rfl) (fun _ _ _ h => h) (Or.inr ⟨by rfl, rfl⟩) (by assumption) ?_))
  (try simp only [Act.put, List.setIfInBounds_toArray, List.set_cons_zero, List.set_cons_succ])
  (first | (refine Reg.take 5 (v := ?_) rfl (by kernel_rfl) (by kernel_rfl) (by kernel_rfl) (fun _ _ _ h => h) (Or.inl ⟨by rfl, ?_⟩) (by assumption) ?_; rotate_left; (focus ((intro W hSW); (try dsimp only at hSW); (try go_split_ands); go_simp; (try (with_reducible rfl)); done))) | (refine Reg.take 5 (v := undef) rfl (by kernel_rfl) (by kernel_rfl) (by kernel_rfl) (fun _ _ _ h => h) (Or.inr ⟨by rfl, rfl⟩) (by assumption) ?_))
  (try simp only [Act.put, List.setIfInBounds_toArray, List.set_cons_zero, List.set_cons_succ])
  (first | (refine Reg.take 6 (v := ?_) rfl (by kernel_rfl) (by kernel_rfl) (by kernel_rfl) (fun _ _ _ h => h) (Or.inl ⟨by rfl, ?_⟩) (by assumption) ?_; rotate_left; (focus ((intro W hSW); (try dsimp only at hSW); (try go_split_ands); go_simp; (try (with_reducible rfl)); done))) | (refine Reg.take 6 (v := undef) rfl (by kernel_rfl) (by kernel_rfl) (by kernel_rfl) (fun _ _ _ h => h) (Or.inr ⟨by rfl, rfl⟩) (by assumption) ?_))
  (try simp only [Act.put, List.setIfInBounds_toArray, List.set_cons_zero, List.set_cons_succ])
  (first | (refine Reg.take 7 (v := ?_) rfl (by kernel_rfl) (by kernel_rfl) (by kernel_rfl) (fun _ _ _ h => h) (Or.inl ⟨by rfl, ?_⟩) (by assumption) ?_; rotate_left; (focus ((intro W hSW); (try dsimp only at hSW); (try go_split_ands); go_simp; (try (with_reducible rfl)); done))) | (refine Reg.take 7 (v := undef) rfl (by kernel_rfl) (by kernel_rfl) (by kernel_rfl) (fun _ _ _ h => h) (Or.inr ⟨by rfl, rfl⟩) (by assumption) ?_))
  (try simp only [Act.put, List.setIfInBounds_toArray, List.set_cons_zero, List.set_cons_succ])
  (first | (refine Reg.take 8 (v := ?_) rfl (by kernel_rfl) (by kernel_rfl) (by kernel_rfl) (fun _ _ _ h => h) (Or.inl ⟨by rfl, ?_⟩) (by assumption) ?_; rotate_left; (focus ((intro W hSW); (try dsimp only at hSW); (try go_split_ands); go_simp; (try (with_reducible rfl)); done))) | (refine Reg.take 8 (v := undef) rfl (by kernel_rfl) (by kernel_rfl) (by kernel_rfl) (fun _ _ _ h => h) (Or.inr ⟨by rfl, rfl⟩) (by assumption) ?_))
  (try simp only [Act.put, List.setIfInBounds_toArray, List.set_cons_zero, List.set_cons_succ])
  (first | (refine Reg.take 9 (v := ?_) rfl (by kernel_rfl) (by kernel_rfl) (by kernel_rfl) (fun _ _ _ h => h) (Or.inl ⟨by rfl, ?_⟩) (by assumption) ?_; rotate_left; (focus ((intro W hSW); (try dsimp only at hSW); (try go_split_ands); go_simp; (try (with_reducible rfl)); done))) | (refine Reg.take 9 (v := undef) rfl (by kernel_rfl) (by kernel_rfl) (by kernel_rfl) (fun _ _ _ h => h) (Or.inr ⟨by rfl, rfl⟩) (by assumption) ?_))
  (try simp only [Act.put, List.setIfInBounds_toArray, List.set_cons_zero, List.set_cons_succ])
  refine Reg.step 3 rfl (by kernel_rfl) (by rfl) (fun K hK => ?_)
  go_simp
  refine ((HO _).out).mono ?_
  rintro e w4 ⟨⟨A, a, d, rfl, hO⟩, hb⟩
  have L4 := Lib.hid (L3.out.trans (hb.mono L3.out.size))
  have X4 := Lib.hid (Cells.below X3.out hb)
  have Z4 := Lib.hid (Cells.below Z3.out hb)
  have Y4 := Lib.hid (Cells.below Y3.out hb)
  have AL : a = ats.length := by have := hO.len; rw [Wire.asInts, List.length_map] at this; exact this.symm
  have ha : a ≤ n := by have := HAT.out; omega
  have R4 := Lib.hid (Wire.gave_row hO (by rw [Wire.asInts, List.length_map]; omega)).1
  clear hO AL
  clear hb hHeld HO
  clear L3 X3 Z3 Y3 
  refine hK.out _ _ (And.intro (NBox.cells X4.out).1 (And.intro (NBox.cells X4.out).2 (HCS.out _ L4.out))) (fun hHeld => ?_)
  clear hK K
  (try simp only [Act.put, List.setIfInBounds_toArray, List.set_cons_zero, List.set_cons_succ])
  refine Reg.step 4 rfl (by kernel_rfl) (by rfl) (fun K hK => ?_)
  go_simp
  refine ((HP _ L4.out _ _ _ R4.out (by omega)).out).mono ?_
  rintro e w5 ⟨Q2, n2, c2, l2, rfl, hO, hP, hb⟩
  have L5 := Lib.hid (L4.out.trans (hb.mono L4.out.size))
  have X5 := Lib.hid (Cells.below X4.out hb)
  have Z5 := Lib.hid (Cells.below Z4.out hb)
  have Y5 := Lib.hid (Cells.below Y4.out hb)
  have R5 := Lib.hid (Row.below R4.out hb)
  have N5 := Lib.hid ((hO.lower L4.out.size).base_ L4.out.size)
  have NZ : Hid (∀ x ∈ l2, ∀ q, Bl x q → q ≠ w.heap.size + 1 ∧ q ≠ w.heap.size + 2) := fun x hx q hq => by have h1 := hO.low x hx q hq; have h2 := Cells.lt Z4.out; have h3 := Cells.lt Y4.out; omega
  have NB : Hid ((Value.slice Q2 n2 c2).ownBlock ≠ some (w.heap.size + 2)) := fun e => by have h1 := (hO.own.lt _ e).1; have h2 := Cells.lt Y4.out; omega
  have LP := Lib.hid hP
  unfold nv
  clear hO hP
  clear hb hHeld HP
  clear L4 X4 Z4 Y4 R4 
  clear R5
  refine hK.out _ _ (And.intro (NBox.cells X5.out).1 (And.intro (NBox.cells X5.out).2 (HCS.out _ L5.out))) (fun hHeld => ?_)
  clear hK K
  (try simp only [Act.put, List.setIfInBounds_toArray, List.set_cons_zero, List.set_cons_succ])
  refine Reg.step 10 rfl (by kernel_rfl) (by rfl) (fun K hK => ?_)
  go_simp
  refine ((HC _ (HXM.out.below L5.out)).out).mono ?_
  rintro e w6 ⟨y, rfl, hy, hya, hyn, hb, hyo⟩
  have L6 := Lib.hid (L5.out.trans (hb.mono L5.out.size))
  have X6 := Lib.hid (Cells.below X5.out hb)
  have Z6 := Lib.hid (Cells.below Z5.out hb)
  have Y6 := Lib.hid (Cells.below Y5.out hb)
  have N6 := Lib.hid (OwnN.below N5.out hb)
  have M6 := Lib.hid hya
  have O6 := Lib.hid (hyo.mono L5.out.size)
  have YP := Lib.hid hy
  have YN := Lib.hid (hyn.mono L5.out.size)
  have YZ : Hid (∀ q, Bl y q → q ≠ w.heap.size + 1 ∧ q ≠ w.heap.size + 2) := fun q hq => by have h1 := hyn q hq; have h2 := Cells.lt Z5.out; have h3 := Cells.lt Y5.out; omega
  have YAP : Hid (∀ q, Bl y q → (Value.slice Q2 n2 c2).ownBlock ≠ some q ∧ ∀ x ∈ l2, ¬ Bl x q) := fun q hq => ⟨fun e => by have h1 := hyn q hq; have h2 := (N5.out.own.lt q e).2; omega, fun x hx hxq => by have h1 := hyn q hq; have h2 := (N5.out.at_ x hx).lt hxq; omega⟩
  unfold mxv
  clear hy hya hyn hyo
  clear hb hHeld HC
  clear L5 X5 Z5 Y5 N5 
  refine hK.out _ _ (And.intro (NBox.cells X6.out).1 (And.intro (NBox.cells X6.out).2 (HCS.out _ L6.out))) (fun hHeld => ?_)
  clear hK K
  (try simp only [Act.put, List.setIfInBounds_toArray, List.set_cons_zero, List.set_cons_succ])
  have y0 := Cells.cell Z6.out 0
  have f0 := Cells.frozen Z6.out 0
  have y1 := Cells.cell Z6.out 1
  have f1 := Cells.frozen Z6.out 1
  refine Reg.step 11 rfl (by kernel_rfl) (by rfl) (fun K hK => ?_)
  go_simp
  have bt : Mov [w.heap.size + 1] w6 ((w6.setCell ⟨w.heap.size + 1, 0, none⟩ (.int .i64 (cap : Int))).setCell ⟨w.heap.size + 1, 1, none⟩ (.slice Q2 n2 c2)) := Mov.set2 _ _ _ _
  have L7 := Lib.hid (L6.out.trans (bt.up L6.out.size (by omega)))
  have X7 := Lib.hid (Cells.mov X6.out bt (by simp; try omega))
  have Z7 : Hid (Cells ((w6.setCell ⟨w.heap.size + 1, 0, none⟩ (.int .i64 (cap : Int))).setCell ⟨w.heap.size + 1, 1, none⟩ (.slice Q2 n2 c2)) (w.heap.size + 1) 28 #[.int .i64 (cap : Int), .slice Q2 n2 c2]) := Cells.set2 Z6.out _ _
  have Y7 := Lib.hid (Cells.mov Y6.out bt (by simp; try omega))
  have N7 := Lib.hid (N6.out.mov Z6.out (by decide) (fun x hx q hq => (NZ.out x hx q hq).1) bt)
  have M7 := Lib.hid (M6.out.keepB bt.size (fun q hq => bt.block q (M6.out.lt hq) (by simpa using (YZ.out q hq).1)))
  have O7 := Lib.hid (owns_mov O6.out Z6.out (by decide) bt)
  clear bt hHeld y0 f0 y1 f1
  clear L6 X6 Z6 Y6 N6 M6 O6 
  generalize (w6.setCell ⟨w.heap.size + 1, 0, none⟩ (.int .i64 (cap : Int))).setCell ⟨w.heap.size + 1, 1, none⟩ (.slice Q2 n2 c2) = w7 at *
  refine hK.out _ _ (And.intro (NBox.cells X7.out).1 (And.intro (NBox.cells X7.out).2 (HCS.out _ L7.out))) (fun hHeld => ?_)
  clear hK K
  (try simp only [Act.put, List.setIfInBounds_toArray, List.set_cons_zero, List.set_cons_succ])
  have y0 := Cells.cell Y7.out 0
  have f0 := Cells.frozen Y7.out 0
  have y1 := Cells.cell Y7.out 1
  have f1 := Cells.frozen Y7.out 1
  have y2 := Cells.cell Y7.out 2
  have f2 := Cells.frozen Y7.out 2
  have y3 := Cells.cell Y7.out 3
  have f3 := Cells.frozen Y7.out 3
  have y4 := Cells.cell Y7.out 4
  have f4 := Cells.frozen Y7.out 4
  have y5 := Cells.cell Y7.out 5
  have f5 := Cells.frozen Y7.out 5
  refine Reg.step 12 rfl (by kernel_rfl) (by rfl) (fun K hK => ?_)
  go_simp
  have bt : Mov [w.heap.size + 2] w7 ((((((w7.setCell ⟨w.heap.size + 2, 0, none⟩ (.int .i64 y.k)).setCell ⟨w.heap.size + 2, 1, none⟩ (.int .i64 y.f)).setCell ⟨w.heap.size + 2, 2, none⟩ (.int .i64 y.t)).setCell ⟨w.heap.size + 2, 3, none⟩ (.int .i64 y.i)).setCell ⟨w.heap.size + 2, 4, none⟩ (.slice y.A y.n y.c)).setCell ⟨w.heap.size + 2, 5, none⟩ (.slice y.B y.m y.d)) := Mov.set6 _ _ _ _ _ _ _ _
  have L8 := Lib.hid (L7.out.trans (bt.up L7.out.size (by omega)))
  have X8 := Lib.hid (Cells.mov X7.out bt (by simp; try omega))
  have Z8 := Lib.hid (Cells.mov Z7.out bt (by simp; try omega))
  have Y8 : Hid (Cells ((((((w7.setCell ⟨w.heap.size + 2, 0, none⟩ (.int .i64 y.k)).setCell ⟨w.heap.size + 2, 1, none⟩ (.int .i64 y.f)).setCell ⟨w.heap.size + 2, 2, none⟩ (.int .i64 y.t)).setCell ⟨w.heap.size + 2, 3, none⟩ (.int .i64 y.i)).setCell ⟨w.heap.size + 2, 4, none⟩ (.slice y.A y.n y.c)).setCell ⟨w.heap.size + 2, 5, none⟩ (.slice y.B y.m y.d)) (w.heap.size + 2) 39 #[.int .i64 y.k, .int .i64 y.f, .int .i64 y.t, .int .i64 y.i, .slice y.A y.n y.c, .slice y.B y.m y.d]) := Cells.set6 Y7.out _ _ _ _ _ _
  have N8 := Lib.hid (N7.out.mov_ (NB.out) (fun x hx q hq => (NZ.out x hx q hq).2) bt)
  have M8 := Lib.hid (M7.out.keepB bt.size (fun q hq => bt.block q (M7.out.lt hq) (by simpa using (YZ.out q hq).2)))
  have O8 := Lib.hid (owns_mov O7.out Y7.out (by decide) bt)
  clear bt hHeld y0 f0 y1 f1 y2 f2 y3 f3 y4 f4 y5 f5
  clear L7 X7 Z7 Y7 N7 M7 O7 
  generalize (((((w7.setCell ⟨w.heap.size + 2, 0, none⟩ (.int .i64 y.k)).setCell ⟨w.heap.size + 2, 1, none⟩ (.int .i64 y.f)).setCell ⟨w.heap.size + 2, 2, none⟩ (.int .i64 y.t)).setCell ⟨w.heap.size + 2, 3, none⟩ (.int .i64 y.i)).setCell ⟨w.heap.size + 2, 4, none⟩ (.slice y.A y.n y.c)).setCell ⟨w.heap.size + 2, 5, none⟩ (.slice y.B y.m y.d) = w8 at *
  refine hK.out _ _ (And.intro (NBox.cells X8.out).1 (And.intro (NBox.cells X8.out).2 (HCS.out _ L8.out))) (fun hHeld => ?_)
  clear hK K
  (try simp only [Act.put, List.setIfInBounds_toArray, List.set_cons_zero, List.set_cons_succ])
  (first | (refine Reg.take 13 (v := ?_) rfl (by kernel_rfl) (by kernel_rfl) (by kernel_rfl) (fun _ _ _ h => h) (Or.inl ⟨by rfl, ?_⟩) (by assumption) ?_; rotate_left; (focus ((intro W hSW); (try dsimp only at hSW); (try go_split_ands); go_simp; (try (with_reducible rfl)); done))) | (refine Reg.take 13 (v := undef) rfl (by kernel_rfl) (by kernel_rfl) (by kernel_rfl) (fun _ _ _ h => h) (Or.inr ⟨by rfl, rfl⟩) (by assumption) ?_))
  (try simp only [Act.put, List.setIfInBounds_toArray, List.set_cons_zero, List.set_cons_succ])
  refine wpAnyH_done (by kernel_rfl) ?_ _
  clear hHeld
  go_wp2_with fail
  refine bodyPost_ret_by (results_cc1 rfl _ _ (w.heap.size + 1) (w.heap.size + 2) _ _ _ _ _ _ _ _ rfl Z8.out Try.underlying28 rfl (by kernel_rfl) rfl Y8.out Try.underlying39 rfl (by kernel_rfl)) rfl ?_
  exact ⟨Q2, n2, c2, l2, y, rfl, N8.out, by rw [LP.out, HPK.out], YP.out, M8.out, YN.out, O8.out, YAP.out, L8.out⟩
end Net
end Go.Proofs.Ytamahknnppjegaa
