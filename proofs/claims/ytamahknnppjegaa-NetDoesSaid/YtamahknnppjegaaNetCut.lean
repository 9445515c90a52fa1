/-
  WALKS: net.To, net.Cut, net.Drop.
-/
import Derived.Test.YtamahknnppjegaaNetActs
import Derived.BigQuiet
namespace Go.Proofs.Ytamahknnppjegaa
open Go.RowKit Mem Box
namespace Net
open Wire (B8 info_int asInts asInts_append)

theorem below_drew_ (w : World) (n : Nat) : Below w.heap.size w (w.drewN n) := ⟨rfl, rfl, rfl, Nat.le_refl _, fun _ _ => rfl⟩

set_option maxRecDepth 100000 in
set_option maxHeartbeats 1600000 in
theorem to1_any {w : World} {cap : Nat} {Q : Option Addr} {n c : Nat} {l : List Mx} {g q : Nat} {node : Int} (h : NetAt w Q n c l) (hg : NBox w g cap Q n c) (hq : Cells w q 3 #[.int .i64 node]) :
    PredI n 45 #[.pointer (some ⟨g, 0, none⟩), .pointer (some ⟨q, 0, none⟩)] (fun i => (l[i]?).any fun x => x.t == node) w := by
  intro W i hi hb
  obtain ⟨x, hx, hxm⟩ := h.get hi
  obtain ⟨b2, o2, rfl, hb2, hcs⟩ := h.cells hx
  have HE : Hid ((l[i]?).any (fun x => x.t == node) = (x.t == node)) := by show _ = _; rw [hx]; rfl
  have k1 := (NBox.cells (Cells.below hg hb)).2
  have q0 := Cells.cell (Cells.below hq hb) 0
  obtain ⟨c0, c1, c2, c3, c4, c5⟩ := hcs W hb
  have hi0 : (0 : Int) ≤ (i : Int) := by omega
  have hi1 : (i : Int) < (n : Int) := by omega
  clear h hg hq hx hxm hcs hb2 hi hb
  go_enter Try.func45, Try.ntmps45
  go_wp2_with fail
  go_big_quiet (fail)
  go_wp2_with fail
  go_ret
  exact ⟨by show Ending.returned _ = Ending.returned (.bool ((l[i]?).any _)); rw [HE.out]; rfl, below_drew_ W _⟩

set_option maxRecDepth 100000 in
set_option maxHeartbeats 1600000 in
theorem cut1_any {w : World} {cap : Nat} {Q : Option Addr} {n c : Nat} {l : List Mx} {g q : Nat} {node : Int} (h : NetAt w Q n c l) (hg : NBox w g cap Q n c) (hq : Cells w q 3 #[.int .i64 node]) :
    PredI n 55 #[.pointer (some ⟨g, 0, none⟩), .pointer (some ⟨q, 0, none⟩)] (fun i => (l[i]?).any fun x => x.f != node && x.t != node) w := by
  intro W i hi hb
  obtain ⟨x, hx, hxm⟩ := h.get hi
  obtain ⟨b2, o2, rfl, hb2, hcs⟩ := h.cells hx
  have HE : Hid ((l[i]?).any (fun x => x.f != node && x.t != node) = (x.f != node && x.t != node)) := by show _ = _; rw [hx]; rfl
  have k1 := (NBox.cells (Cells.below hg hb)).2
  have q0 := Cells.cell (Cells.below hq hb) 0
  obtain ⟨c0, c1, c2, c3, c4, c5⟩ := hcs W hb
  have hi0 : (0 : Int) ≤ (i : Int) := by omega
  have hi1 : (i : Int) < (n : Int) := by omega
  clear h hg hq hx hxm hcs hb2 hi hb
  rcases e1 : (x.f != node)
  · go_enter Try.func55, Try.ntmps55
    go_wp2_with fail
    go_big_quiet (fail)
    go_wp2_with fail
    go_ret
    exact ⟨by show Ending.returned _ = Ending.returned (.bool ((l[i]?).any _)); rw [HE.out, e1]; rfl, below_drew_ W _⟩
  · go_enter Try.func55, Try.ntmps55
    go_wp2_with fail
    go_big_quiet (fail)
    go_wp2_with fail
    go_ret
    exact ⟨by show Ending.returned _ = Ending.returned (.bool ((l[i]?).any _)); rw [HE.out, e1]; rfl, below_drew_ W _⟩

set_option maxRecDepth 100000 in
set_option maxHeartbeats 3200000 in
theorem to_any {w : World} {cap : Nat} {Q : Option Addr} {n c : Nat} {l : List Mx} (h : NetAt w Q n c l) (hn : n ≤ 5000) (node : Int) :
    Calls Try.prog 21 #[nv cap Q n c, .int .i64 node] w (GaveP (toP (l.map Mx.p) node) w) := by
  have eg : ∀ args w, (callFunc 45 args).run Try.prog w = .ok (.enter 45 args) w := enters_of Try.func45 (by kernel_rfl) rfl
  have HE : Hid (placesP n (fun i => (l[i]?).any fun x => x.t == node) = toP (l.map Mx.p) node) := by
    show _ = _
    unfold toP
    rw [List.length_map, h.row.len]
    congr 1
    funext i
    rw [any_map]; rfl
  have HP := fun W g q (h : NetAt W Q n c l) (hg : NBox W g cap Q n c) (hq : Cells W q 3 #[.int .i64 node]) => Lib.hid (places_any (w := W) cap Q c (by omega) 45 #[.pointer (some ⟨g, 0, none⟩), .pointer (some ⟨q, 0, none⟩)] eg _ (to1_any h hg hq))
  have L1 : Hid (Below w.heap.size w ((w.alloc (.cells #[.int .i64 (cap : Int), .slice Q n c] 28)).alloc (.cells #[.int .i64 node] 3))) := (((Below.refl _ w).alloc (by first | exact Nat.le_refl _ | (simp; try omega)) _).alloc (by first | exact Nat.le_refl _ | (simp; try omega)) _)
  have X1 : Hid (Cells ((w.alloc (.cells #[.int .i64 (cap : Int), .slice Q n c] 28)).alloc (.cells #[.int .i64 node] 3)) (w.heap.size) 28 #[.int .i64 (cap : Int), .slice Q n c]) := by
    have := Cells.new w #[.int .i64 (cap : Int), .slice Q n c] 28
    (try simp only [World.size_alloc] at this)
    exact (Cells.alloc this _)
  have Q1 : Hid (Cells ((w.alloc (.cells #[.int .i64 (cap : Int), .slice Q n c] 28)).alloc (.cells #[.int .i64 node] 3)) (w.heap.size + 1) 3 #[.int .i64 node]) := by
    have := Cells.new (w.alloc (.cells #[.int .i64 (cap : Int), .slice Q n c] 28)) #[.int .i64 node] 3
    (try simp only [World.size_alloc] at this)
    exact this
  have SZ : Hid (((w.alloc (.cells #[.int .i64 (cap : Int), .slice Q n c] 28)).alloc (.cells #[.int .i64 node] 3)).heap.size = w.heap.size + 2) := by show _ = _; simp
  have HN := Lib.hid (h.below (((Below.refl _ w).alloc (Nat.le_refl _) (.cells #[.int .i64 (cap : Int), .slice Q n c] 28)).alloc (by simp) (.cells #[.int .i64 node] 3)))
  clear h eg SZ
  unfold nv at *
  go_enter Try.func21, Try.ntmps21
  go_wp2_with (go_at_call 44; refine (HP _ _ _ HN.out X1.out Q1.out).out.mono ?_; rintro e w2 ⟨⟨X, k, d, rfl, hO⟩, hb⟩; have L2 := Lib.hid (L1.out.trans (hb.mono L1.out.size)); have O2 := Lib.hid (hO.mono L1.out.size); clear hb hO)
  go_ret
  exact ⟨⟨_, _, _, rfl, by rw [← HE.out]; exact O2.out⟩, L2.out⟩
set_option maxRecDepth 100000 in
set_option maxHeartbeats 6400000 in
theorem cut_any {w : World} {cap : Nat} {Q : Option Addr} {n c : Nat} {l : List Mx} (h : NetAt w Q n c l) (hn : n ≤ 5000) (node : Int) :
    Calls Try.prog 33 #[nv cap Q n c, .int .i64 node] w (GaveN1 w cap ((l.map Mx.p).filter (offB node)) ((n : Int) - (((l.map Mx.p).filter (offB node)).length : Nat))) := by
  have eg : ∀ args w, (callFunc 55 args).run Try.prog w = .ok (.enter 55 args) w := enters_of Try.func55 (by kernel_rfl) rfl
  have HE : pickP (l.map Mx.p) (placesP n (fun i => (l[i]?).any fun x => x.f != node && x.t != node)) = (l.map Mx.p).filter (offB node) := by
    rw [← pick_filter, List.length_map, h.row.len]
    congr 2
    funext i
    rw [any_map]; rfl
  have HPC := fun W g q (h : NetAt W Q n c l) (hg : NBox W g cap Q n c) (hq : Cells W q 3 #[.int .i64 node]) => Lib.hid (places_any (w := W) cap Q c (by omega) 55 #[.pointer (some ⟨g, 0, none⟩), .pointer (some ⟨q, 0, none⟩)] eg _ (cut1_any h hg hq))
  have HLT : Hid (∀ i ∈ placesP n (fun i => (l[i]?).any fun x => x.f != node && x.t != node), i < n) := fun i hi => places_lt hi
  have HAT : Hid ((placesP n (fun i => (l[i]?).any fun x => x.f != node && x.t != node)).length ≤ n) := places_len n _
  have HLE : Hid (((l.map Mx.p).filter (offB node)).length = (placesP n (fun i => (l[i]?).any fun x => x.f != node && x.t != node)).length) := by
    show _ = _
    rw [← HE]
    unfold pickP
    rw [List.length_filterMap_eq_countP, List.countP_eq_length]
    intro i hi
    have hin := places_lt hi
    rw [List.getElem?_map]
    obtain ⟨x, hx⟩ := h.row.get hin
    rw [hx]; rfl
  have HPK := Lib.hid HE
  clear HE
  generalize placesP n (fun i => (l[i]?).any fun x => x.f != node && x.t != node) = ats at *
  have HH := Lib.hid h
  have HPI := fun W (hW : Below w.heap.size w W) X m e (ha : Row ci W X m e (asInts ats)) (hm : m ≤ 1000000) => Lib.hid (picked_any (cap := cap) (HH.out.below hW) ha HLT.out hm)
  have L1 : Hid (Below w.heap.size w (((w.alloc (.cells #[.int .i64 (cap : Int), .slice Q n c] 28)).alloc (.cells #[.int .i64 node] 3)).alloc (.cells #[.int .i64 0, .slice none 0 0] 28))) := ((((Below.refl _ w).alloc (by first | exact Nat.le_refl _ | (simp; try omega)) _).alloc (by first | exact Nat.le_refl _ | (simp; try omega)) _).alloc (by first | exact Nat.le_refl _ | (simp; try omega)) _)
  have X1 : Hid (Cells (((w.alloc (.cells #[.int .i64 (cap : Int), .slice Q n c] 28)).alloc (.cells #[.int .i64 node] 3)).alloc (.cells #[.int .i64 0, .slice none 0 0] 28)) (w.heap.size) 28 #[.int .i64 (cap : Int), .slice Q n c]) := by
    have := Cells.new w #[.int .i64 (cap : Int), .slice Q n c] 28
    (try simp only [World.size_alloc] at this)
    exact (Cells.alloc (Cells.alloc this _) _)
  have Q1 : Hid (Cells (((w.alloc (.cells #[.int .i64 (cap : Int), .slice Q n c] 28)).alloc (.cells #[.int .i64 node] 3)).alloc (.cells #[.int .i64 0, .slice none 0 0] 28)) (w.heap.size + 1) 3 #[.int .i64 node]) := by
    have := Cells.new (w.alloc (.cells #[.int .i64 (cap : Int), .slice Q n c] 28)) #[.int .i64 node] 3
    (try simp only [World.size_alloc] at this)
    exact (Cells.alloc this _)
  have Z1 : Hid (Cells (((w.alloc (.cells #[.int .i64 (cap : Int), .slice Q n c] 28)).alloc (.cells #[.int .i64 node] 3)).alloc (.cells #[.int .i64 0, .slice none 0 0] 28)) (w.heap.size + 2) 28 #[.int .i64 0, .slice none 0 0]) := by
    have := Cells.new ((w.alloc (.cells #[.int .i64 (cap : Int), .slice Q n c] 28)).alloc (.cells #[.int .i64 node] 3)) #[.int .i64 0, .slice none 0 0] 28
    (try simp only [World.size_alloc] at this)
    exact this
  have SZ : Hid ((((w.alloc (.cells #[.int .i64 (cap : Int), .slice Q n c] 28)).alloc (.cells #[.int .i64 node] 3)).alloc (.cells #[.int .i64 0, .slice none 0 0] 28)).heap.size = w.heap.size + 3) := by show _ = _; simp
  have HN := Lib.hid (h.below ((((Below.refl _ w).alloc (Nat.le_refl _) (.cells #[.int .i64 (cap : Int), .slice Q n c] 28)).alloc (by simp) (.cells #[.int .i64 node] 3)).alloc (by simp; omega) (.cells #[.int .i64 0, .slice none 0 0] 28)))
  clear h eg SZ
  unfold nv at *
  go_enter Try.func33, Try.ntmps33
  go_upto_region 2 with (first | (go_at_call 44; refine (HPC _ _ _ HN.out X1.out Q1.out).out.mono ?_; rintro e w2 ⟨⟨A, a, d, rfl, hO⟩, hb⟩; have L2 := Lib.hid (L1.out.trans (hb.mono L1.out.size)); have X2 := Lib.hid (Cells.below X1.out hb); have Z2 := Lib.hid (Cells.below Z1.out hb); have AL : a = ats.length := (by have := hO.len; rw [Wire.asInts, List.length_map] at this; exact this.symm); have ha : a ≤ n := (by have := HAT.out; omega); have R2 := Lib.hid (Wire.gave_row hO (by rw [Wire.asInts, List.length_map]; omega)).1; obtain ⟨k0, k1⟩ := NBox.cells X2.out; have HAL := Lib.hid AL; clear hb hO AL) | fail)
  clear L1 X1 Z1 Q1 HPC HN k0 k1
  have L3 := Lib.hid L2.out.drew
  have X3 := Lib.hid (Cells.below X2.out ((Below.refl _ w2).drew))
  have Z3 := Lib.hid (Cells.below Z2.out ((Below.refl _ w2).drew))
  have R3 := Lib.hid (Row.below R2.out ((Below.refl _ w2).drew))
  refine wp_region_held_drew (S := fun W => W.cell? ⟨w.heap.size, 0, none⟩ = some (.int .i64 (cap : Int)) ∧ W.cell? ⟨w.heap.size, 1, none⟩ = some (.slice Q n c)) (by kernel_rfl) (And.intro (NBox.cells X3.out).1 (NBox.cells X3.out).2) (fun hHeld => ?_)
  generalize w2.drew = w3 at *
  clear L2 X2 Z2 R2 
  (first | (refine Reg.take 0 (v := ?_) rfl (by kernel_rfl) (by kernel_rfl) (by kernel_rfl) (fun _ _ _ h => h) (Or.inl ⟨by rfl, ?_⟩) (by assumption) ?_; rotate_left; (focus ((intro W hSW); (try dsimp only at hSW); (try go_split_ands); go_simp; (try (with_reducible rfl)); done))) | (refine Reg.take 0 (v := undef) rfl (by kernel_rfl) (by kernel_rfl) (by kernel_rfl) (fun _ _ _ h => h) (Or.inr ⟨by rfl, rfl⟩) (by assumption) ?_))
  (try simp only [Act.put, List.setIfInBounds_toArray, List.set_cons_zero, List.set_cons_succ])
  (first | (refine Reg.take 1 (v := ?_) rfl (by kernel_rfl) (by kernel_rfl) (by kernel_rfl) (fun _ _ _ h => h) (Or.inl ⟨by rfl, ?_⟩) (by assumption) ?_; rotate_left; (focus ((intro W hSW); (try dsimp only at hSW); (try go_split_ands); go_simp; (try (with_reducible rfl)); done))) | (refine Reg.take 1 (v := undef) rfl (by kernel_rfl) (by kernel_rfl) (by kernel_rfl) (fun _ _ _ h => h) (Or.inr ⟨by rfl, rfl⟩) (by assumption) ?_))
  (try simp only [Act.put, List.setIfInBounds_toArray, List.set_cons_zero, List.set_cons_succ])
  (first | (refine Reg.take 3 (v := ?_) rfl (by kernel_rfl) (by kernel_rfl) (by kernel_rfl) (fun _ _ _ h => h) (Or.inl ⟨by rfl, ?_⟩) (by assumption) ?_; rotate_left; (focus ((intro W hSW); (try dsimp only at hSW); (try go_split_ands); go_simp; (try (with_reducible rfl)); done))) | (refine Reg.take 3 (v := undef) rfl (by kernel_rfl) (by kernel_rfl) (by kernel_rfl) (fun _ _ _ h => h) (Or.inr ⟨by rfl, rfl⟩) (by assumption) ?_))
  (try simp only [Act.put, List.setIfInBounds_toArray, List.set_cons_zero, List.set_cons_succ])
  (first | (refine Reg.take 4 (v := ?_) rfl (by kernel_rfl) (by kernel_rfl) (by kernel_rfl) (fun _ _ _ h => h) (Or.inl ⟨by rfl, ?_⟩) (by assumption) ?_; rotate_left; (focus ((intro W hSW); (try dsimp only at hSW); (try go_split_ands); go_simp; (try (with_reducible rfl)); done))) | (refine Reg.take 4 (v := undef) rfl (by kernel_rfl) (by kernel_rfl) (by kernel_rfl) (fun _ _ _ h => h) (Or.inr ⟨by rfl, rfl⟩) (by assumption) ?_))
  (try simp only [Act.put, List.setIfInBounds_toArray, List.set_cons_zero, List.set_cons_succ])
  (first | (refine Reg.take 5 (v := ?_) rfl (by kernel_rfl) (by kernel_rfl) (by kernel_rfl) (fun _ _ _ h => h) (Or.inl ⟨by rfl, ?_⟩) (by assumption) ?_; rotate_left; (focus ((intro W hSW); (try dsimp only at hSW); (try go_split_ands); go_simp; (try (with_reducible rfl)); done))) | (refine Reg.take 5 (v := undef) rfl (by kernel_rfl) (by kernel_rfl) (by kernel_rfl) (fun _ _ _ h => h) (Or.inr ⟨by rfl, rfl⟩) (by assumption) ?_))
  (try simp only [Act.put, List.setIfInBounds_toArray, List.set_cons_zero, List.set_cons_succ])
  (first | (refine Reg.take 6 (v := ?_) rfl (by kernel_rfl) (by kernel_rfl) (by kernel_rfl) (fun _ _ _ h => h) (Or.inl ⟨by rfl, ?_⟩) (by assumption) ?_; rotate_left; (focus ((intro W hSW); (try dsimp only at hSW); (try go_split_ands); go_simp; (try (with_reducible rfl)); done))) | (refine Reg.take 6 (v := undef) rfl (by kernel_rfl) (by kernel_rfl) (by kernel_rfl) (fun _ _ _ h => h) (Or.inr ⟨by rfl, rfl⟩) (by assumption) ?_))
  (try simp only [Act.put, List.setIfInBounds_toArray, List.set_cons_zero, List.set_cons_succ])
  (first | (refine Reg.take 7 (v := ?_) rfl (by kernel_rfl) (by kernel_rfl) (by kernel_rfl) (fun _ _ _ h => h) (Or.inl ⟨by rfl, ?_⟩) (by assumption) ?_; rotate_left; (focus ((intro W hSW); (try dsimp only at hSW); (try go_split_ands); go_simp; (try (with_reducible rfl)); done))) | (refine Reg.take 7 (v := undef) rfl (by kernel_rfl) (by kernel_rfl) (by kernel_rfl) (fun _ _ _ h => h) (Or.inr ⟨by rfl, rfl⟩) (by assumption) ?_))
  (try simp only [Act.put, List.setIfInBounds_toArray, List.set_cons_zero, List.set_cons_succ])
  (first | (refine Reg.take 8 (v := ?_) rfl (by kernel_rfl) (by kernel_rfl) (by kernel_rfl) (fun _ _ _ h => h) (Or.inl ⟨by rfl, ?_⟩) (by assumption) ?_; rotate_left; (focus ((intro W hSW); (try dsimp only at hSW); (try go_split_ands); go_simp; (try (with_reducible rfl)); done))) | (refine Reg.take 8 (v := undef) rfl (by kernel_rfl) (by kernel_rfl) (by kernel_rfl) (fun _ _ _ h => h) (Or.inr ⟨by rfl, rfl⟩) (by assumption) ?_))
  (try simp only [Act.put, List.setIfInBounds_toArray, List.set_cons_zero, List.set_cons_succ])
  refine Reg.step 2 rfl (by kernel_rfl) (by rfl) (fun K hK => ?_)
  go_simp
  refine ((HPI _ L3.out _ _ _ R3.out (by omega)).out).mono ?_
  rintro e w4 ⟨Q2, n2, c2, l2, rfl, hO, hP, hb⟩
  have L4 := Lib.hid (L3.out.trans (hb.mono L3.out.size))
  have X4 := Lib.hid (Cells.below X3.out hb)
  have Z4 := Lib.hid (Cells.below Z3.out hb)
  have R4 := Lib.hid (Row.below R3.out hb)
  have N4 := Lib.hid ((hO.lower L3.out.size).base_ L3.out.size)
  have NZ : Hid (∀ x ∈ l2, ∀ q, Bl x q → q ≠ w.heap.size + 2) := fun x hx q hq => by have h1 := hO.low x hx q hq; have h2 := Cells.lt Z3.out; omega
  have LP := Lib.hid hP
  clear hO hP
  unfold nv
  clear hb hHeld HPI
  clear L3 X3 Z3 R3 
  clear R4
  refine hK.out _ _ (And.intro (NBox.cells X4.out).1 (NBox.cells X4.out).2) (fun hHeld => ?_)
  clear hK K
  (try simp only [Act.put, List.setIfInBounds_toArray, List.set_cons_zero, List.set_cons_succ])
  have y0 := Cells.cell Z4.out 0
  have f0 := Cells.frozen Z4.out 0
  have y1 := Cells.cell Z4.out 1
  have f1 := Cells.frozen Z4.out 1
  refine Reg.step 9 rfl (by kernel_rfl) (by rfl) (fun K hK => ?_)
  go_simp
  have bt : Mov [w.heap.size + 2] w4 ((w4.setCell ⟨w.heap.size + 2, 0, none⟩ (.int .i64 (cap : Int))).setCell ⟨w.heap.size + 2, 1, none⟩ (.slice Q2 n2 c2)) := Mov.set2 _ _ _ _
  have L5 := Lib.hid (L4.out.trans (bt.up L4.out.size (by omega)))
  have X5 := Lib.hid (Cells.mov X4.out bt (by simp; try omega))
  have Z5 : Hid (Cells ((w4.setCell ⟨w.heap.size + 2, 0, none⟩ (.int .i64 (cap : Int))).setCell ⟨w.heap.size + 2, 1, none⟩ (.slice Q2 n2 c2)) (w.heap.size + 2) 28 #[.int .i64 (cap : Int), .slice Q2 n2 c2]) := Cells.set2 Z4.out _ _
  have N5 := Lib.hid (N4.out.mov Z4.out (by decide) (fun x hx q hq => NZ.out x hx q hq) bt)
  clear bt hHeld y0 f0 y1 f1
  clear L4 X4 Z4 N4 
  generalize (w4.setCell ⟨w.heap.size + 2, 0, none⟩ (.int .i64 (cap : Int))).setCell ⟨w.heap.size + 2, 1, none⟩ (.slice Q2 n2 c2) = w5 at *
  refine hK.out _ _ (And.intro (NBox.cells X5.out).1 (NBox.cells X5.out).2) (fun hHeld => ?_)
  clear hK K
  (try simp only [Act.put, List.setIfInBounds_toArray, List.set_cons_zero, List.set_cons_succ])
  (first | (refine Reg.take 10 (v := ?_) rfl (by kernel_rfl) (by kernel_rfl) (by kernel_rfl) (fun _ _ _ h => h) (Or.inl ⟨by rfl, ?_⟩) (by assumption) ?_; rotate_left; (focus ((intro W hSW); (try dsimp only at hSW); (try go_split_ands); go_simp; (try (with_reducible rfl)); done))) | (refine Reg.take 10 (v := undef) rfl (by kernel_rfl) (by kernel_rfl) (by kernel_rfl) (fun _ _ _ h => h) (Or.inr ⟨by rfl, rfl⟩) (by assumption) ?_))
  (try simp only [Act.put, List.setIfInBounds_toArray, List.set_cons_zero, List.set_cons_succ])
  refine wpAnyH_done (by kernel_rfl) ?_ _
  clear hHeld
  go_wp2_with fail
  refine bodyPost_ret_by (results_c1 rfl _ _ (w.heap.size + 2) _ _ _ _ rfl Z5.out Try.underlying28 rfl (by kernel_rfl)) rfl ?_
  exact ⟨Q2, n2, c2, l2, by rw [HLE.out, ← HAL.out]; show Ending.returned (.tuple #[_, .int .i64 (IntKind.i64.wrap ((n : Int) - (a : Int)))]) = _; rw [show IntKind.i64.wrap ((n : Int) - (a : Int)) = (n : Int) - (a : Int) by rw [IntKind.wrap_i64]; omega]; rfl, N5.out, by rw [LP.out, HPK.out], L5.out⟩
end Net
end Go.Proofs.Ytamahknnppjegaa
