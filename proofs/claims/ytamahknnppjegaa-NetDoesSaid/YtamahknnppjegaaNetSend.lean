/-
  WALKS: net.Send.
-/
import Derived.Test.YtamahknnppjegaaNetCut
import Derived.Test.YtamahknnppjegaaNetMsg
namespace Go.Proofs.Ytamahknnppjegaa
open Go.RowKit Mem Box
namespace Net
open Wire (B8 info_int asInts asInts_append GaveE MsgBad)

set_option maxRecDepth 100000 in
set_option maxHeartbeats 12800000 in
theorem send_any {w : World} {cap : Nat} {Q : Option Addr} {n c : Nat} {l : List Mx} (h : NetAt w Q n c l) (hn : n ≤ 5000) (hcap : cap ≤ 5000) {M : Option Addr} {m e : Nat} {ls : List Mx} (h2 : NetAt w M m e ls) :
    Calls Try.prog 27 #[nv cap Q n c, .slice M m e] w (GaveN1 w cap (sendP cap (l.map Mx.p) (ls.map Mx.p)) (((sendP cap (l.map Mx.p) (ls.map Mx.p)).length : Nat) - (n : Int))) := by
  have HN := Lib.hid h
  have HM := Lib.hid h2
  have hlen := Lib.hid h.row.len
  have hmlen := Lib.hid h2.row.len
  have hbig := Lib.hid h2.row.big
  have HO := fun W => Lib.hid (all_any cap Q n c (by omega) W)
  have HPK : Hid (pickP (l.map Mx.p) (List.range n) = l.map Mx.p) := by
    have := pick_all (l.map Mx.p)
    rw [List.length_map, h.row.len] at this
    exact this
  have HLT : Hid (∀ i ∈ List.range n, i < n) := fun i hi => List.mem_range.1 hi
  have HAT : Hid ((List.range n).length = n) := List.length_range
  generalize List.range n = ats at *
  have HP := fun W (hW : Below w.heap.size w W) X m e (ha : Row ci W X m e (asInts ats)) (hm : m ≤ 1000000) => Lib.hid (picked_any (cap := cap) (HN.out.below hW) ha HLT.out hm)
  have L1 : Hid (Below w.heap.size w ((w.alloc (.cells #[.int .i64 (cap : Int), .slice Q n c] 28)).alloc (.cells #[.int .i64 0, .slice none 0 0] 28))) := (((Below.refl _ w).alloc (by first | exact Nat.le_refl _ | (simp; try omega)) _).alloc (by first | exact Nat.le_refl _ | (simp; try omega)) _)
  have X1 : Hid (Cells ((w.alloc (.cells #[.int .i64 (cap : Int), .slice Q n c] 28)).alloc (.cells #[.int .i64 0, .slice none 0 0] 28)) (w.heap.size) 28 #[.int .i64 (cap : Int), .slice Q n c]) := by
    have := Cells.new w #[.int .i64 (cap : Int), .slice Q n c] 28
    (try simp only [World.size_alloc] at this)
    exact (Cells.alloc this _)
  have Z1 : Hid (Cells ((w.alloc (.cells #[.int .i64 (cap : Int), .slice Q n c] 28)).alloc (.cells #[.int .i64 0, .slice none 0 0] 28)) (w.heap.size + 1) 28 #[.int .i64 0, .slice none 0 0]) := by
    have := Cells.new (w.alloc (.cells #[.int .i64 (cap : Int), .slice Q n c] 28)) #[.int .i64 0, .slice none 0 0] 28
    (try simp only [World.size_alloc] at this)
    exact this
  have SZ : Hid (((w.alloc (.cells #[.int .i64 (cap : Int), .slice Q n c] 28)).alloc (.cells #[.int .i64 0, .slice none 0 0] 28)).heap.size = w.heap.size + 2) := by show _ = _; simp
  clear h h2
  unfold nv at *
  go_enter Try.func27, Try.ntmps27
  go_upto_region 1 with fail
  generalize ((w.alloc (.cells #[.int .i64 (cap : Int), .slice Q n c] 28)).alloc (.cells #[.int .i64 0, .slice none 0 0] 28)) = w1 at *
  go_cut [6] (fun s wx => ∃ g R d l', s = .pointer (some ⟨g, 0, none⟩) ∧ Hid (OutI w.heap.size w wx cap Q n c g R n d l' ∧ l'.map Mx.p = l.map Mx.p))
  case first =>
    have L2 := Lib.hid L1.out.drew
    have X2 := Lib.hid (Cells.below X1.out ((Below.refl _ w1).drew))
    have Z2 := Lib.hid (Cells.below Z1.out ((Below.refl _ w1).drew))
    refine wp_region_held_drew (S := fun W => W.cell? ⟨w.heap.size, 0, none⟩ = some (.int .i64 (cap : Int)) ∧ W.cell? ⟨w.heap.size, 1, none⟩ = some (.slice Q n c)) (by kernel_rfl) (And.intro (NBox.cells X2.out).1 (NBox.cells X2.out).2) (fun hHeld => ?_)
    generalize w1.drew = w2 at *
    clear L1 X1 Z1 
    (first | (refine Reg.take 0 (v := ?_) rfl (by kernel_rfl) (by kernel_rfl) (by kernel_rfl) (fun _ _ _ h => h) (Or.inl ⟨by rfl, ?_⟩) (by assumption) ?_; rotate_left; (focus ((intro W hSW); (try dsimp only at hSW); (try go_split_ands); go_simp; (try (with_reducible rfl)); done))) | (refine Reg.take 0 (v := undef) rfl (by kernel_rfl) (by kernel_rfl) (by kernel_rfl) (fun _ _ _ h => h) (Or.inr ⟨by rfl, rfl⟩) (by assumption) ?_))
    (try simp only [Act.put, List.setIfInBounds_toArray, List.set_cons_zero, List.set_cons_succ])
    (first | (refine Reg.take 1 (v := ?_) rfl (by kernel_rfl) (by kernel_rfl) (by kernel_rfl) (fun _ _ _ h => h) (Or.inl ⟨by rfl, ?_⟩) (by assumption) ?_; rotate_left; (focus ((intro W hSW); (try dsimp only at hSW); (try go_split_ands); go_simp; (try (with_reducible rfl)); done))) | (refine Reg.take 1 (v := undef) rfl (by kernel_rfl) (by kernel_rfl) (by kernel_rfl) (fun _ _ _ h => h) (Or.inr ⟨by rfl, rfl⟩) (by assumption) ?_))
    (try simp only [Act.put, List.setIfInBounds_toArray, List.set_cons_zero, List.set_cons_succ])
    refine Reg.step2 2 4 rfl rfl (by kernel_rfl) (by rfl) (by rfl) (fun K hK => ?_) (fun K hK => ?_)
    · skip
      go_simp
      refine ((HO _).out).mono ?_
      rintro e w3 ⟨⟨A, a, d, rfl, hO⟩, hb⟩
      have L3 := Lib.hid (L2.out.trans (hb.mono L2.out.size))
      have X3 := Lib.hid (Cells.below X2.out hb)
      have Z3 := Lib.hid (Cells.below Z2.out hb)
      have ha : a ≤ n := by have h1 := hO.len; rw [Wire.asInts, List.length_map] at h1; have := HAT.out; omega
      have R3 := Lib.hid (Wire.gave_row hO (by rw [Wire.asInts, List.length_map]; have := HAT.out; omega)).1
      clear hO
      clear hb hHeld 
      clear L2 X2 Z2 
      refine hK.out _ _ (And.intro (NBox.cells X3.out).1 (NBox.cells X3.out).2) (fun hHeld => ?_)
      clear hK K
      (try simp only [Act.put, List.setIfInBounds_toArray, List.set_cons_zero, List.set_cons_succ])
      refine Reg.step2 3 4 rfl rfl (by kernel_rfl) (by rfl) (by rfl) (fun K hK => ?_) (fun K hK => ?_)
      · skip
        go_simp
        refine ((HP _ L3.out _ _ _ R3.out (by omega)).out).mono ?_
        rintro e w4 ⟨Q2, n2, c2, l2, rfl, hO, hP, hb⟩
        have L4 := Lib.hid (L3.out.trans (hb.mono L3.out.size))
        have X4 := Lib.hid (Cells.below X3.out hb)
        have Z4 := Lib.hid (Cells.below Z3.out hb)
        have R4 := Lib.hid (Row.below R3.out hb)
        have hP2 : l2.map Mx.p = l.map Mx.p := hP.trans HPK.out
        have hn2 : n2 = n := by have h1 := congrArg List.length hP2; rw [List.length_map, List.length_map] at h1; have h3 := hO.len; have h4 := hlen.out; omega
        subst hn2
        have N4 := Lib.hid ((hO.lower L3.out.size).base_ L3.out.size)
        have NZ : Hid (∀ x ∈ l2, ∀ q, Bl x q → q ≠ w.heap.size + 1) := fun x hx q hq => by have h1 := hO.low x hx q hq; have h2 := Cells.lt Z3.out; omega
        skip
        have LP := Lib.hid hP2
        clear hO hP hP2
        unfold nv
        clear hb hHeld 
        clear L3 X3 Z3 R3 
        clear R4
        refine hK.out _ _ (And.intro (NBox.cells X4.out).1 (NBox.cells X4.out).2) (fun hHeld => ?_)
        clear hK K
        (try simp only [Act.put, List.setIfInBounds_toArray, List.set_cons_zero, List.set_cons_succ])
        refine Reg.step 4 rfl (by kernel_rfl) (by rfl) (fun K hK => ?_)
        go_simp
        have bb : Below w4.heap.size w4 (w4.alloc (.cells #[.int .i64 0, .slice none 0 0] 28)) := (Below.refl _ w4).alloc (Nat.le_refl _) _
        have G5 := Lib.hid ((Cells.new _ _ _ : NBox _ w4.heap.size 0 none 0 0))
        have L5 := Lib.hid (L4.out.trans (bb.mono L4.out.size))
        have X5 := Lib.hid (Cells.below X4.out bb)
        have Z5 := Lib.hid (Cells.below Z4.out bb)
        have N5 := Lib.hid (OwnN.below N4.out bb)
        obtain ⟨g, hg⟩ : ∃ p, p = w4.heap.size := ⟨_, rfl⟩
        rw [← hg] at G5
        rw [← hg]
        have Gg : Hid (g = w4.heap.size) := hg
        have EG : Hid (w.heap.size + 1 < g) := by have h2 := Cells.lt Z4.out; show _ < _; omega
        have NG : Hid (∀ x ∈ l2, ∀ q, Bl x q → q ≠ g) := fun x hx q hq => by have h1 := (N4.out.at_ x hx).lt hq; omega
        clear bb hHeld hg
        clear L4 X4 Z4 N4 
        generalize w4.alloc (.cells #[.int .i64 0, .slice none 0 0] 28) = w5 at *
        refine hK.out _ _ (And.intro (NBox.cells X5.out).1 (NBox.cells X5.out).2) (fun hHeld => ?_)
        clear hK K
        (try simp only [Act.put, List.setIfInBounds_toArray, List.set_cons_zero, List.set_cons_succ])
        have y0 := Cells.cell G5.out 0
        have f0 := Cells.frozen G5.out 0
        have y1 := Cells.cell G5.out 1
        have f1 := Cells.frozen G5.out 1
        refine Reg.step 5 rfl (by kernel_rfl) (by rfl) (fun K hK => ?_)
        go_simp
        have bt : Mov [g] w5 ((w5.setCell ⟨g, 0, none⟩ (.int .i64 (cap : Int))).setCell ⟨g, 1, none⟩ (.slice Q2 n2 c2)) := Mov.set2 _ _ _ _
        have L6 := Lib.hid (L5.out.trans (bt.up L5.out.size (by have := EG.out; omega)))
        have X6 := Lib.hid (Cells.mov X5.out bt (by have := EG.out; simp; omega))
        have Z6 := Lib.hid (Cells.mov Z5.out bt (by have := EG.out; simp; omega))
        have N6 := Lib.hid (N5.out.mov G5.out (by decide) (fun x hx q hq => NG.out x hx q hq) bt)
        have G6 : Hid (Cells ((w5.setCell ⟨g, 0, none⟩ (.int .i64 (cap : Int))).setCell ⟨g, 1, none⟩ (.slice Q2 n2 c2)) (g) 28 #[.int .i64 (cap : Int), .slice Q2 n2 c2]) := Cells.set2 G5.out _ _
        clear bt hHeld y0 f0 y1 f1
        clear L5 X5 Z5 N5 G5 
        generalize (w5.setCell ⟨g, 0, none⟩ (.int .i64 (cap : Int))).setCell ⟨g, 1, none⟩ (.slice Q2 n2 c2) = w6 at *
        refine hK.out _ _ (And.intro (NBox.cells X6.out).1 (NBox.cells X6.out).2) (fun hHeld => ?_)
        clear hK K
        (try simp only [Act.put, List.setIfInBounds_toArray, List.set_cons_zero, List.set_cons_succ])
        refine wpAnyH_done (by kernel_rfl) ?_ _
        clear hHeld
        go_wp2_with fail
        go_meet
        exact ⟨g, Q2, c2, l2, rfl, ⟨L6.out, X6.out, Z6.out, G6.out, N6.out, EG.out, fun x hx q hq => ⟨NG.out x hx q hq, NZ.out x hx q hq⟩⟩, LP.out⟩
      · skip
        go_simp
        have bb : Below w3.heap.size w3 (w3.alloc (.cells #[.int .i64 0, .slice none 0 0] 28)) := (Below.refl _ w3).alloc (Nat.le_refl _) _
        have G4 := Lib.hid ((Cells.new _ _ _ : NBox _ w3.heap.size 0 none 0 0))
        have L4 := Lib.hid (L3.out.trans (bb.mono L3.out.size))
        have X4 := Lib.hid (Cells.below X3.out bb)
        have Z4 := Lib.hid (Cells.below Z3.out bb)
        have R4 := Lib.hid (Row.below R3.out bb)
        obtain ⟨g, hg⟩ : ∃ p, p = w3.heap.size := ⟨_, rfl⟩
        rw [← hg] at G4
        rw [← hg]
        have Gg : Hid (g = w3.heap.size) := hg
        have EG : Hid (w.heap.size + 1 < g) := by have h2 := Cells.lt Z3.out; show _ < _; omega
        skip
        clear bb hHeld hg
        clear L3 X3 Z3 R3 
        generalize w3.alloc (.cells #[.int .i64 0, .slice none 0 0] 28) = w4 at *
        refine hK.out _ _ (And.intro (NBox.cells X4.out).1 (NBox.cells X4.out).2) (fun hHeld => ?_)
        clear hK K
        (try simp only [Act.put, List.setIfInBounds_toArray, List.set_cons_zero, List.set_cons_succ])
        refine Reg.step 3 rfl (by kernel_rfl) (by rfl) (fun K hK => ?_)
        go_simp
        refine ((HP _ L4.out _ _ _ R4.out (by omega)).out).mono ?_
        rintro e w5 ⟨Q2, n2, c2, l2, rfl, hO, hP, hb⟩
        have L5 := Lib.hid (L4.out.trans (hb.mono L4.out.size))
        have X5 := Lib.hid (Cells.below X4.out hb)
        have Z5 := Lib.hid (Cells.below Z4.out hb)
        have R5 := Lib.hid (Row.below R4.out hb)
        have G5 := Lib.hid (Cells.below G4.out hb)
        have hP2 : l2.map Mx.p = l.map Mx.p := hP.trans HPK.out
        have hn2 : n2 = n := by have h1 := congrArg List.length hP2; rw [List.length_map, List.length_map] at h1; have h3 := hO.len; have h4 := hlen.out; omega
        subst hn2
        have N5 := Lib.hid ((hO.lower L4.out.size).base_ L4.out.size)
        have NZ : Hid (∀ x ∈ l2, ∀ q, Bl x q → q ≠ w.heap.size + 1) := fun x hx q hq => by have h1 := hO.low x hx q hq; have h2 := Cells.lt Z4.out; omega
        have NG : Hid (∀ x ∈ l2, ∀ q, Bl x q → q ≠ g) := fun x hx q hq => by have h1 := hO.low x hx q hq; have h2 := Cells.lt G4.out; omega
        have LP := Lib.hid hP2
        clear hO hP hP2
        unfold nv
        clear hb hHeld 
        clear L4 X4 Z4 R4 G4 
        clear R5
        refine hK.out _ _ (And.intro (NBox.cells X5.out).1 (NBox.cells X5.out).2) (fun hHeld => ?_)
        clear hK K
        (try simp only [Act.put, List.setIfInBounds_toArray, List.set_cons_zero, List.set_cons_succ])
        have y0 := Cells.cell G5.out 0
        have f0 := Cells.frozen G5.out 0
        have y1 := Cells.cell G5.out 1
        have f1 := Cells.frozen G5.out 1
        refine Reg.step 5 rfl (by kernel_rfl) (by rfl) (fun K hK => ?_)
        go_simp
        have bt : Mov [g] w5 ((w5.setCell ⟨g, 0, none⟩ (.int .i64 (cap : Int))).setCell ⟨g, 1, none⟩ (.slice Q2 n2 c2)) := Mov.set2 _ _ _ _
        have L6 := Lib.hid (L5.out.trans (bt.up L5.out.size (by have := EG.out; omega)))
        have X6 := Lib.hid (Cells.mov X5.out bt (by have := EG.out; simp; omega))
        have Z6 := Lib.hid (Cells.mov Z5.out bt (by have := EG.out; simp; omega))
        have G6 : Hid (Cells ((w5.setCell ⟨g, 0, none⟩ (.int .i64 (cap : Int))).setCell ⟨g, 1, none⟩ (.slice Q2 n2 c2)) (g) 28 #[.int .i64 (cap : Int), .slice Q2 n2 c2]) := Cells.set2 G5.out _ _
        have N6 := Lib.hid (N5.out.mov G5.out (by decide) (fun x hx q hq => NG.out x hx q hq) bt)
        clear bt hHeld y0 f0 y1 f1
        clear L5 X5 Z5 G5 N5 
        generalize (w5.setCell ⟨g, 0, none⟩ (.int .i64 (cap : Int))).setCell ⟨g, 1, none⟩ (.slice Q2 n2 c2) = w6 at *
        refine hK.out _ _ (And.intro (NBox.cells X6.out).1 (NBox.cells X6.out).2) (fun hHeld => ?_)
        clear hK K
        (try simp only [Act.put, List.setIfInBounds_toArray, List.set_cons_zero, List.set_cons_succ])
        refine wpAnyH_done (by kernel_rfl) ?_ _
        clear hHeld
        go_wp2_with fail
        go_meet
        exact ⟨g, Q2, c2, l2, rfl, ⟨L6.out, X6.out, Z6.out, G6.out, N6.out, EG.out, fun x hx q hq => ⟨NG.out x hx q hq, NZ.out x hx q hq⟩⟩, LP.out⟩
    · skip
      go_simp
      have bb : Below w2.heap.size w2 (w2.alloc (.cells #[.int .i64 0, .slice none 0 0] 28)) := (Below.refl _ w2).alloc (Nat.le_refl _) _
      have G3 := Lib.hid ((Cells.new _ _ _ : NBox _ w2.heap.size 0 none 0 0))
      have L3 := Lib.hid (L2.out.trans (bb.mono L2.out.size))
      have X3 := Lib.hid (Cells.below X2.out bb)
      have Z3 := Lib.hid (Cells.below Z2.out bb)
      obtain ⟨g, hg⟩ : ∃ p, p = w2.heap.size := ⟨_, rfl⟩
      rw [← hg] at G3
      rw [← hg]
      have Gg : Hid (g = w2.heap.size) := hg
      have EG : Hid (w.heap.size + 1 < g) := by have h2 := Cells.lt Z2.out; show _ < _; omega
      skip
      clear bb hHeld hg
      clear L2 X2 Z2 
      generalize w2.alloc (.cells #[.int .i64 0, .slice none 0 0] 28) = w3 at *
      refine hK.out _ _ (And.intro (NBox.cells X3.out).1 (NBox.cells X3.out).2) (fun hHeld => ?_)
      clear hK K
      (try simp only [Act.put, List.setIfInBounds_toArray, List.set_cons_zero, List.set_cons_succ])
      refine Reg.step 2 rfl (by kernel_rfl) (by rfl) (fun K hK => ?_)
      go_simp
      refine ((HO _).out).mono ?_
      rintro e w4 ⟨⟨A, a, d, rfl, hO⟩, hb⟩
      have L4 := Lib.hid (L3.out.trans (hb.mono L3.out.size))
      have X4 := Lib.hid (Cells.below X3.out hb)
      have Z4 := Lib.hid (Cells.below Z3.out hb)
      have G4 := Lib.hid (Cells.below G3.out hb)
      have ha : a ≤ n := by have h1 := hO.len; rw [Wire.asInts, List.length_map] at h1; have := HAT.out; omega
      have R4 := Lib.hid (Wire.gave_row hO (by rw [Wire.asInts, List.length_map]; have := HAT.out; omega)).1
      clear hO
      clear hb hHeld 
      clear L3 X3 Z3 G3 
      refine hK.out _ _ (And.intro (NBox.cells X4.out).1 (NBox.cells X4.out).2) (fun hHeld => ?_)
      clear hK K
      (try simp only [Act.put, List.setIfInBounds_toArray, List.set_cons_zero, List.set_cons_succ])
      refine Reg.step 3 rfl (by kernel_rfl) (by rfl) (fun K hK => ?_)
      go_simp
      refine ((HP _ L4.out _ _ _ R4.out (by omega)).out).mono ?_
      rintro e w5 ⟨Q2, n2, c2, l2, rfl, hO, hP, hb⟩
      have L5 := Lib.hid (L4.out.trans (hb.mono L4.out.size))
      have X5 := Lib.hid (Cells.below X4.out hb)
      have Z5 := Lib.hid (Cells.below Z4.out hb)
      have G5 := Lib.hid (Cells.below G4.out hb)
      have R5 := Lib.hid (Row.below R4.out hb)
      have hP2 : l2.map Mx.p = l.map Mx.p := hP.trans HPK.out
      have hn2 : n2 = n := by have h1 := congrArg List.length hP2; rw [List.length_map, List.length_map] at h1; have h3 := hO.len; have h4 := hlen.out; omega
      subst hn2
      have N5 := Lib.hid ((hO.lower L4.out.size).base_ L4.out.size)
      have NZ : Hid (∀ x ∈ l2, ∀ q, Bl x q → q ≠ w.heap.size + 1) := fun x hx q hq => by have h1 := hO.low x hx q hq; have h2 := Cells.lt Z4.out; omega
      have NG : Hid (∀ x ∈ l2, ∀ q, Bl x q → q ≠ g) := fun x hx q hq => by have h1 := hO.low x hx q hq; have h2 := Cells.lt G4.out; omega
      have LP := Lib.hid hP2
      clear hO hP hP2
      unfold nv
      clear hb hHeld 
      clear L4 X4 Z4 G4 R4 
      clear R5
      refine hK.out _ _ (And.intro (NBox.cells X5.out).1 (NBox.cells X5.out).2) (fun hHeld => ?_)
      clear hK K
      (try simp only [Act.put, List.setIfInBounds_toArray, List.set_cons_zero, List.set_cons_succ])
      have y0 := Cells.cell G5.out 0
      have f0 := Cells.frozen G5.out 0
      have y1 := Cells.cell G5.out 1
      have f1 := Cells.frozen G5.out 1
      refine Reg.step 5 rfl (by kernel_rfl) (by rfl) (fun K hK => ?_)
      go_simp
      have bt : Mov [g] w5 ((w5.setCell ⟨g, 0, none⟩ (.int .i64 (cap : Int))).setCell ⟨g, 1, none⟩ (.slice Q2 n2 c2)) := Mov.set2 _ _ _ _
      have L6 := Lib.hid (L5.out.trans (bt.up L5.out.size (by have := EG.out; omega)))
      have X6 := Lib.hid (Cells.mov X5.out bt (by have := EG.out; simp; omega))
      have Z6 := Lib.hid (Cells.mov Z5.out bt (by have := EG.out; simp; omega))
      have G6 : Hid (Cells ((w5.setCell ⟨g, 0, none⟩ (.int .i64 (cap : Int))).setCell ⟨g, 1, none⟩ (.slice Q2 n2 c2)) (g) 28 #[.int .i64 (cap : Int), .slice Q2 n2 c2]) := Cells.set2 G5.out _ _
      have N6 := Lib.hid (N5.out.mov G5.out (by decide) (fun x hx q hq => NG.out x hx q hq) bt)
      clear bt hHeld y0 f0 y1 f1
      clear L5 X5 Z5 G5 N5 
      generalize (w5.setCell ⟨g, 0, none⟩ (.int .i64 (cap : Int))).setCell ⟨g, 1, none⟩ (.slice Q2 n2 c2) = w6 at *
      refine hK.out _ _ (And.intro (NBox.cells X6.out).1 (NBox.cells X6.out).2) (fun hHeld => ?_)
      clear hK K
      (try simp only [Act.put, List.setIfInBounds_toArray, List.set_cons_zero, List.set_cons_succ])
      refine wpAnyH_done (by kernel_rfl) ?_ _
      clear hHeld
      go_wp2_with fail
      go_meet
      exact ⟨g, Q2, c2, l2, rfl, ⟨L6.out, X6.out, Z6.out, G6.out, N6.out, EG.out, fun x hx q hq => ⟨NG.out x hx q hq, NZ.out x hx q hq⟩⟩, LP.out⟩
  case rest =>
    obtain ⟨g, R0, d0, l0, rfl, hO1⟩ := hcut
    clear L1 X1 Z1 SZ
    go_wp2_with fail
    go_loopw [8, 9, 10, 17] (fun _ _ _ i wr => ∃ (k : Nat) (R : Option Addr) (j d : Nat) (l' : List Mx), i = .int .i64 k ∧ k ≤ m ∧ Hid (OutI w.heap.size w wr cap Q n c g R j d l' ∧ l'.map Mx.p = sendP cap (l.map Mx.p) ((ls.map Mx.p).take k))) (fun _ _ _ i _ => m - (intOf i).toNat)
    case atStart => exact ⟨0, R0, n, d0, l0, rfl, by omega, hO1.out.1, hO1.out.2⟩
    case round =>
      obtain ⟨k, R, j, d, l', rfl, hk, hH⟩ := hrel
      obtain ⟨hI, hP⟩ := hH.out
      have I1 := Lib.hid hI
      have HPR := Lib.hid hP
      have hjl : j ≤ 5000 ∧ n ≤ j := by
        have h1 := hI.own.len
        have h3 := congrArg List.length hP
        have h4 := send_len cap (l.map Mx.p) ((ls.map Mx.p).take k)
        have h5 := hlen.out
        rw [List.length_map] at h3 h4
        omega
      have JN := Lib.hid hjl.2
      have hj := hjl.1
      clear hI hP hH hjl hO1
      by_cases hlt : k < m
      · obtain ⟨x, hx, hxm⟩ := HM.out.get hlt
        obtain ⟨b2, o2, hQ, hb2, hcs⟩ := HM.out.cells hx
        subst hQ
        obtain ⟨c0, c1, c2, c3, c4, c5⟩ := hcs wr I1.out.below
        have HSN := Lib.hid (send_snoc (cap := cap) (q := l.map Mx.p) (l := ls.map Mx.p) (m := x.p) (k := k) (by rw [List.getElem?_map, hx]; rfl))
        have HXM := Lib.hid hxm
        have HC := fun W (h : MAt W x) => Lib.hid (cloned_any h)
        have HR := fun W => Lib.hid (hasRoom_any cap R j d W)
        unfold nv at HR
        have hk0 : (0 : Int) ≤ (k : Int) := by omega
        have hkm : (k : Int) < (m : Int) := by omega
        have hmb : m ≤ 140737488351232 := hbig.out
        clear hx hxm hcs hb2
        go_upto_region 5 with fail
        clear c0 c1 c2 c3 c4 c5
        have bb : Below wr.heap.size wr (wr.alloc (.cells #[.int .i64 x.k, .int .i64 x.f, .int .i64 x.t, .int .i64 x.i, .slice x.A x.n x.c, .slice x.B x.m x.d] 39)) := (Below.refl _ wr).alloc (Nat.le_refl _) _
        have I2 := Lib.hid (I1.out.keep bb)
        have B2 : Hid (MBox (wr.alloc (.cells #[.int .i64 x.k, .int .i64 x.f, .int .i64 x.t, .int .i64 x.i, .slice x.A x.n x.c, .slice x.B x.m x.d] 39)) wr.heap.size x) := Cells.new _ _ _
        have PBN : Hid ((Value.slice R j d).ownBlock ≠ some wr.heap.size) := fun e => by have := (I1.out.own.own.lt _ e).2; omega
        obtain ⟨p, hp⟩ : ∃ p, p = wr.heap.size := ⟨_, rfl⟩
        rw [← hp] at B2 PBN
        rw [← hp]
        clear bb hp I1
        generalize wr.alloc (.cells #[.int .i64 x.k, .int .i64 x.f, .int .i64 x.t, .int .i64 x.i, .slice x.A x.n x.c, .slice x.B x.m x.d] 39) = w2 at *
        obtain ⟨k0, k1⟩ := NBox.cells I2.out.gb
        rcases e1 : decide (j < cap)
        · rw [e1] at HR
          have FE : Hid (l'.map Mx.p = sendP cap (l.map Mx.p) (ls.map Mx.p)) := by
            show _ = _
            rw [HPR.out]
            refine (send_rest ?_).symm
            rw [← HPR.out, List.length_map, I2.out.own.len]
            exact of_decide_eq_false e1
          go_upto_region 10 with (first | (go_at_call 35; refine (HR _).out.mono ?_; rintro e w3 ⟨rfl, hb⟩; have I3 := Lib.hid (I2.out.keep hb); clear hb) | fail)
          clear k0 k1 HC I2 B2
          have hjn : n ≤ j := JN.out
          have hwr : IntKind.i64.wrap ((j : Int) - (n : Int)) = (j : Int) - (n : Int) := by rw [IntKind.wrap_i64]; omega
          have I9 := Lib.hid (I3.out.keep ((Below.refl _ w3).drew))
          refine wp_region_held_drew (S := fun W => (W.cell? ⟨g, 0, none⟩ = some (.int .i64 (cap : Int)) ∧ W.cell? ⟨g, 1, none⟩ = some (.slice R j d)) ∧ W.cell? ⟨w.heap.size, 1, none⟩ = some (.slice Q n c)) (by kernel_rfl) ⟨NBox.cells I9.out.gb, (NBox.cells I9.out.nb).2⟩ (fun hHeld => ?_)
          generalize w3.drew = w9 at *
          (first | (refine Reg.take 0 (v := ?_) rfl (by kernel_rfl) (by kernel_rfl) (by kernel_rfl) (fun _ _ _ h => h) (Or.inl ⟨by rfl, ?_⟩) (by assumption) ?_; rotate_left; (focus ((intro W hSW); (try dsimp only at hSW); (try go_split_ands); go_simp; (try (with_reducible rfl)); done))) | (refine Reg.take 0 (v := undef) rfl (by kernel_rfl) (by kernel_rfl) (by kernel_rfl) (fun _ _ _ h => h) (Or.inr ⟨by rfl, rfl⟩) (by assumption) ?_))
          (try simp only [Act.put, List.setIfInBounds_toArray, List.set_cons_zero, List.set_cons_succ])
          (first | (refine Reg.take 1 (v := ?_) rfl (by kernel_rfl) (by kernel_rfl) (by kernel_rfl) (fun _ _ _ h => h) (Or.inl ⟨by rfl, ?_⟩) (by assumption) ?_; rotate_left; (focus ((intro W hSW); (try dsimp only at hSW); (try go_split_ands); go_simp; (try (with_reducible rfl)); done))) | (refine Reg.take 1 (v := undef) rfl (by kernel_rfl) (by kernel_rfl) (by kernel_rfl) (fun _ _ _ h => h) (Or.inr ⟨by rfl, rfl⟩) (by assumption) ?_))
          (try simp only [Act.put, List.setIfInBounds_toArray, List.set_cons_zero, List.set_cons_succ])
          (first | (refine Reg.take 2 (v := ?_) rfl (by kernel_rfl) (by kernel_rfl) (by kernel_rfl) (fun _ _ _ h => h) (Or.inl ⟨by rfl, ?_⟩) (by assumption) ?_; rotate_left; (focus ((intro W hSW); (try dsimp only at hSW); (try go_split_ands); go_simp; (try (with_reducible rfl)); done))) | (refine Reg.take 2 (v := undef) rfl (by kernel_rfl) (by kernel_rfl) (by kernel_rfl) (fun _ _ _ h => h) (Or.inr ⟨by rfl, rfl⟩) (by assumption) ?_))
          (try simp only [Act.put, List.setIfInBounds_toArray, List.set_cons_zero, List.set_cons_succ])
          (first | (refine Reg.take 3 (v := ?_) rfl (by kernel_rfl) (by kernel_rfl) (by kernel_rfl) (fun _ _ _ h => h) (Or.inl ⟨by rfl, ?_⟩) (by assumption) ?_; rotate_left; (focus ((intro W hSW); (try dsimp only at hSW); (try go_split_ands); go_simp; (try (with_reducible rfl)); done))) | (refine Reg.take 3 (v := undef) rfl (by kernel_rfl) (by kernel_rfl) (by kernel_rfl) (fun _ _ _ h => h) (Or.inr ⟨by rfl, rfl⟩) (by assumption) ?_))
          (try simp only [Act.put, List.setIfInBounds_toArray, List.set_cons_zero, List.set_cons_succ])
          (first | (refine Reg.take 4 (v := ?_) rfl (by kernel_rfl) (by kernel_rfl) (by kernel_rfl) (fun _ _ _ h => h) (Or.inl ⟨by rfl, ?_⟩) (by assumption) ?_; rotate_left; (focus ((intro W hSW); (try dsimp only at hSW); (try go_split_ands); go_simp; (try (with_reducible rfl)); done))) | (refine Reg.take 4 (v := undef) rfl (by kernel_rfl) (by kernel_rfl) (by kernel_rfl) (fun _ _ _ h => h) (Or.inr ⟨by rfl, rfl⟩) (by assumption) ?_))
          (try simp only [Act.put, List.setIfInBounds_toArray, List.set_cons_zero, List.set_cons_succ])
          (first | (refine Reg.take 5 (v := ?_) rfl (by kernel_rfl) (by kernel_rfl) (by kernel_rfl) (fun _ _ _ h => h) (Or.inl ⟨by rfl, ?_⟩) (by assumption) ?_; rotate_left; (focus ((intro W hSW); (try dsimp only at hSW); (try go_split_ands); go_simp; (try (with_reducible rfl)); done))) | (refine Reg.take 5 (v := undef) rfl (by kernel_rfl) (by kernel_rfl) (by kernel_rfl) (fun _ _ _ h => h) (Or.inr ⟨by rfl, rfl⟩) (by assumption) ?_))
          (try simp only [Act.put, List.setIfInBounds_toArray, List.set_cons_zero, List.set_cons_succ])
          (first | (refine Reg.take 6 (v := ?_) rfl (by kernel_rfl) (by kernel_rfl) (by kernel_rfl) (fun _ _ _ h => h) (Or.inl ⟨by rfl, ?_⟩) (by assumption) ?_; rotate_left; (focus ((intro W hSW); (try dsimp only at hSW); (try go_split_ands); go_simp; (try (with_reducible rfl)); done))) | (refine Reg.take 6 (v := undef) rfl (by kernel_rfl) (by kernel_rfl) (by kernel_rfl) (fun _ _ _ h => h) (Or.inr ⟨by rfl, rfl⟩) (by assumption) ?_))
          (try simp only [Act.put, List.setIfInBounds_toArray, List.set_cons_zero, List.set_cons_succ])
          (first | (refine Reg.take 7 (v := ?_) rfl (by kernel_rfl) (by kernel_rfl) (by kernel_rfl) (fun _ _ _ h => h) (Or.inl ⟨by rfl, ?_⟩) (by assumption) ?_; rotate_left; (focus ((intro W hSW); (try dsimp only at hSW); (try go_split_ands); go_simp; (try (with_reducible rfl)); done))) | (refine Reg.take 7 (v := undef) rfl (by kernel_rfl) (by kernel_rfl) (by kernel_rfl) (fun _ _ _ h => h) (Or.inr ⟨by rfl, rfl⟩) (by assumption) ?_))
          (try simp only [Act.put, List.setIfInBounds_toArray, List.set_cons_zero, List.set_cons_succ])
          have z0 := (NBox.cells I9.out.zb).1
          have z1 := (NBox.cells I9.out.zb).2
          have f0 : w9.frozen? ⟨w.heap.size + 1, 0, none⟩ = false := Cells.frozen I9.out.zb 0
          have f1 : w9.frozen? ⟨w.heap.size + 1, 1, none⟩ = false := Cells.frozen I9.out.zb 1
          refine Reg.step 8 rfl (by kernel_rfl) (by rfl) (fun K hK => ?_)
          go_simp
          have bt := Mov.set2 w9 (w.heap.size + 1) (.int .i64 (cap : Int)) (.slice R j d)
          have HR := Cells.set2 I9.out.zb (.int .i64 (cap : Int)) (.slice R j d)
          have HO9 := Lib.hid (I9.out.own.mov I9.out.zb (by decide) (fun x hx q hq => (I9.out.bn x hx q hq).2) bt)
          have LF := Lib.hid (I9.out.below.trans (bt.up I9.out.base_ (by omega)))
          have XG := Cells.mov I9.out.gb bt (by have := I9.out.ne; simp; omega)
          have XB := Cells.mov I9.out.nb bt (by simp)
          have HR := Lib.hid HR
          clear z0 z1 f0 f1 hHeld bt I9
          generalize (w9.setCell ⟨w.heap.size + 1, 0, none⟩ (.int .i64 (cap : Int))).setCell ⟨w.heap.size + 1, 1, none⟩ (.slice R j d) = w10 at *
          refine hK.out _ _ ⟨NBox.cells XG, (NBox.cells XB).2⟩ (fun hHeld => ?_)
          clear hK K XG XB
          (try simp only [Act.put, List.setIfInBounds_toArray, List.set_cons_zero, List.set_cons_succ])
          (first | (refine Reg.take 9 (v := ?_) rfl (by kernel_rfl) (by kernel_rfl) (by kernel_rfl) (fun _ _ _ h => h) (Or.inl ⟨by rfl, ?_⟩) (by assumption) ?_; rotate_left; (focus ((intro W hSW); (try dsimp only at hSW); (try go_split_ands); go_simp; (try (with_reducible rfl)); done))) | (refine Reg.take 9 (v := undef) rfl (by kernel_rfl) (by kernel_rfl) (by kernel_rfl) (fun _ _ _ h => h) (Or.inr ⟨by rfl, rfl⟩) (by assumption) ?_))
          (try simp only [Act.put, List.setIfInBounds_toArray, List.set_cons_zero, List.set_cons_succ])
          refine wpAnyH_done (by kernel_rfl) ?_ _
          clear hHeld
          go_wp2_with fail
          refine bodyPost_ret_by (results_c1 rfl _ _ (w.heap.size + 1) _ _ _ _ rfl HR.out Try.underlying28 rfl (by kernel_rfl)) rfl ?_
          exact ⟨R, j, d, l', by rw [← FE.out, List.length_map, HO9.out.len]; rfl, HO9.out, FE.out, LF.out⟩
        · rw [e1] at HR
          go_upto_region 6 with (first | (go_at_call 35; refine (HR _).out.mono ?_; rintro e w3 ⟨rfl, hb⟩; have I3 := Lib.hid (I2.out.keep hb); have B3 := Lib.hid (Cells.below B2.out hb); clear hb) | fail)
          clear k0 k1 I2 B2
          obtain ⟨n0, n1, n2, n3, n4, n5⟩ := MBox.cells B3.out
          rcases e2 : okM x.p
          · have HW := fun W (h : MAt W x) => Lib.hid (wmsg_bad h e2)
            unfold mxv at HW
            have HPU : Hid (sendP cap (l.map Mx.p) ((ls.map Mx.p).take (k + 1)) = sendP cap (l.map Mx.p) ((ls.map Mx.p).take k)) := by show _ = _; rw [HSN.out]; unfold pushP; rw [e2]; rfl
            go_wp2_with (go_at_call 46; refine (HW _ (HXM.out.below I3.out.below)).out.mono ?_; rintro e w4 ⟨er, her, rfl, hb⟩; have I4 := Lib.hid (I3.out.keep hb); have hne : (er == 0) = false := (by rcases her with rfl | rfl <;> rfl); clear hb her)
            go_roundw
            case rel => exact ⟨k + 1, R, j, d, l', by go_num, by omega, I4.out, by rw [HPU.out, HPR.out]⟩
            case measure => simp [intOf]; omega
          · have HW := fun W (h : MAt W x) => Lib.hid (wmsg_ok h e2)
            unfold mxv at HW
            have HPU : Hid (sendP cap (l.map Mx.p) ((ls.map Mx.p).take (k + 1)) = sendP cap (l.map Mx.p) ((ls.map Mx.p).take k) ++ [x.p]) := by
              show _ = _
              rw [HSN.out]; unfold pushP; rw [e2, ← HPR.out, List.length_map, I3.out.own.len, e1]; rfl
            go_upto_region 8 with (first | (go_at_call 46; refine (HW _ (HXM.out.below I3.out.below)).out.mono ?_; rintro e w4 ⟨V, vk, vc, rfl, -, hb⟩; have I4 := Lib.hid (I3.out.keep hb); have B4 := Lib.hid (Cells.below B3.out hb); clear hb) | fail)
            clear n0 n1 n2 n3 n4 n5 I3 B3 HW HR
            have HS := fun W cp Q' n' c' g' R' k' d' l'' (hW : OutI w.heap.size w W cp Q' n' c' g' R' k' d' l'') (hB : MBox W p x) => And.intro (NBox.cells hW.gb).2 (MBox.cells hB)
            have I2 := Lib.hid (I4.out.keep ((Below.refl _ w4).drew))
            have B2 := Lib.hid (Cells.below B4.out ((Below.refl _ w4).drew))
            refine RegK.start (S := fun W => W.cell? ⟨g, 1, none⟩ = some (.slice R j d) ∧ W.cell? ⟨p, 0, none⟩ = some (.int .i64 x.k) ∧ W.cell? ⟨p, 1, none⟩ = some (.int .i64 x.f) ∧ W.cell? ⟨p, 2, none⟩ = some (.int .i64 x.t) ∧ W.cell? ⟨p, 3, none⟩ = some (.int .i64 x.i) ∧ W.cell? ⟨p, 4, none⟩ = some (.slice x.A x.n x.c) ∧ W.cell? ⟨p, 5, none⟩ = some (.slice x.B x.m x.d)) 7 (by kernel_rfl) (HS _ _ _ _ _ _ _ _ _ _ I2.out B2.out) (fun hHeld => ?_)
            generalize w4.drew = w2 at *
            clear I4 B4
            (first | (refine RegK.take 0 [7] (v := ?_) rfl (by kernel_rfl) (by kernel_rfl) (by kernel_rfl) (by kernel_rfl) rfl (by kernel_rfl) (fun _ _ _ h => h) (Or.inl ⟨by rfl, ?_⟩) (by assumption) ?_; rotate_left; (focus ((intro W hSW; (try dsimp only at hSW); (try go_split_ands); go_simp; (try (with_reducible rfl)); done)))) | (refine RegK.take 0 [7] (v := undef) rfl (by kernel_rfl) (by kernel_rfl) (by kernel_rfl) (by kernel_rfl) rfl (by kernel_rfl) (fun _ _ _ h => h) (Or.inr ⟨by rfl, rfl⟩) (by assumption) ?_))
            (try simp only [Act.put, List.setIfInBounds_toArray, List.set_cons_zero, List.set_cons_succ])
            (first | (refine RegK.take 1 [7] (v := ?_) rfl (by kernel_rfl) (by kernel_rfl) (by kernel_rfl) (by kernel_rfl) rfl (by kernel_rfl) (fun _ _ _ h => h) (Or.inl ⟨by rfl, ?_⟩) (by assumption) ?_; rotate_left; (focus ((intro W hSW; (try dsimp only at hSW); (try go_split_ands); go_simp; (try (with_reducible rfl)); done)))) | (refine RegK.take 1 [7] (v := undef) rfl (by kernel_rfl) (by kernel_rfl) (by kernel_rfl) (by kernel_rfl) rfl (by kernel_rfl) (fun _ _ _ h => h) (Or.inr ⟨by rfl, rfl⟩) (by assumption) ?_))
            (try simp only [Act.put, List.setIfInBounds_toArray, List.set_cons_zero, List.set_cons_succ])
            (first | (refine RegK.take 2 [7] (v := ?_) rfl (by kernel_rfl) (by kernel_rfl) (by kernel_rfl) (by kernel_rfl) rfl (by kernel_rfl) (fun _ _ _ h => h) (Or.inl ⟨by rfl, ?_⟩) (by assumption) ?_; rotate_left; (focus ((intro W hSW; (try dsimp only at hSW); (try go_split_ands); go_simp; (try (with_reducible rfl)); done)))) | (refine RegK.take 2 [7] (v := undef) rfl (by kernel_rfl) (by kernel_rfl) (by kernel_rfl) (by kernel_rfl) rfl (by kernel_rfl) (fun _ _ _ h => h) (Or.inr ⟨by rfl, rfl⟩) (by assumption) ?_))
            (try simp only [Act.put, List.setIfInBounds_toArray, List.set_cons_zero, List.set_cons_succ])
            refine RegK.step 3 rfl (by kernel_rfl) (by rfl) (fun K hK => ?_)
            go_simp
            refine (HC _ (HXM.out.below I2.out.below)).out.mono ?_
            rintro e w3 ⟨y, rfl, hy, hya, hyn, hb, -⟩
            have I3 := Lib.hid (I2.out.keep hb)
            have B3 := Lib.hid (Cells.below B2.out hb)
            have YA := Lib.hid hya
            have YP := Lib.hid hy
            have YL : Hid (∀ q, Bl y q → (Value.slice R j d).ownBlock ≠ some q ∧ q ≠ g ∧ q ≠ w.heap.size + 1) := I2.out.apart hyn
            have YB : Hid (New w.heap.size y) := hyn.mono I2.out.base_
            clear hy hya hyn hb HC hHeld
            have hHeld := HS _ _ _ _ _ _ _ _ _ _ I3.out B3.out
            refine hK.out _ _ (fun _ => hHeld) ?_
            clear hK K I2 B2
            (try simp only [Act.put, List.setIfInBounds_toArray, List.set_cons_zero, List.set_cons_succ])
            unfold mxv
            refine RegK.step 4 rfl (by kernel_rfl) (by rfl) (fun K hK => ?_)
            go_simp
            have bb : Below w3.heap.size w3 (w3.alloc (.cells #[.int .i64 y.k, .int .i64 y.f, .int .i64 y.t, .int .i64 y.i, .slice y.A y.n y.c, .slice y.B y.m y.d] 39)) := (Below.refl _ w3).alloc (Nat.le_refl _) _
            have I4 := Lib.hid (I3.out.keep bb)
            have B4 := Lib.hid (Cells.below B3.out bb)
            have YA4 := Lib.hid (YA.out.below bb)
            have R4 := Lib.hid (one_msg w3 y)
            clear bb hHeld I3 YA B3
            have hHeld := HS _ _ _ _ _ _ _ _ _ _ I4.out B4.out
            refine hK.out _ _ (fun _ => hHeld) ?_
            clear hK K
            (try simp only [Act.put, List.setIfInBounds_toArray, List.set_cons_zero, List.set_cons_succ])
            obtain ⟨p1, hp1⟩ : ∃ p, p = w3.heap.size := ⟨_, rfl⟩
            rw [← hp1] at R4
            rw [← hp1]
            clear hp1
            generalize w3.alloc (.cells #[.int .i64 y.k, .int .i64 y.f, .int .i64 y.t, .int .i64 y.i, .slice y.A y.n y.c, .slice y.B y.m y.d] 39) = w4 at *
            refine RegK.step 5 rfl (by kernel_rfl) (by rfl) (fun K hK => ?_)
            refine OwnS.wp_append1 fitM Try.underlying26 info_msg rfl (by omega) (.tmp 32) (.tmp 35) rfl rfl w.heap.size (.slice R j d) j l' rfl I4.out.own.own _ 1 1 [y] rfl R4.out (by omega) I4.out.base_ ?_
            intro R' d' w5 ho hg hn
            obtain ⟨G1, G2, G3, G4⟩ := I4.out.grown hg
            have PU := Lib.hid (I4.out.push ho hg hn YA4.out YB.out YL.out)
            have B5 := Lib.hid (cells_grown B4.out hg PBN.out)
            have y1 := (NBox.cells G4).2
            have f1 : w5.frozen? ⟨g, 1, none⟩ = false := Cells.frozen G4 1
            clear hHeld
            have hHeld := And.intro y1 (MBox.cells B5.out)
            refine hK.out _ _ (fun _ => hHeld) ?_
            clear hK K ho hg hn G1 G2 G3 G4 I4 YA4 YB YL R4 B4 B5
            (try simp only [Act.put, List.setIfInBounds_toArray, List.set_cons_zero, List.set_cons_succ])
            (first | (refine RegK.take 6 [7] (v := ?_) rfl (by kernel_rfl) (by kernel_rfl) (by kernel_rfl) (by kernel_rfl) rfl (by kernel_rfl) (fun _ _ _ h => h) (Or.inl ⟨by rfl, ?_⟩) (by assumption) ?_; rotate_left; (focus ((intro W hSW; (try dsimp only at hSW); (try go_split_ands); go_simp; (try (with_reducible rfl)); done)))) | (refine RegK.take 6 [7] (v := undef) rfl (by kernel_rfl) (by kernel_rfl) (by kernel_rfl) (by kernel_rfl) rfl (by kernel_rfl) (fun _ _ _ h => h) (Or.inr ⟨by rfl, rfl⟩) (by assumption) ?_))
            (try simp only [Act.put, List.setIfInBounds_toArray, List.set_cons_zero, List.set_cons_succ])
            refine RegK.step 7 rfl (by kernel_rfl) (by rfl) (fun K hK => ?_)
            go_simp
            refine hK.out _ _ (fun h => absurd rfl h) ?_
            clear hK K hHeld y1 f1
            (try simp only [Act.put, List.setIfInBounds_toArray, List.set_cons_zero, List.set_cons_succ])
            refine RegK.done (by kernel_rfl) ?_ _
            go_wp2_with fail
            go_roundw
            case rel => exact ⟨k + 1, R', j + 1, d', l' ++ [y], by go_num, by omega, PU.out, by rw [HPU.out, List.map_append, HPR.out]; show _ ++ [y.p] = _; rw [YP.out]⟩
            case measure => simp [intOf]; omega
      · have FE : Hid (l'.map Mx.p = sendP cap (l.map Mx.p) (ls.map Mx.p)) := by
          show _ = _
          rw [HPR.out, List.take_of_length_le (by rw [List.length_map]; have := hmlen.out; omega)]
        go_upto_region 10 with fail
        obtain ⟨w3, hw3⟩ : ∃ W, W = wr := ⟨_, rfl⟩
        subst hw3
        have hjn : n ≤ j := JN.out
        have hwr : IntKind.i64.wrap ((j : Int) - (n : Int)) = (j : Int) - (n : Int) := by rw [IntKind.wrap_i64]; omega
        have I9 := Lib.hid (I1.out.keep ((Below.refl _ w3).drew))
        refine wp_region_held_drew (S := fun W => (W.cell? ⟨g, 0, none⟩ = some (.int .i64 (cap : Int)) ∧ W.cell? ⟨g, 1, none⟩ = some (.slice R j d)) ∧ W.cell? ⟨w.heap.size, 1, none⟩ = some (.slice Q n c)) (by kernel_rfl) ⟨NBox.cells I9.out.gb, (NBox.cells I9.out.nb).2⟩ (fun hHeld => ?_)
        generalize w3.drew = w9 at *
        (first | (refine Reg.take 0 (v := ?_) rfl (by kernel_rfl) (by kernel_rfl) (by kernel_rfl) (fun _ _ _ h => h) (Or.inl ⟨by rfl, ?_⟩) (by assumption) ?_; rotate_left; (focus ((intro W hSW); (try dsimp only at hSW); (try go_split_ands); go_simp; (try (with_reducible rfl)); done))) | (refine Reg.take 0 (v := undef) rfl (by kernel_rfl) (by kernel_rfl) (by kernel_rfl) (fun _ _ _ h => h) (Or.inr ⟨by rfl, rfl⟩) (by assumption) ?_))
        (try simp only [Act.put, List.setIfInBounds_toArray, List.set_cons_zero, List.set_cons_succ])
        (first | (refine Reg.take 1 (v := ?_) rfl (by kernel_rfl) (by kernel_rfl) (by kernel_rfl) (fun _ _ _ h => h) (Or.inl ⟨by rfl, ?_⟩) (by assumption) ?_; rotate_left; (focus ((intro W hSW); (try dsimp only at hSW); (try go_split_ands); go_simp; (try (with_reducible rfl)); done))) | (refine Reg.take 1 (v := undef) rfl (by kernel_rfl) (by kernel_rfl) (by kernel_rfl) (fun _ _ _ h => h) (Or.inr ⟨by rfl, rfl⟩) (by assumption) ?_))
        (try simp only [Act.put, List.setIfInBounds_toArray, List.set_cons_zero, List.set_cons_succ])
        (first | (refine Reg.take 2 (v := ?_) rfl (by kernel_rfl) (by kernel_rfl) (by kernel_rfl) (fun _ _ _ h => h) (Or.inl ⟨by rfl, ?_⟩) (by assumption) ?_; rotate_left; (focus ((intro W hSW); (try dsimp only at hSW); (try go_split_ands); go_simp; (try (with_reducible rfl)); done))) | (refine Reg.take 2 (v := undef) rfl (by kernel_rfl) (by kernel_rfl) (by kernel_rfl) (fun _ _ _ h => h) (Or.inr ⟨by rfl, rfl⟩) (by assumption) ?_))
        (try simp only [Act.put, List.setIfInBounds_toArray, List.set_cons_zero, List.set_cons_succ])
        (first | (refine Reg.take 3 (v := ?_) rfl (by kernel_rfl) (by kernel_rfl) (by kernel_rfl) (fun _ _ _ h => h) (Or.inl ⟨by rfl, ?_⟩) (by assumption) ?_; rotate_left; (focus ((intro W hSW); (try dsimp only at hSW); (try go_split_ands); go_simp; (try (with_reducible rfl)); done))) | (refine Reg.take 3 (v := undef) rfl (by kernel_rfl) (by kernel_rfl) (by kernel_rfl) (fun _ _ _ h => h) (Or.inr ⟨by rfl, rfl⟩) (by assumption) ?_))
        (try simp only [Act.put, List.setIfInBounds_toArray, List.set_cons_zero, List.set_cons_succ])
        (first | (refine Reg.take 4 (v := ?_) rfl (by kernel_rfl) (by kernel_rfl) (by kernel_rfl) (fun _ _ _ h => h) (Or.inl ⟨by rfl, ?_⟩) (by assumption) ?_; rotate_left; (focus ((intro W hSW); (try dsimp only at hSW); (try go_split_ands); go_simp; (try (with_reducible rfl)); done))) | (refine Reg.take 4 (v := undef) rfl (by kernel_rfl) (by kernel_rfl) (by kernel_rfl) (fun _ _ _ h => h) (Or.inr ⟨by rfl, rfl⟩) (by assumption) ?_))
        (try simp only [Act.put, List.setIfInBounds_toArray, List.set_cons_zero, List.set_cons_succ])
        (first | (refine Reg.take 5 (v := ?_) rfl (by kernel_rfl) (by kernel_rfl) (by kernel_rfl) (fun _ _ _ h => h) (Or.inl ⟨by rfl, ?_⟩) (by assumption) ?_; rotate_left; (focus ((intro W hSW); (try dsimp only at hSW); (try go_split_ands); go_simp; (try (with_reducible rfl)); done))) | (refine Reg.take 5 (v := undef) rfl (by kernel_rfl) (by kernel_rfl) (by kernel_rfl) (fun _ _ _ h => h) (Or.inr ⟨by rfl, rfl⟩) (by assumption) ?_))
        (try simp only [Act.put, List.setIfInBounds_toArray, List.set_cons_zero, List.set_cons_succ])
        (first | (refine Reg.take 6 (v := ?_) rfl (by kernel_rfl) (by kernel_rfl) (by kernel_rfl) (fun _ _ _ h => h) (Or.inl ⟨by rfl, ?_⟩) (by assumption) ?_; rotate_left; (focus ((intro W hSW); (try dsimp only at hSW); (try go_split_ands); go_simp; (try (with_reducible rfl)); done))) | (refine Reg.take 6 (v := undef) rfl (by kernel_rfl) (by kernel_rfl) (by kernel_rfl) (fun _ _ _ h => h) (Or.inr ⟨by rfl, rfl⟩) (by assumption) ?_))
        (try simp only [Act.put, List.setIfInBounds_toArray, List.set_cons_zero, List.set_cons_succ])
        (first | (refine Reg.take 7 (v := ?_) rfl (by kernel_rfl) (by kernel_rfl) (by kernel_rfl) (fun _ _ _ h => h) (Or.inl ⟨by rfl, ?_⟩) (by assumption) ?_; rotate_left; (focus ((intro W hSW); (try dsimp only at hSW); (try go_split_ands); go_simp; (try (with_reducible rfl)); done))) | (refine Reg.take 7 (v := undef) rfl (by kernel_rfl) (by kernel_rfl) (by kernel_rfl) (fun _ _ _ h => h) (Or.inr ⟨by rfl, rfl⟩) (by assumption) ?_))
        (try simp only [Act.put, List.setIfInBounds_toArray, List.set_cons_zero, List.set_cons_succ])
        have z0 := (NBox.cells I9.out.zb).1
        have z1 := (NBox.cells I9.out.zb).2
        have f0 : w9.frozen? ⟨w.heap.size + 1, 0, none⟩ = false := Cells.frozen I9.out.zb 0
        have f1 : w9.frozen? ⟨w.heap.size + 1, 1, none⟩ = false := Cells.frozen I9.out.zb 1
        refine Reg.step 8 rfl (by kernel_rfl) (by rfl) (fun K hK => ?_)
        go_simp
        have bt := Mov.set2 w9 (w.heap.size + 1) (.int .i64 (cap : Int)) (.slice R j d)
        have HR := Cells.set2 I9.out.zb (.int .i64 (cap : Int)) (.slice R j d)
        have HO9 := Lib.hid (I9.out.own.mov I9.out.zb (by decide) (fun x hx q hq => (I9.out.bn x hx q hq).2) bt)
        have LF := Lib.hid (I9.out.below.trans (bt.up I9.out.base_ (by omega)))
        have XG := Cells.mov I9.out.gb bt (by have := I9.out.ne; simp; omega)
        have XB := Cells.mov I9.out.nb bt (by simp)
        have HR := Lib.hid HR
        clear z0 z1 f0 f1 hHeld bt I9
        generalize (w9.setCell ⟨w.heap.size + 1, 0, none⟩ (.int .i64 (cap : Int))).setCell ⟨w.heap.size + 1, 1, none⟩ (.slice R j d) = w10 at *
        refine hK.out _ _ ⟨NBox.cells XG, (NBox.cells XB).2⟩ (fun hHeld => ?_)
        clear hK K XG XB
        (try simp only [Act.put, List.setIfInBounds_toArray, List.set_cons_zero, List.set_cons_succ])
        (first | (refine Reg.take 9 (v := ?_) rfl (by kernel_rfl) (by kernel_rfl) (by kernel_rfl) (fun _ _ _ h => h) (Or.inl ⟨by rfl, ?_⟩) (by assumption) ?_; rotate_left; (focus ((intro W hSW); (try dsimp only at hSW); (try go_split_ands); go_simp; (try (with_reducible rfl)); done))) | (refine Reg.take 9 (v := undef) rfl (by kernel_rfl) (by kernel_rfl) (by kernel_rfl) (fun _ _ _ h => h) (Or.inr ⟨by rfl, rfl⟩) (by assumption) ?_))
        (try simp only [Act.put, List.setIfInBounds_toArray, List.set_cons_zero, List.set_cons_succ])
        refine wpAnyH_done (by kernel_rfl) ?_ _
        clear hHeld
        go_wp2_with fail
        refine bodyPost_ret_by (results_c1 rfl _ _ (w.heap.size + 1) _ _ _ _ rfl HR.out Try.underlying28 rfl (by kernel_rfl)) rfl ?_
        exact ⟨R, j, d, l', by rw [← FE.out, List.length_map, HO9.out.len]; rfl, HO9.out, FE.out, LF.out⟩
end Net
end Go.Proofs.Ytamahknnppjegaa
