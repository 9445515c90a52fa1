/-
  THE STATEMENT NetCuts: its walk.
-/
import Derived.Test.YtamahknnppjegaaNetLaw
namespace Go.Proofs.Ytamahknnppjegaa
open Go.RowKit Mem Box
namespace Net
open Wire (B8)

set_option maxRecDepth 100000 in
set_option maxHeartbeats 12800000 in
theorem cuts_walk (M : Option Addr) (m e : Nat) (ls : List Mx) (node : Int) (w : World) (h : NetAt w M m e ls) : Calls Try.prog 8 #[.slice M m e, .int .i64 node] w fun e w' => e = .returned (.bool true) ∧ Below w.heap.size w w' := by
  obtain ⟨cap, hcap⟩ : ∃ c : Nat, (300 : Int) = (c : Int) := ⟨300, rfl⟩
  have hc1 : cap = 300 := by omega
  have HCAP := Lib.hid hc1
  have HN := fun W => Lib.hid (new_at hcap (by omega) (by omega) W)
  have HS := fun W (h2 : NetAt W M m e ls) => Lib.hid (send_new (cap := cap) (by omega) h2)
  have HM := Lib.hid h
  have HBG := fun W (h : NetAt W M m e ls) => Lib.hid (big_any h)
  have HLV := Lib.hid (live_any w)
  unfold nv at HS
  clear hcap hc1 h
  rcases e1 : decide ((200 : Int) < (m : Int))
  · have hm200 : m ≤ 200 := by have := of_decide_eq_false e1; omega
    go_enter Try.func8, Try.ntmps8
    go_wp2_with fail
    refine HLV.out.mono ?_
    rintro e w1 ⟨rfl, hb⟩
    have L1 := Lib.hid hb
    clear hb HLV
    go_wp2_with fail
    refine (HBG _ (HM.out.below L1.out)).out.mono ?_
    rintro e w2 ⟨⟨b, rfl⟩, hb⟩
    have L2 := Lib.hid (L1.out.trans (hb.mono L1.out.size))
    clear hb HBG
    rcases b
    · skip
      go_wp2_with fail
      refine (HN w2).out.mono ?_
      rintro e w3 ⟨rfl, hb⟩
      have L3 := Lib.hid (L2.out.trans (hb.mono L2.out.size))
      unfold nv
      clear hb HN L1 L2
      go_upto_region 7 with fail
      have A3 : Below w3.heap.size w3 (w3.alloc (.cells #[.int .i64 (cap : Int), .slice none 0 0] 28)) := (Below.refl _ w3).alloc (Nat.le_refl _) _
      have L4 := Lib.hid (L3.out.trans (A3.mono L3.out.size))
      have X4 : Hid (NBox (w3.alloc (.cells #[.int .i64 (cap : Int), .slice none 0 0] 28)) w3.heap.size cap none 0 0) := Cells.new _ _ _
      obtain ⟨g, hg⟩ : ∃ g, g = w3.heap.size := ⟨_, rfl⟩
      have EG : Hid (w.heap.size ≤ g) := by show _ ≤ _; rw [hg]; exact L3.out.size
      rw [← hg] at X4
      rw [← hg]
      clear hg L3 A3
      generalize w3.alloc (.cells #[.int .i64 (cap : Int), .slice none 0 0] 28) = w4 at *
      obtain ⟨k0, k1⟩ := NBox.cells X4.out
      go_upto_region 8 with (first | (go_at_call 27; refine (HS _ (HM.out.below L4.out)).out.mono ?_; rintro e w5 ⟨Q, n, c, l, rfl, hO, hP, hnc, hb⟩; have L5 := Lib.hid (L4.out.trans (hb.mono L4.out.size)); have X5 := Lib.hid (Cells.below X4.out hb); have HB := Lib.hid (Cells.lt X4.out); have HO := Lib.hid hO; have HP := Lib.hid hP; obtain ⟨j0, j1⟩ := NBox.cells X5.out; have f0 := Cells.frozen X5.out 0; have f1 := Cells.frozen X5.out 1; (try unfold nv); clear hb hO hP k0 k1) | fail)
      have bt := Mov.set2 w5 g (.int .i64 (cap : Int)) (.slice Q n c)
      have X6 := Lib.hid (Cells.set2 X5.out (.int .i64 (cap : Int)) (.slice Q n c))
      have L6 := Lib.hid (L5.out.trans (bt.up L5.out.size EG.out))
      have N6 := Lib.hid ((HO.out.mov X5.out (by decide) (fun y hy q hq => by have h1 := HO.out.low y hy q hq; have h2 := HB.out; omega) bt).net (by omega))
      have NL6 := Lib.hid HO.out.len
      have NLT : Hid (∀ x ∈ l, ∀ q, Bl x q → g < q) := fun x hx q hq => by have h1 := HO.out.low x hx q hq; have h2 := HB.out; omega
      clear j0 j1 f0 f1 bt X5 X4 L4 L5 HO HB HS
      generalize (w5.setCell ⟨g, 0, none⟩ (.int .i64 (cap : Int))).setCell ⟨g, 1, none⟩ (.slice Q n c) = w6 at *
      have HCT := Lib.hid (cut_any (cap := cap) N6.out (by omega) node)
      have hlp : (l.map Mx.p).length = n := by rw [List.length_map]; exact NL6.out
      have HLP := Lib.hid hlp
      have hfl : ((l.map Mx.p).filter (offB node)).length ≤ n := by rw [← hlp]; exact List.length_filter_le _ _
      have HPL : Hid (∀ i (x : Mx), l[i]? = some x → (l.map Mx.p)[i]? = some x.p) := fun i x hx => by rw [List.getElem?_map, hx]; rfl
      have HTF := Lib.hid (to_off (l.map Mx.p) node)
      have HFN := fun i (x : Mx) (hx : (l.map Mx.p)[i]? = some x.p) => Lib.hid (filter_next (q := offB node) hx)
      have HFA := fun i (x : Mx) (hx : (l.map Mx.p)[i]? = some x.p) (hq : offB node x.p = true) => Lib.hid (filter_at hx hq)
      have HF0 : Hid ((((l.map Mx.p).take 0).filter (offB node)).length = 0) := rfl
      have HFE : Hid ((((l.map Mx.p).take n).filter (offB node)).length = ((l.map Mx.p).filter (offB node)).length) := by show _ = _; rw [List.take_of_length_le (by omega)]
      generalize hpl : l.map Mx.p = pl at *
      obtain ⟨C, hC⟩ : ∃ C, C = (pl.filter (offB node)).length := ⟨_, rfl⟩
      obtain ⟨G, hG⟩ : ∃ G : Nat, (n : Int) - ((C : Nat) : Int) = (G : Int) := ⟨n - C, by omega⟩
      rw [← hC, hG] at HCT
      rw [← hC] at HFE hfl
      have hq : (((C : Int) + (G : Int)) != (n : Int)) = false := by rw [bne_eq_false_iff_eq]; omega
      have hG4 : G ≤ 4096 := by omega
      have hC4 : C ≤ 4096 := by omega
      have HFL := Lib.hid hC
      clear hlp hfl hC hG hpl
      obtain ⟨k0, k1⟩ := NBox.cells X6.out
      unfold nv at HCT
      go_upto_region 9 with (first | (go_at_call 33; refine HCT.out.mono ?_; rintro e w7 ⟨Q2, n2, c2, l2, rfl, hO, hP2, hb⟩; have L7 := Lib.hid (L6.out.trans (hb.mono L6.out.size)); have X7 := Lib.hid (Cells.below X6.out hb); have B7 := Lib.hid hb; have hn2 : C = n2 := (by rw [← hO.len, HFL.out, ← hP2, List.length_map]); subst hn2; have N7 := Lib.hid (hO.net (by omega)); have HP2 := Lib.hid hP2; (try unfold nv); clear hb hO hP2 k0 k1) | fail)
      have A7 : Below w7.heap.size w7 (w7.alloc (.cells #[.int .i64 (cap : Int), .slice Q2 C c2] 28)) := (Below.refl _ w7).alloc (Nat.le_refl _) _
      have L8 := Lib.hid (L7.out.trans (A7.mono L7.out.size))
      have X8 := Lib.hid (Cells.below X7.out A7)
      have B8 := Lib.hid (B7.out.trans (A7.mono B7.out.size))
      have N8 := Lib.hid (N7.out.below A7)
      have C8 : Hid (NBox (w7.alloc (.cells #[.int .i64 (cap : Int), .slice Q2 C c2] 28)) w7.heap.size cap Q2 C c2) := Cells.new _ _ _
      obtain ⟨g2, hg2⟩ : ∃ g, g = w7.heap.size := ⟨_, rfl⟩
      rw [← hg2] at C8
      rw [← hg2]
      clear A7 L7 X7 B7 N7 hg2 HCT
      generalize w7.alloc (.cells #[.int .i64 (cap : Int), .slice Q2 C c2] 28) = w8 at *
      obtain ⟨k0, k1⟩ := NBox.cells X8.out
      obtain ⟨m0, m1⟩ := NBox.cells C8.out
      have HTO := Lib.hid (to_any (cap := cap) N8.out (by omega) node)
      rw [HP2.out, HTF.out] at HTO
      unfold nv at HTO
      go_upto_region 12 with (first | (go_at_call 21; refine HTO.out.mono ?_; rintro e w9 ⟨⟨X, kk, d, rfl, hO⟩, hb⟩; have L9 := Lib.hid (L8.out.trans (hb.mono L8.out.size)); have X9 := Lib.hid (Cells.below X8.out hb); have C9 := Lib.hid (Cells.below C8.out hb); have B9 := Lib.hid (B8.out.trans (hb.mono B8.out.size)); have V9 := Lib.hid hb; have hkk : kk = 0 := hO.len.symm; subst hkk; clear hb hO k0 k1 m0 m1) | fail)
      obtain ⟨k0, k1⟩ := NBox.cells X9.out
      clear HTO
      go_wp2_with fail
      clear k0 k1
      go_loopw [11, 13, 58] (fun s _ i wr => ∃ (k a : Nat), i = .int .i64 k ∧ s = .int .i64 a ∧ k ≤ n ∧ a ≤ C ∧ Hid (a = ((pl.take k).filter (offB node)).length ∧ Below w9.heap.size w9 wr)) (fun _ _ i _ => n - (intOf i).toNat)
      case atStart => exact ⟨0, 0, rfl, rfl, by omega, by omega, HF0.out, Below.refl _ _⟩
      case round =>
        obtain ⟨k, a, rfl, rfl, hk, haC, hH⟩ := hrel
        have hW := hH.out.2
        have HA := Lib.hid hH.out.1
        have L1 := Lib.hid (L9.out.trans (hW.mono L9.out.size))
        have C1 := Lib.hid (Cells.below C9.out hW)
        have B1 := Lib.hid (B9.out.trans (hW.mono B9.out.size))
        have V1 := Lib.hid (V9.out.trans (hW.mono V9.out.size))
        have D1 := Lib.hid hW
        clear hH hW
        by_cases hlt : k < n
        · obtain ⟨x, hx, hxm⟩ := N6.out.get hlt
          obtain ⟨b2, o2, hQ, hb2, hcs⟩ := N6.out.cells hx
          have hpx := HPL.out k x hx
          have HX := Lib.hid hpx
          have HNX := HFN k x hpx
          have HAX := HFA k x hpx
          obtain ⟨c0, c1, c2', c3, c4, c5⟩ := hcs wr B1.out
          have HXM := Lib.hid hxm
          subst hQ
          have hk0 : (0 : Int) ≤ (k : Int) := by omega
          have hkn : (k : Int) < (n : Int) := by omega
          clear hx hxm hcs hb2 hpx
          go_upto_region 15 with fail
          clear c0 c1 c2' c3 c4 c5
          have bb : Below wr.heap.size wr (wr.alloc (.cells #[.int .i64 x.k, .int .i64 x.f, .int .i64 x.t, .int .i64 x.i, .slice x.A x.n x.c, .slice x.B x.m x.d] 39)) := (Below.refl _ wr).alloc (Nat.le_refl _) _
          have L2 := Lib.hid (L1.out.trans (bb.mono L1.out.size))
          have C2 := Lib.hid (Cells.below C1.out bb)
          have B2 := Lib.hid (B1.out.trans (bb.mono B1.out.size))
          have V2 := Lib.hid (V1.out.trans (bb.mono V1.out.size))
          have D2 := Lib.hid (D1.out.trans (bb.mono D1.out.size))
          have P2 : Hid (MBox (wr.alloc (.cells #[.int .i64 x.k, .int .i64 x.f, .int .i64 x.t, .int .i64 x.i, .slice x.A x.n x.c, .slice x.B x.m x.d] 39)) wr.heap.size x) := Cells.new _ _ _
          obtain ⟨p, hp⟩ : ∃ p, p = wr.heap.size := ⟨_, rfl⟩
          rw [← hp] at P2
          rw [← hp]
          clear bb hp L1 C1 B1 V1 D1
          generalize wr.alloc (.cells #[.int .i64 x.k, .int .i64 x.f, .int .i64 x.t, .int .i64 x.i, .slice x.A x.n x.c, .slice x.B x.m x.d] 39) = w2 at *
          obtain ⟨n0, n1, n2, n3, n4, n5⟩ := MBox.cells P2.out
          rcases f1 : (x.f == node)
          · rcases f2 : (x.t == node)
            · have hoff : offB node x.p = true := by unfold offB; simp only [Mx.p, bne, f1, f2]; rfl
              have hat := (HAX hoff).out
              rw [← HA.out] at hat
              rw [hoff, cond_true, ← HA.out] at HNX
              obtain ⟨y, hy⟩ : ∃ y, l2[a]? = some y := by
                rw [← HP2.out, List.getElem?_map] at hat
                obtain ⟨y, hy, -⟩ := Option.map_eq_some_iff.1 hat
                exact ⟨y, hy⟩
              have hyp : y.p = x.p := by
                rw [← HP2.out, List.getElem?_map, hy] at hat
                injection hat
              have ha : a < C := by rw [← N8.out.row.len]; exact (List.getElem?_eq_some_iff.1 hy).1
              obtain ⟨b3, o3, hQ2, hb3, hcs3⟩ := N8.out.cells hy
              subst hQ2
              have HC3 := Lib.hid hcs3
              have HSM := fun W (h : Below w8.heap.size w8 W) (h2 : Below w6.heap.size w6 W) => Lib.hid (sameMsg_any ((N8.out.at_ y (List.mem_of_getElem? hy)).below h) (HXM.out.below h2))
              rw [decide_eq_true hyp] at HSM
              have hd1 : decide ((C : Int) ≤ (a : Int)) = false := decide_eq_false (by omega)
              have hd2 : decide (C ≤ a) = false := decide_eq_false (by omega)
              have ha0 : (0 : Int) ≤ (a : Int) := by omega
              have ha1 : (a : Int) < (C : Int) := by omega
              unfold mxv at HSM
              clear hy hyp hcs3 hb3 hat hoff HAX
              go_upto_region 16 with fail
              clear n0 n1 n2 n3 n4 n5
              obtain ⟨w3, hw3⟩ : ∃ W, W = w2 := ⟨_, rfl⟩
              subst hw3
              have L3 := L2
              have C3 := C2
              have P3 := P2
              have V3 := V2
              have B3 := B2
              have D3 := D2
              clear L2 C2 P2 V2 B2 D2
              have L4 := Lib.hid L3.out.drew
              have C4 := Lib.hid (Cells.below C3.out ((Below.refl _ w3).drew))
              have P4 := Lib.hid (Cells.below P3.out ((Below.refl _ w3).drew))
              have V4 := Lib.hid (V3.out.drew)
              have B4 := Lib.hid (B3.out.drew)
              have D4 := Lib.hid (D3.out.drew)
              refine wp_region_held_drew (S := fun W => (W.cell? ⟨g2, 1, none⟩ = some (.slice (some ⟨b3, o3, none⟩) C c2)) ∧ (W.cell? ⟨b3, o3 + a * 6, none⟩ = some (.int .i64 y.k) ∧ W.cell? ⟨b3, o3 + a * 6 + 1, none⟩ = some (.int .i64 y.f) ∧ W.cell? ⟨b3, o3 + a * 6 + 2, none⟩ = some (.int .i64 y.t) ∧ W.cell? ⟨b3, o3 + a * 6 + 3, none⟩ = some (.int .i64 y.i) ∧ W.cell? ⟨b3, o3 + a * 6 + 4, none⟩ = some (.slice y.A y.n y.c) ∧ W.cell? ⟨b3, o3 + a * 6 + 5, none⟩ = some (.slice y.B y.m y.d)) ∧ (W.cell? ⟨p, 0, none⟩ = some (.int .i64 x.k) ∧ W.cell? ⟨p, 1, none⟩ = some (.int .i64 x.f) ∧ W.cell? ⟨p, 2, none⟩ = some (.int .i64 x.t) ∧ W.cell? ⟨p, 3, none⟩ = some (.int .i64 x.i) ∧ W.cell? ⟨p, 4, none⟩ = some (.slice x.A x.n x.c) ∧ W.cell? ⟨p, 5, none⟩ = some (.slice x.B x.m x.d))) (by kernel_rfl) (And.intro (NBox.cells C4.out).2 (And.intro (HC3.out _ V4.out) (MBox.cells P4.out))) (fun hHeld => ?_)
              generalize w3.drew = w4 at *
              clear L3 C3 P3 V3 B3 D3 
              (first | (refine Reg.take 0 (v := ?_) rfl (by kernel_rfl) (by kernel_rfl) (by kernel_rfl) (fun _ _ _ h => h) (Or.inl ⟨by rfl, ?_⟩) (by assumption) ?_; rotate_left; (focus ((intro W hSW); (try dsimp only at hSW); (try go_split_ands); go_simp; (try (with_reducible rfl)); done))) | (refine Reg.take 0 (v := undef) rfl (by kernel_rfl) (by kernel_rfl) (by kernel_rfl) (fun _ _ _ h => h) (Or.inr ⟨by rfl, rfl⟩) (by assumption) ?_))
              (try simp only [Act.put, List.setIfInBounds_toArray, List.set_cons_zero, List.set_cons_succ])
              (first | (refine Reg.take 1 (v := ?_) rfl (by kernel_rfl) (by kernel_rfl) (by kernel_rfl) (fun _ _ _ h => h) (Or.inl ⟨by rfl, ?_⟩) (by assumption) ?_; rotate_left; (focus ((intro W hSW); (try dsimp only at hSW); (try go_split_ands); go_simp; (try (with_reducible rfl)); done))) | (refine Reg.take 1 (v := undef) rfl (by kernel_rfl) (by kernel_rfl) (by kernel_rfl) (fun _ _ _ h => h) (Or.inr ⟨by rfl, rfl⟩) (by assumption) ?_))
              (try simp only [Act.put, List.setIfInBounds_toArray, List.set_cons_zero, List.set_cons_succ])
              (first | (refine Reg.take 2 (v := ?_) rfl (by kernel_rfl) (by kernel_rfl) (by kernel_rfl) (fun _ _ _ h => h) (Or.inl ⟨by rfl, ?_⟩) (by assumption) ?_; rotate_left; (focus ((intro W hSW); (try dsimp only at hSW); (try go_split_ands); go_simp; (try (with_reducible rfl)); done))) | (refine Reg.take 2 (v := undef) rfl (by kernel_rfl) (by kernel_rfl) (by kernel_rfl) (fun _ _ _ h => h) (Or.inr ⟨by rfl, rfl⟩) (by assumption) ?_))
              (try simp only [Act.put, List.setIfInBounds_toArray, List.set_cons_zero, List.set_cons_succ])
              (first | (refine Reg.take 3 (v := ?_) rfl (by kernel_rfl) (by kernel_rfl) (by kernel_rfl) (fun _ _ _ h => h) (Or.inl ⟨by rfl, ?_⟩) (by assumption) ?_; rotate_left; (focus ((intro W hSW); (try dsimp only at hSW); (try go_split_ands); go_simp; (try (with_reducible rfl)); done))) | (refine Reg.take 3 (v := undef) rfl (by kernel_rfl) (by kernel_rfl) (by kernel_rfl) (fun _ _ _ h => h) (Or.inr ⟨by rfl, rfl⟩) (by assumption) ?_))
              (try simp only [Act.put, List.setIfInBounds_toArray, List.set_cons_zero, List.set_cons_succ])
              (first | (refine Reg.take 4 (v := ?_) rfl (by kernel_rfl) (by kernel_rfl) (by kernel_rfl) (fun _ _ _ h => h) (Or.inl ⟨by rfl, ?_⟩) (by assumption) ?_; rotate_left; (focus ((intro W hSW); (try dsimp only at hSW); (try go_split_ands); go_simp; (try (with_reducible rfl)); done))) | (refine Reg.take 4 (v := undef) rfl (by kernel_rfl) (by kernel_rfl) (by kernel_rfl) (fun _ _ _ h => h) (Or.inr ⟨by rfl, rfl⟩) (by assumption) ?_))
              (try simp only [Act.put, List.setIfInBounds_toArray, List.set_cons_zero, List.set_cons_succ])
              (first | (refine Reg.take 5 (v := ?_) rfl (by kernel_rfl) (by kernel_rfl) (by kernel_rfl) (fun _ _ _ h => h) (Or.inl ⟨by rfl, ?_⟩) (by assumption) ?_; rotate_left; (focus ((intro W hSW); (try dsimp only at hSW); (try go_split_ands); go_simp; (try (with_reducible rfl)); done))) | (refine Reg.take 5 (v := undef) rfl (by kernel_rfl) (by kernel_rfl) (by kernel_rfl) (fun _ _ _ h => h) (Or.inr ⟨by rfl, rfl⟩) (by assumption) ?_))
              (try simp only [Act.put, List.setIfInBounds_toArray, List.set_cons_zero, List.set_cons_succ])
              (first | (refine Reg.take 6 (v := ?_) rfl (by kernel_rfl) (by kernel_rfl) (by kernel_rfl) (fun _ _ _ h => h) (Or.inl ⟨by rfl, ?_⟩) (by assumption) ?_; rotate_left; (focus ((intro W hSW); (try dsimp only at hSW); (try go_split_ands); go_simp; (try (with_reducible rfl)); done))) | (refine Reg.take 6 (v := undef) rfl (by kernel_rfl) (by kernel_rfl) (by kernel_rfl) (fun _ _ _ h => h) (Or.inr ⟨by rfl, rfl⟩) (by assumption) ?_))
              (try simp only [Act.put, List.setIfInBounds_toArray, List.set_cons_zero, List.set_cons_succ])
              (first | (refine Reg.take 7 (v := ?_) rfl (by kernel_rfl) (by kernel_rfl) (by kernel_rfl) (fun _ _ _ h => h) (Or.inl ⟨by rfl, ?_⟩) (by assumption) ?_; rotate_left; (focus ((intro W hSW); (try dsimp only at hSW); (try go_split_ands); go_simp; (try (with_reducible rfl)); done))) | (refine Reg.take 7 (v := undef) rfl (by kernel_rfl) (by kernel_rfl) (by kernel_rfl) (fun _ _ _ h => h) (Or.inr ⟨by rfl, rfl⟩) (by assumption) ?_))
              (try simp only [Act.put, List.setIfInBounds_toArray, List.set_cons_zero, List.set_cons_succ])
              (first | (refine Reg.take 8 (v := ?_) rfl (by kernel_rfl) (by kernel_rfl) (by kernel_rfl) (fun _ _ _ h => h) (Or.inl ⟨by rfl, ?_⟩) (by assumption) ?_; rotate_left; (focus ((intro W hSW); (try dsimp only at hSW); (try go_split_ands); go_simp; (try (with_reducible rfl)); done))) | (refine Reg.take 8 (v := undef) rfl (by kernel_rfl) (by kernel_rfl) (by kernel_rfl) (fun _ _ _ h => h) (Or.inr ⟨by rfl, rfl⟩) (by assumption) ?_))
              (try simp only [Act.put, List.setIfInBounds_toArray, List.set_cons_zero, List.set_cons_succ])
              (first | (refine Reg.take 9 (v := ?_) rfl (by kernel_rfl) (by kernel_rfl) (by kernel_rfl) (fun _ _ _ h => h) (Or.inl ⟨by rfl, ?_⟩) (by assumption) ?_; rotate_left; (focus ((intro W hSW); (try dsimp only at hSW); (try go_split_ands); go_simp; (try (with_reducible rfl)); done))) | (refine Reg.take 9 (v := undef) rfl (by kernel_rfl) (by kernel_rfl) (by kernel_rfl) (fun _ _ _ h => h) (Or.inr ⟨by rfl, rfl⟩) (by assumption) ?_))
              (try simp only [Act.put, List.setIfInBounds_toArray, List.set_cons_zero, List.set_cons_succ])
              (first | (refine Reg.take 10 (v := ?_) rfl (by kernel_rfl) (by kernel_rfl) (by kernel_rfl) (fun _ _ _ h => h) (Or.inl ⟨by rfl, ?_⟩) (by assumption) ?_; rotate_left; (focus ((intro W hSW); (try dsimp only at hSW); (try go_split_ands); go_simp; (try (with_reducible rfl)); done))) | (refine Reg.take 10 (v := undef) rfl (by kernel_rfl) (by kernel_rfl) (by kernel_rfl) (fun _ _ _ h => h) (Or.inr ⟨by rfl, rfl⟩) (by assumption) ?_))
              (try simp only [Act.put, List.setIfInBounds_toArray, List.set_cons_zero, List.set_cons_succ])
              (first | (refine Reg.take 11 (v := ?_) rfl (by kernel_rfl) (by kernel_rfl) (by kernel_rfl) (fun _ _ _ h => h) (Or.inl ⟨by rfl, ?_⟩) (by assumption) ?_; rotate_left; (focus ((intro W hSW); (try dsimp only at hSW); (try go_split_ands); go_simp; (try (with_reducible rfl)); done))) | (refine Reg.take 11 (v := undef) rfl (by kernel_rfl) (by kernel_rfl) (by kernel_rfl) (fun _ _ _ h => h) (Or.inr ⟨by rfl, rfl⟩) (by assumption) ?_))
              (try simp only [Act.put, List.setIfInBounds_toArray, List.set_cons_zero, List.set_cons_succ])
              refine Reg.step 12 rfl (by kernel_rfl) (by rfl) (fun K hK => ?_)
              go_simp
              refine ((HSM _ V4.out B4.out).out).mono ?_
              rintro e w5 ⟨rfl, hb⟩
              have L5 := Lib.hid (L4.out.trans (hb.mono L4.out.size))
              have C5 := Lib.hid (Cells.below C4.out hb)
              have P5 := Lib.hid (Cells.below P4.out hb)
              have V5 := Lib.hid (V4.out.trans (hb.mono V4.out.size))
              have B5 := Lib.hid (B4.out.trans (hb.mono B4.out.size))
              have D5 := Lib.hid (D4.out.trans (hb.mono D4.out.size))
              clear hb hHeld 
              clear L4 C4 P4 V4 B4 D4 
              refine hK.out _ _ (And.intro (NBox.cells C5.out).2 (And.intro (HC3.out _ V5.out) (MBox.cells P5.out))) (fun hHeld => ?_)
              clear hK K
              (try simp only [Act.put, List.setIfInBounds_toArray, List.set_cons_zero, List.set_cons_succ])
              (first | (refine Reg.take 13 (v := ?_) rfl (by kernel_rfl) (by kernel_rfl) (by kernel_rfl) (fun _ _ _ h => h) (Or.inl ⟨by rfl, ?_⟩) (by assumption) ?_; rotate_left; (focus ((intro W hSW); (try dsimp only at hSW); (try go_split_ands); go_simp; (try (with_reducible rfl)); done))) | (refine Reg.take 13 (v := undef) rfl (by kernel_rfl) (by kernel_rfl) (by kernel_rfl) (fun _ _ _ h => h) (Or.inr ⟨by rfl, rfl⟩) (by assumption) ?_))
              (try simp only [Act.put, List.setIfInBounds_toArray, List.set_cons_zero, List.set_cons_succ])
              (first | (refine Reg.take 14 (v := ?_) rfl (by kernel_rfl) (by kernel_rfl) (by kernel_rfl) (fun _ _ _ h => h) (Or.inl ⟨by rfl, ?_⟩) (by assumption) ?_; rotate_left; (focus ((intro W hSW); (try dsimp only at hSW); (try go_split_ands); go_simp; (try (with_reducible rfl)); done))) | (refine Reg.take 14 (v := undef) rfl (by kernel_rfl) (by kernel_rfl) (by kernel_rfl) (fun _ _ _ h => h) (Or.inr ⟨by rfl, rfl⟩) (by assumption) ?_))
              (try simp only [Act.put, List.setIfInBounds_toArray, List.set_cons_zero, List.set_cons_succ])
              refine wpAnyH_done (by kernel_rfl) ?_ _
              clear hHeld
              go_wp2_with fail
              go_roundw
              case rel => exact ⟨k + 1, a + 1, by go_num, by go_num, by omega, by omega, HNX.out.symm, D5.out⟩
              case measure => simp [intOf]; omega
            · have hoff : offB node x.p = false := by unfold offB; simp only [Mx.p, bne, f1, f2]; rfl
              rw [hoff, cond_false, Nat.add_zero, ← HA.out] at HNX
              go_wp2_with fail
              go_roundw
              case rel => exact ⟨k + 1, a, by go_num, rfl, by omega, by omega, HNX.out.symm, D2.out⟩
              case measure => simp [intOf]; omega
          · have hoff : offB node x.p = false := by unfold offB; simp only [Mx.p, bne, f1]; rfl
            rw [hoff, cond_false, Nat.add_zero, ← HA.out] at HNX
            go_wp2_with fail
            go_roundw
            case rel => exact ⟨k + 1, a, by go_num, rfl, by omega, by omega, HNX.out.symm, D2.out⟩
            case measure => simp [intOf]; omega
        · have hkn : k = n := by omega
          subst hkn
          have haC2 : a = C := by rw [HA.out, HFE.out]
          subst haC2
          obtain ⟨m0, m1⟩ := NBox.cells C1.out
          go_wp2_with fail
          go_ret
          exact ⟨by rfl, L1.out⟩
    · skip
      go_wp2_with fail
      go_ret
      exact ⟨by rfl, L2.out⟩
  · skip
    go_enter Try.func8, Try.ntmps8
    go_wp2_with fail
    refine HLV.out.mono ?_
    rintro e w1 ⟨rfl, hb⟩
    have L1 := Lib.hid hb
    clear hb HLV
    go_wp2_with fail
    refine (HBG _ (HM.out.below L1.out)).out.mono ?_
    rintro e w2 ⟨⟨b, rfl⟩, hb⟩
    have L2 := Lib.hid (L1.out.trans (hb.mono L1.out.size))
    clear hb HBG
    rcases b
    · skip
      go_wp2_with fail
      go_ret
      exact ⟨by rfl, L2.out⟩
    · skip
      go_wp2_with fail
      go_ret
      exact ⟨by rfl, L2.out⟩
end Net
end Go.Proofs.Ytamahknnppjegaa
