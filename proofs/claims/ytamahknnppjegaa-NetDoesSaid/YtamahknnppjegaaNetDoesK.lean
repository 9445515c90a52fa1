/-
  SEVERAL TEXTS IN ONE FILE: NetDoes, NetDoesRow.
-/
import Derived.Test.YtamahknnppjegaaNetDoesI
import Derived.Test.YtamahknnppjegaaNetLaw
import Derived.Test.YtamahknnppjegaaNetRowM
import Derived.Test.YtamahknnppjegaaCut
/-
  THE STATEMENT NetDoes: its walk.
-/
namespace Go.Proofs.Ytamahknnppjegaa
open Go.RowKit Mem Box
namespace Net
open Wire (B8 GaveE asInts)

set_option maxRecDepth 100000 in
set_option maxHeartbeats 51200000 in
theorem does_walk (most : Int) (A : Option Addr) (N C : Nat) (os : List Ox) (B : Option Addr) (bn bc : Nat) (lb : List B8) (w : World) (h : OpsAt w A N C os) (hb0 : Row cb w B bn bc lb) :
    Calls Try.prog 3 #[.int .i64 most, .slice A N C, .slice B bn bc] w fun e w' => e = .returned (.bool true) ∧ Below w.heap.size w w' := by
  have HA := Lib.hid h
  have HB := Lib.hid hb0
  have HFW := fun W (h : OpsAt W A N C os) => Lib.hid (few_any h)
  have HLV := Lib.hid (live_any w)
  have hbig := h.row.big
  clear h hb0
  rcases e1 : decide ((20000 : Int) < (bn : Int))
  · have hbn : bn ≤ 20000 := by have := of_decide_eq_false e1; omega
    obtain ⟨cap0, er0, hc0⟩ : ∃ a b, newR most = (a, b) := ⟨_, _, rfl⟩
    have HC0 : Hid (cap0 ≤ 4096) := by have := newR_cap most; rw [hc0] at this; exact this
    have HN := fun W => Lib.hid (got_new most W)
    have HDN := fun W => Lib.hid (got_docNew most W)
    obtain ⟨cr, pr, e2, hr⟩ : ∃ a b c, readR most lb = (a, b, c) := ⟨_, _, _, rfl⟩
    have HRL : Hid (pr.length ≤ 4096) := by have := readR_le most lb; rw [hr] at this; exact this
    have HRD := fun W (h : Row cb W B bn bc lb) => Lib.hid (got_read h (by omega) most)
    have HDR := fun W (h : Row cb W B bn bc lb) => Lib.hid (got_docRead h (by omega) most)
    rw [hc0] at HN HDN
    rw [hr] at HRD HDR
    unfold nv at HN HDN
    dsimp only at HN HDN
    clear hc0 hr
    go_enter Try.func3, Try.ntmps3
    go_wp2_with fail
    refine HLV.out.mono ?_
    rintro e' w1 ⟨rfl, hb⟩
    have L1 := Lib.hid hb
    clear hb HLV
    go_wp2_with fail
    refine (HFW _ (HA.out.below L1.out)).out.mono ?_
    rintro e' w2 ⟨⟨bb, rfl, -⟩, hb⟩
    have L2 := Lib.hid (L1.out.trans (hb.mono L1.out.size))
    clear hb HFW L1
    rcases bb
    · go_wp2_with fail
      go_ret
      exact ⟨by rfl, L2.out⟩
    go_wp2_with fail
    refine ((HN w2).out).mono ?_
    rintro e' w3 ⟨rfl, hb⟩
    have L3 := Lib.hid (L2.out.trans (hb.mono L2.out.size))
    (try unfold nv)
    (try dsimp only)
    clear hb L2 
    go_upto_region 5 with fail
    have bb : Below w3.heap.size w3 (w3.alloc (.cells #[.int .i64 (cap0 : Int), .slice none 0 0] 28)) := (Below.refl _ w3).alloc (Nat.le_refl _) _
    have L4 := Lib.hid (L3.out.trans (bb.mono L3.out.size))
    have X4 : Hid (Cells (w3.alloc (.cells #[.int .i64 (cap0 : Int), .slice none 0 0] 28)) w3.heap.size 28 #[.int .i64 (cap0 : Int), .slice none 0 0]) := Cells.new _ _ _
    obtain ⟨g, hg⟩ : ∃ x, x = w3.heap.size := ⟨_, rfl⟩
    have Eg : Hid (w.heap.size ≤ g) := by show _ ≤ _; rw [hg]; exact L3.out.size
    rw [← hg] at X4
    rw [← hg]
    clear bb hg L3 
    generalize w3.alloc (.cells #[.int .i64 (cap0 : Int), .slice none 0 0] 28) = w4 at *
    go_wp2_with fail
    refine ((HDN w4).out).mono ?_
    rintro e' w5 ⟨rfl, hb⟩
    have L5 := Lib.hid (L4.out.trans (hb.mono L4.out.size))
    have X5 := Lib.hid (Cells.below X4.out hb)
    (try unfold nv)
    (try dsimp only)
    clear hb L4 X4
    go_upto_region 6 with fail
    have bb : Below w5.heap.size w5 (w5.alloc (.cells #[.int .i64 (cap0 : Int), .slice none 0 0] 28)) := (Below.refl _ w5).alloc (Nat.le_refl _) _
    have L6 := Lib.hid (L5.out.trans (bb.mono L5.out.size))
    have X6 := Lib.hid (Cells.below X5.out bb)
    have Y6 : Hid (Cells (w5.alloc (.cells #[.int .i64 (cap0 : Int), .slice none 0 0] 28)) w5.heap.size 28 #[.int .i64 (cap0 : Int), .slice none 0 0]) := Cells.new _ _ _
    obtain ⟨h, hh⟩ : ∃ x, x = w5.heap.size := ⟨_, rfl⟩
    have Eh : Hid (w.heap.size ≤ h) := by show _ ≤ _; rw [hh]; exact L5.out.size
    have Ngh : Hid (g ≠ h) := by have := Cells.lt X5.out; show _ ≠ _; omega
    rw [← hh] at Y6
    rw [← hh]
    clear bb hh L5 X5
    generalize w5.alloc (.cells #[.int .i64 (cap0 : Int), .slice none 0 0] 28) = w6 at *
    go_wp2_with fail
    refine ((HRD _ (HB.out.below L6.out)).out).mono ?_
    rintro e' w7 ⟨QA, QAn, QAc, QAl, rfl, hO, hP, hb⟩
    (try dsimp only at hP)
    have A7 := Lib.hid hO
    have PA := Lib.hid hP
    have hnA : QAn ≤ 4096 := by rw [← hO.len, ← List.length_map (f := Mx.p), hP]; exact HRL.out
    clear hO hP
    have L7 := Lib.hid (L6.out.trans (hb.mono L6.out.size))
    have X7 := Lib.hid (Cells.below X6.out hb)
    have Y7 := Lib.hid (Cells.below Y6.out hb)
    (try unfold nv)
    (try dsimp only)
    clear hb L6 X6 Y6
    go_upto_region 7 with fail
    have bb : Below w7.heap.size w7 (w7.alloc (.cells #[.int .i64 (cr : Int), .slice QA QAn QAc] 28)) := (Below.refl _ w7).alloc (Nat.le_refl _) _
    have L8 := Lib.hid (L7.out.trans (bb.mono L7.out.size))
    have X8 := Lib.hid (Cells.below X7.out bb)
    have Y8 := Lib.hid (Cells.below Y7.out bb)
    have A8 := Lib.hid (OwnN.below A7.out bb)
    have U8 : Hid (Cells (w7.alloc (.cells #[.int .i64 (cr : Int), .slice QA QAn QAc] 28)) w7.heap.size 28 #[.int .i64 (cr : Int), .slice QA QAn QAc]) := Cells.new _ _ _
    obtain ⟨gu, hgu⟩ : ∃ x, x = w7.heap.size := ⟨_, rfl⟩
    have Egu : Hid (w.heap.size ≤ gu) := by show _ ≤ _; rw [hgu]; exact L7.out.size
    have Nggu : Hid (g ≠ gu) := by have := Cells.lt X7.out; show _ ≠ _; omega
    have Nhgu : Hid (h ≠ gu) := by have := Cells.lt Y7.out; show _ ≠ _; omega
    rw [← hgu] at U8
    rw [← hgu]
    clear bb hgu L7 X7 Y7 A7
    generalize w7.alloc (.cells #[.int .i64 (cr : Int), .slice QA QAn QAc] 28) = w8 at *
    go_wp2_with fail
    refine ((HDR _ (HB.out.below L8.out)).out).mono ?_
    rintro e' w9 ⟨QB, QBn, QBc, QBl, rfl, hO, hP, hb⟩
    (try dsimp only at hP)
    have B9 := Lib.hid hO
    have PB := Lib.hid hP
    have hnB : QBn ≤ 4096 := by rw [← hO.len, ← List.length_map (f := Mx.p), hP]; exact HRL.out
    clear hO hP
    have L9 := Lib.hid (L8.out.trans (hb.mono L8.out.size))
    have X9 := Lib.hid (Cells.below X8.out hb)
    have Y9 := Lib.hid (Cells.below Y8.out hb)
    have U9 := Lib.hid (Cells.below U8.out hb)
    have A9 := Lib.hid (OwnN.below A8.out hb)
    (try unfold nv)
    (try dsimp only)
    clear hb L8 X8 Y8 U8 A8
    go_upto_region 8 with fail
    have bb : Below w9.heap.size w9 (w9.alloc (.cells #[.int .i64 (cr : Int), .slice QB QBn QBc] 28)) := (Below.refl _ w9).alloc (Nat.le_refl _) _
    have L10 := Lib.hid (L9.out.trans (bb.mono L9.out.size))
    have X10 := Lib.hid (Cells.below X9.out bb)
    have Y10 := Lib.hid (Cells.below Y9.out bb)
    have U10 := Lib.hid (Cells.below U9.out bb)
    have A10 := Lib.hid (OwnN.below A9.out bb)
    have B10 := Lib.hid (OwnN.below B9.out bb)
    have V10 : Hid (Cells (w9.alloc (.cells #[.int .i64 (cr : Int), .slice QB QBn QBc] 28)) w9.heap.size 28 #[.int .i64 (cr : Int), .slice QB QBn QBc]) := Cells.new _ _ _
    obtain ⟨gv, hgv⟩ : ∃ x, x = w9.heap.size := ⟨_, rfl⟩
    have Egv : Hid (w.heap.size ≤ gv) := by show _ ≤ _; rw [hgv]; exact L9.out.size
    have Nggv : Hid (g ≠ gv) := by have := Cells.lt X9.out; show _ ≠ _; omega
    have Nhgv : Hid (h ≠ gv) := by have := Cells.lt Y9.out; show _ ≠ _; omega
    rw [← hgv] at V10
    rw [← hgv]
    clear bb hgv L9 X9 Y9 U9 A9 B9
    generalize w9.alloc (.cells #[.int .i64 (cr : Int), .slice QB QBn QBc] 28) = w10 at *
    obtain ⟨k0, k1⟩ := NBox.cells X10.out
    obtain ⟨j0, j1⟩ := NBox.cells Y10.out
    have HS1 := Lib.hid (same_eq (cap := cap0) (NetAt.nil w10) (NetAt.nil w10) rfl)
    unfold nv at HS1
    go_wp2_with fail
    refine HS1.out.mono ?_
    rintro e' w11 ⟨rfl, hb⟩
    have L11 := Lib.hid (L10.out.trans (hb.mono L10.out.size))
    have X11 := Lib.hid (Cells.below X10.out hb)
    have Y11 := Lib.hid (Cells.below Y10.out hb)
    have U11 := Lib.hid (Cells.below U10.out hb)
    have V11 := Lib.hid (Cells.below V10.out hb)
    have HS2 := Lib.hid (same_eq (cap := cr) ((A10.out.below hb).net (by omega)) ((B10.out.below hb).net (by omega)) (by rw [PA.out, PB.out]))
    unfold nv at HS2
    clear hb HS1 k0 k1 j0 j1 L10 X10 Y10 U10 V10 A10 B10
    obtain ⟨k0, k1⟩ := NBox.cells U11.out
    obtain ⟨j0, j1⟩ := NBox.cells V11.out
    go_wp2_with fail
    refine HS2.out.mono ?_
    rintro e' w12 ⟨rfl, hb⟩
    have L12 := Lib.hid (L11.out.trans (hb.mono L11.out.size))
    have X12 := Lib.hid (Cells.below X11.out hb)
    have Y12 := Lib.hid (Cells.below Y11.out hb)
    clear hb HS2 k0 k1 j0 j1 L11 X11 Y11 U11 V11
    go_upto_region 10 with fail
    have D0 : Hid (Dm w w12 g h cap0 none 0 0 [] none 0 0 []) := ⟨L12.out, X12.out, Y12.out, ⟨w12.heap.size, Cells.lt X12.out, Cells.lt Y12.out, Nat.le_refl _, OwnN.nil _ _ _⟩, ⟨w12.heap.size, Cells.lt X12.out, Cells.lt Y12.out, Nat.le_refl _, OwnN.nil _ _ _⟩, rfl, ⟨by omega, HC0.out⟩, ⟨Eg.out, Eh.out⟩, Ngh.out⟩
    clear L12 X12 Y12 Eg Eh Ngh Egu Egv HN HDN HRD HDR HRL PA PB hnA hnB
    go_upto_region 11 with fail
    go_loopw [17, 18, 19, 20, 21, 22, 23, 24, 25, 26, 27, 28, 29, 30, 31, 86] (fun _ _ _ _ _ _ _ _ _ _ _ _ _ _ _ t wr => ∃ (i cap : Nat) (Q : Option Addr) (n c : Nat) (l : List Mx) (P : Option Addr) (m d : Nat) (k : List Mx), t = .int .i64 i ∧ i ≤ N ∧ Hid (Dm w wr g h cap Q n c l P m d k)) (fun _ _ _ _ _ _ _ _ _ _ _ _ _ _ _ t _ => N - (intOf t).toNat)
    case atStart => exact ⟨0, cap0, none, 0, 0, [], none, 0, 0, [], rfl, by omega, D0⟩
    case round =>
      clear D0
      obtain ⟨i, cap, Q, n, c, l, P, m, d, k, rfl, hi, D⟩ := hrel
      obtain ⟨w0, hw0⟩ : ∃ x, x = wr := ⟨_, rfl⟩
      subst hw0
      have HNM : Hid (n ≤ 4096 ∧ m ≤ 4096 ∧ cap ≤ 4096) := by have h1 := D.out.len; have h2 := D.out.same; exact ⟨h1.1, by omega, h1.2⟩
      have HNL : Hid (l.length = n) := D.out.own.elim fun _ h => h.2.2.2.len
      by_cases hlt : i < N
      · skip
        obtain ⟨o, ho, hoa⟩ := HA.out.get hlt
        obtain ⟨b3, o3, hQ3, hcs3⟩ := HA.out.cells ho
        subst hQ3
        obtain ⟨dd, ii, L, lm, lc, ls⟩ := o
        dsimp only at hcs3 hoa
        obtain ⟨c0, c1, c2⟩ := hcs3 w0 D.out.below
        have HOA : Hid (NetAt w0 L lm lc ls) := NetAt.below hoa D.out.below
        have hi0 : (0 : Int) ≤ (i : Int) := by omega
        have hin : (i : Int) < (N : Int) := by omega
        clear hcs3 hoa ho
        have A1 : Below w0.heap.size w0 (w0.alloc (.cells #[.int .i64 dd, .int .i64 ii, .slice L lm lc] 35)) := (Below.refl _ w0).alloc (Nat.le_refl _) _
        have L1 := Lib.hid A1
        have O1 : Hid (OBox (w0.alloc (.cells #[.int .i64 dd, .int .i64 ii, .slice L lm lc] 35)) w0.heap.size ⟨dd, ii, L, lm, lc, ls⟩) := Cells.new _ _ _
        go_upto_region 13 with fail
        obtain ⟨p, hp⟩ : ∃ x, x = w0.heap.size := ⟨_, rfl⟩
        rw [← hp] at O1
        rw [← hp]
        clear hp A1 c0 c1 c2
        generalize w0.alloc (.cells #[.int .i64 dd, .int .i64 ii, .slice L lm lc] 35) = w1 at *
        have HC := fun W (hb : Below w0.heap.size w0 W) => Lib.hid (copy_any (D.out.fresh hb).net (by have := HNM.out; omega))
        go_cut [18] from 90 to 96 (fun s wx => ∃ v Q3 c3 l3, s = .pointer (some ⟨v, 0, none⟩) ∧ Hid (Below w0.heap.size w0 wx ∧ OBox wx p ⟨dd, ii, L, lm, lc, ls⟩ ∧ NBox wx v cap Q3 n c3 ∧ NetAt wx Q3 n c3 l3 ∧ l3.map Mx.p = l.map Mx.p))
        case first =>
          have L2 := Lib.hid L1.out.drew
          have O2 := Lib.hid (Cells.below O1.out ((Below.refl _ w1).drew))
          refine wp_region_held_drew (S := fun W => W.cell? ⟨g, 0, none⟩ = some (.int .i64 (cap : Int)) ∧ W.cell? ⟨g, 1, none⟩ = some (.slice Q n c)) (by kernel_rfl) (NBox.cells (D.out.fresh L2.out).a) (fun hHeld => ?_)
          generalize w1.drew = w2 at *
          clear L1 O1 
          (first | (refine Reg.take 0 (v := ?_) rfl (by kernel_rfl) (by kernel_rfl) (by kernel_rfl) (fun _ _ _ h => h) (Or.inl ⟨by rfl, ?_⟩) (by assumption) ?_; rotate_left; (focus ((intro W hSW); (try dsimp only at hSW); (try go_split_ands); go_simp; (try (with_reducible rfl)); done))) | (refine Reg.take 0 (v := undef) rfl (by kernel_rfl) (by kernel_rfl) (by kernel_rfl) (fun _ _ _ h => h) (Or.inr ⟨by rfl, rfl⟩) (by assumption) ?_))
          (try simp only [Act.put, List.setIfInBounds_toArray, List.set_cons_zero, List.set_cons_succ])
          (first | (refine Reg.take 1 (v := ?_) rfl (by kernel_rfl) (by kernel_rfl) (by kernel_rfl) (fun _ _ _ h => h) (Or.inl ⟨by rfl, ?_⟩) (by assumption) ?_; rotate_left; (focus ((intro W hSW); (try dsimp only at hSW); (try go_split_ands); go_simp; (try (with_reducible rfl)); done))) | (refine Reg.take 1 (v := undef) rfl (by kernel_rfl) (by kernel_rfl) (by kernel_rfl) (fun _ _ _ h => h) (Or.inr ⟨by rfl, rfl⟩) (by assumption) ?_))
          (try simp only [Act.put, List.setIfInBounds_toArray, List.set_cons_zero, List.set_cons_succ])
          (first | (refine Reg.take 2 (v := ?_) rfl (by kernel_rfl) (by kernel_rfl) (by kernel_rfl) (fun _ _ _ h => h) (Or.inl ⟨by rfl, ?_⟩) (by assumption) ?_; rotate_left; (focus ((intro W hSW); (try dsimp only at hSW); (try go_split_ands); go_simp; (try (with_reducible rfl)); done))) | (refine Reg.take 2 (v := undef) rfl (by kernel_rfl) (by kernel_rfl) (by kernel_rfl) (fun _ _ _ h => h) (Or.inr ⟨by rfl, rfl⟩) (by assumption) ?_))
          (try simp only [Act.put, List.setIfInBounds_toArray, List.set_cons_zero, List.set_cons_succ])
          (first | (refine Reg.take 3 (v := ?_) rfl (by kernel_rfl) (by kernel_rfl) (by kernel_rfl) (fun _ _ _ h => h) (Or.inl ⟨by rfl, ?_⟩) (by assumption) ?_; rotate_left; (focus ((intro W hSW); (try dsimp only at hSW); (try go_split_ands); go_simp; (try (with_reducible rfl)); done))) | (refine Reg.take 3 (v := undef) rfl (by kernel_rfl) (by kernel_rfl) (by kernel_rfl) (fun _ _ _ h => h) (Or.inr ⟨by rfl, rfl⟩) (by assumption) ?_))
          (try simp only [Act.put, List.setIfInBounds_toArray, List.set_cons_zero, List.set_cons_succ])
          refine Reg.step2 4 6 rfl rfl (by kernel_rfl) (by rfl) (by rfl) (fun K hK => ?_) (fun K hK => ?_)
          · skip
            go_simp
            refine ((HC _ L2.out).out).mono ?_
            rintro e w3 ⟨Q3, n3, c3, l3, rfl, hO, hP, hb⟩
            have L3 := Lib.hid (L2.out.trans (hb.mono L2.out.size))
            have O3 := Lib.hid (Cells.below O2.out hb)
            have hn3 : n3 = n := by have h1 := congrArg List.length hP; rw [List.length_map, List.length_map] at h1; have h3 := hO.len; have h4 := HNL.out; omega
            subst hn3
            have N3 := Lib.hid ((hO.lower L2.out.size).base_ L2.out.size)
            skip
            have LP := Lib.hid hP
            clear hO hP
            clear hb hHeld 
            clear L2 O2 
            refine hK.out _ _ (NBox.cells (D.out.fresh L3.out).a) (fun hHeld => ?_)
            clear hK K
            (try simp only [Act.put, List.setIfInBounds_toArray, List.set_cons_zero, List.set_cons_succ])
            (first | (refine Reg.take 5 (v := ?_) rfl (by kernel_rfl) (by kernel_rfl) (by kernel_rfl) (fun _ _ _ h => h) (Or.inl ⟨by rfl, ?_⟩) (by assumption) ?_; rotate_left; (focus ((intro W hSW); (try dsimp only at hSW); (try go_split_ands); go_simp; (try (with_reducible rfl)); done))) | (refine Reg.take 5 (v := undef) rfl (by kernel_rfl) (by kernel_rfl) (by kernel_rfl) (fun _ _ _ h => h) (Or.inr ⟨by rfl, rfl⟩) (by assumption) ?_))
            (try simp only [Act.put, List.setIfInBounds_toArray, List.set_cons_zero, List.set_cons_succ])
            refine Reg.step 6 rfl (by kernel_rfl) (by rfl) (fun K hK => ?_)
            go_simp
            have bb : Below w3.heap.size w3 (w3.alloc (.cells #[.int .i64 0, .slice none 0 0] 28)) := (Below.refl _ w3).alloc (Nat.le_refl _) _
            have V4 := Lib.hid ((Cells.new _ _ _ : NBox _ w3.heap.size 0 none 0 0))
            have L4 := Lib.hid (L3.out.trans (bb.mono L3.out.size))
            have O4 := Lib.hid (Cells.below O3.out bb)
            have N4 := Lib.hid (OwnN.below N3.out bb)
            obtain ⟨v, hv⟩ : ∃ p, p = w3.heap.size := ⟨_, rfl⟩
            rw [← hv] at V4
            rw [← hv]
            have Gv : Hid (v = w3.heap.size) := hv
            have EV : Hid (w0.heap.size ≤ v ∧ p < v) := by have h2 := Cells.lt O3.out; have h3 := L3.out.size; show _ ∧ _; omega
            have NG : Hid (∀ x ∈ l3, ∀ q, Bl x q → q ≠ v) := fun x hx q hq => by have h1 := (N3.out.at_ x hx).lt hq; omega
            clear bb hHeld hv
            clear L3 O3 N3 
            generalize w3.alloc (.cells #[.int .i64 0, .slice none 0 0] 28) = w4 at *
            refine hK.out _ _ (NBox.cells (D.out.fresh L4.out).a) (fun hHeld => ?_)
            clear hK K
            (try simp only [Act.put, List.setIfInBounds_toArray, List.set_cons_zero, List.set_cons_succ])
            have y0 := Cells.cell V4.out 0
            have f0 := Cells.frozen V4.out 0
            have y1 := Cells.cell V4.out 1
            have f1 := Cells.frozen V4.out 1
            refine Reg.step 7 rfl (by kernel_rfl) (by rfl) (fun K hK => ?_)
            go_simp
            have bt : Mov [v] w4 ((w4.setCell ⟨v, 0, none⟩ (.int .i64 (cap : Int))).setCell ⟨v, 1, none⟩ (.slice Q3 n3 c3)) := Mov.set2 _ _ _ _
            have L5 := Lib.hid (L4.out.trans (bt.up L4.out.size (by have := EV.out; omega)))
            have O5 := Lib.hid (Cells.mov O4.out bt (by have := EV.out; simp; omega))
            have N5 := Lib.hid (N4.out.mov V4.out (by decide) (fun x hx q hq => NG.out x hx q hq) bt)
            have V5 : Hid (Cells ((w4.setCell ⟨v, 0, none⟩ (.int .i64 (cap : Int))).setCell ⟨v, 1, none⟩ (.slice Q3 n3 c3)) (v) 28 #[.int .i64 (cap : Int), .slice Q3 n3 c3]) := Cells.set2 V4.out _ _
            clear bt hHeld y0 f0 y1 f1
            clear L4 O4 N4 V4 
            generalize (w4.setCell ⟨v, 0, none⟩ (.int .i64 (cap : Int))).setCell ⟨v, 1, none⟩ (.slice Q3 n3 c3) = w5 at *
            refine hK.out _ _ (NBox.cells (D.out.fresh L5.out).a) (fun hHeld => ?_)
            clear hK K
            (try simp only [Act.put, List.setIfInBounds_toArray, List.set_cons_zero, List.set_cons_succ])
            refine wpAnyH_done (by kernel_rfl) ?_ _
            clear hHeld
            go_wp2_with fail
            go_meet
            exact ⟨v, Q3, c3, l3, rfl, ⟨L5.out, O5.out, V5.out, N5.out.net (by have := HNM.out; omega), LP.out⟩⟩
          · skip
            go_simp
            have bb : Below w2.heap.size w2 (w2.alloc (.cells #[.int .i64 0, .slice none 0 0] 28)) := (Below.refl _ w2).alloc (Nat.le_refl _) _
            have V3 := Lib.hid ((Cells.new _ _ _ : NBox _ w2.heap.size 0 none 0 0))
            have L3 := Lib.hid (L2.out.trans (bb.mono L2.out.size))
            have O3 := Lib.hid (Cells.below O2.out bb)
            obtain ⟨v, hv⟩ : ∃ p, p = w2.heap.size := ⟨_, rfl⟩
            rw [← hv] at V3
            rw [← hv]
            have Gv : Hid (v = w2.heap.size) := hv
            have EV : Hid (w0.heap.size ≤ v ∧ p < v) := by have h2 := Cells.lt O2.out; have h3 := L2.out.size; show _ ∧ _; omega
            skip
            clear bb hHeld hv
            clear L2 O2 
            generalize w2.alloc (.cells #[.int .i64 0, .slice none 0 0] 28) = w3 at *
            refine hK.out _ _ (NBox.cells (D.out.fresh L3.out).a) (fun hHeld => ?_)
            clear hK K
            (try simp only [Act.put, List.setIfInBounds_toArray, List.set_cons_zero, List.set_cons_succ])
            refine Reg.step 4 rfl (by kernel_rfl) (by rfl) (fun K hK => ?_)
            go_simp
            refine ((HC _ L3.out).out).mono ?_
            rintro e w4 ⟨Q3, n3, c3, l3, rfl, hO, hP, hb⟩
            have L4 := Lib.hid (L3.out.trans (hb.mono L3.out.size))
            have O4 := Lib.hid (Cells.below O3.out hb)
            have V4 := Lib.hid (Cells.below V3.out hb)
            have hn3 : n3 = n := by have h1 := congrArg List.length hP; rw [List.length_map, List.length_map] at h1; have h3 := hO.len; have h4 := HNL.out; omega
            subst hn3
            have N4 := Lib.hid ((hO.lower L3.out.size).base_ L3.out.size)
            have NG : Hid (∀ x ∈ l3, ∀ q, Bl x q → q ≠ v) := fun x hx q hq => by have h1 := hO.low x hx q hq; have h2 := Cells.lt V3.out; omega
            have LP := Lib.hid hP
            clear hO hP
            clear hb hHeld 
            clear L3 O3 V3 
            refine hK.out _ _ (NBox.cells (D.out.fresh L4.out).a) (fun hHeld => ?_)
            clear hK K
            (try simp only [Act.put, List.setIfInBounds_toArray, List.set_cons_zero, List.set_cons_succ])
            (first | (refine Reg.take 5 (v := ?_) rfl (by kernel_rfl) (by kernel_rfl) (by kernel_rfl) (fun _ _ _ h => h) (Or.inl ⟨by rfl, ?_⟩) (by assumption) ?_; rotate_left; (focus ((intro W hSW); (try dsimp only at hSW); (try go_split_ands); go_simp; (try (with_reducible rfl)); done))) | (refine Reg.take 5 (v := undef) rfl (by kernel_rfl) (by kernel_rfl) (by kernel_rfl) (fun _ _ _ h => h) (Or.inr ⟨by rfl, rfl⟩) (by assumption) ?_))
            (try simp only [Act.put, List.setIfInBounds_toArray, List.set_cons_zero, List.set_cons_succ])
            have y0 := Cells.cell V4.out 0
            have f0 := Cells.frozen V4.out 0
            have y1 := Cells.cell V4.out 1
            have f1 := Cells.frozen V4.out 1
            refine Reg.step 7 rfl (by kernel_rfl) (by rfl) (fun K hK => ?_)
            go_simp
            have bt : Mov [v] w4 ((w4.setCell ⟨v, 0, none⟩ (.int .i64 (cap : Int))).setCell ⟨v, 1, none⟩ (.slice Q3 n3 c3)) := Mov.set2 _ _ _ _
            have L5 := Lib.hid (L4.out.trans (bt.up L4.out.size (by have := EV.out; omega)))
            have O5 := Lib.hid (Cells.mov O4.out bt (by have := EV.out; simp; omega))
            have V5 : Hid (Cells ((w4.setCell ⟨v, 0, none⟩ (.int .i64 (cap : Int))).setCell ⟨v, 1, none⟩ (.slice Q3 n3 c3)) (v) 28 #[.int .i64 (cap : Int), .slice Q3 n3 c3]) := Cells.set2 V4.out _ _
            have N5 := Lib.hid (N4.out.mov V4.out (by decide) (fun x hx q hq => NG.out x hx q hq) bt)
            clear bt hHeld y0 f0 y1 f1
            clear L4 O4 V4 N4 
            generalize (w4.setCell ⟨v, 0, none⟩ (.int .i64 (cap : Int))).setCell ⟨v, 1, none⟩ (.slice Q3 n3 c3) = w5 at *
            refine hK.out _ _ (NBox.cells (D.out.fresh L5.out).a) (fun hHeld => ?_)
            clear hK K
            (try simp only [Act.put, List.setIfInBounds_toArray, List.set_cons_zero, List.set_cons_succ])
            refine wpAnyH_done (by kernel_rfl) ?_ _
            clear hHeld
            go_wp2_with fail
            go_meet
            exact ⟨v, Q3, c3, l3, rfl, ⟨L5.out, O5.out, V5.out, N5.out.net (by have := HNM.out; omega), LP.out⟩⟩
        case rest =>
          obtain ⟨v, Q3, c3, l3, rfl, hC⟩ := hcut
          obtain ⟨w5, hw5⟩ : ∃ x, x = wc := ⟨_, rfl⟩
          subst hw5
          have L5 := Lib.hid hC.out.1
          have O5 := Lib.hid hC.out.2.1
          have V5 := Lib.hid hC.out.2.2.1
          have T5 := Lib.hid hC.out.2.2.2.1
          have LP := Lib.hid hC.out.2.2.2.2
          clear hC L1 O1 HC
          obtain ⟨cap2, pl, p2, er, kk, hR⟩ : ∃ a b c d e, bodyR cap (l.map Mx.p) dd ii (ls.map Mx.p) = (a, b, c, d, e) := ⟨_, _, _, _, _, rfl⟩
          have HLE : Hid (pl.length ≤ 4096 ∧ cap2 ≤ 4096) := by
            have h1 := bodyR_le (N := l.map Mx.p) (cap := cap) (by rw [List.length_map, HNL.out]; exact HNM.out.1) HNM.out.2.2 dd ii (ls.map Mx.p)
            rw [hR] at h1
            exact h1
          have HBD := Lib.hid (body_any (cap := cap) (D.out.fresh L5.out).net (by have := HNM.out; omega) (by have := HNM.out; omega) (o := ⟨dd, ii, L, lm, lc, ls⟩) (HOA.out.below L5.out))
          have HMD := fun W (hb : Below w0.heap.size w0 W) => Lib.hid (model_any (cap := cap) (D.out.fresh hb).net2 (by have := HNM.out; omega) (by have := HNM.out; omega) (o := ⟨dd, ii, L, lm, lc, ls⟩) (HOA.out.below hb))
          dsimp only at HBD HMD
          rw [hR] at HBD
          rw [← D.out.eq, hR] at HMD
          unfold nv oxv at HBD HMD
          dsimp only at HBD HMD
          clear hR
          obtain ⟨k0, k1⟩ := NBox.cells (D.out.fresh L5.out).a
          obtain ⟨o0, o1, o2⟩ := OBox.cells O5.out
          (try dsimp only at o0 o1 o2)
          go_upto_region 15 with (first | (go_at_call 17; refine HBD.out.mono ?_; rintro en w6 ⟨Q2, n2, c2, l2, y, rfl, hO, hP, hyp, hya, -, hyo, hap, hb⟩; (try dsimp only at hP hyp); have L6 := Lib.hid (L5.out.trans (hb.mono L5.out.size)); have O6 := Lib.hid (Cells.below O5.out hb); have V6 := Lib.hid (Cells.below V5.out hb); have T6 := Lib.hid (NetAt.below T5.out hb); have N6 := Lib.hid hO; have S56 : Hid (w0.heap.size ≤ w5.heap.size ∧ w5.heap.size ≤ w6.heap.size) := ⟨L5.out.size, hb.size⟩; have HP := Lib.hid hP; have HYP := Lib.hid hyp; have YA6 := Lib.hid hya; have YO6 := Lib.hid hyo; have YAP := Lib.hid hap; (try unfold nv); (try unfold mxv); (try dsimp only); clear hO hP hyp hya hyo hap hb k0 k1 o0 o1 o2 HBD L5 O5 V5 T5) | fail)
          obtain ⟨lo, hlo⟩ : ∃ x, x = w5.heap.size := ⟨_, rfl⟩
          rw [← hlo] at N6 YO6 S56
          clear hlo
          have HN2 : Hid (n2 ≤ 4096) := by show n2 ≤ 4096; rw [← N6.out.len, ← List.length_map (f := Mx.p), HP.out]; exact HLE.out.1
          have bb : Below w6.heap.size w6 ((w6.alloc (.cells #[.int .i64 (cap2 : Int), .slice Q2 n2 c2] 28)).alloc (.cells #[.int .i64 y.k, .int .i64 y.f, .int .i64 y.t, .int .i64 y.i, .slice y.A y.n y.c, .slice y.B y.m y.d] 39)) := ((Below.refl _ _).alloc (Nat.le_refl _) _).alloc (by simp) _
          have L7 := Lib.hid (L6.out.trans (bb.mono L6.out.size))
          have O7 := Lib.hid (Cells.below O6.out bb)
          have V7 := Lib.hid (Cells.below V6.out bb)
          have T7 := Lib.hid (NetAt.below T6.out bb)
          have N7 := Lib.hid (OwnN.below N6.out bb)
          have YA7 := Lib.hid (MAt.below YA6.out bb)
          have YO7 := Lib.hid (Owns.below YO6.out bb)
          have XA7 : Hid (NBox ((w6.alloc (.cells #[.int .i64 (cap2 : Int), .slice Q2 n2 c2] 28)).alloc (.cells #[.int .i64 y.k, .int .i64 y.f, .int .i64 y.t, .int .i64 y.i, .slice y.A y.n y.c, .slice y.B y.m y.d] 39)) w6.heap.size cap2 Q2 n2 c2) := Cells.alloc (Cells.new _ _ _) _
          have XM7 : Hid (MBox ((w6.alloc (.cells #[.int .i64 (cap2 : Int), .slice Q2 n2 c2] 28)).alloc (.cells #[.int .i64 y.k, .int .i64 y.f, .int .i64 y.t, .int .i64 y.i, .slice y.A y.n y.c, .slice y.B y.m y.d] 39)) (w6.heap.size + 1) y) := by
            have := Cells.new (w6.alloc (.cells #[.int .i64 (cap2 : Int), .slice Q2 n2 c2] 28)) #[.int .i64 y.k, .int .i64 y.f, .int .i64 y.t, .int .i64 y.i, .slice y.A y.n y.c, .slice y.B y.m y.d] 39
            rw [World.size_alloc] at this
            exact this
          obtain ⟨qa, hqa⟩ : ∃ x, x = w6.heap.size := ⟨_, rfl⟩
          have YQ : Hid (0 < y.m → ∃ gq, y.B = some ⟨gq, 0, none⟩ ∧ lo ≤ gq ∧ gq < qa) := fun h0 => by
            obtain ⟨gq, h1, -⟩ := own_place YO6.out
            obtain ⟨h2, h3, h4⟩ := h1 h0
            exact ⟨gq, h2, h3, by omega⟩
          have SQ : Hid (lo ≤ qa ∧ qa + 1 < ((w6.alloc (.cells #[.int .i64 (cap2 : Int), .slice Q2 n2 c2] 28)).alloc (.cells #[.int .i64 y.k, .int .i64 y.f, .int .i64 y.t, .int .i64 y.i, .slice y.A y.n y.c, .slice y.B y.m y.d] 39)).heap.size) := by have := S56.out; show _ ∧ _; rw [World.size_alloc, World.size_alloc]; omega
          rw [← hqa] at XA7 XM7
          rw [← hqa]
          clear hqa bb L6 O6 V6 T6 N6 YA6 YO6
          generalize ((w6.alloc (.cells #[.int .i64 (cap2 : Int), .slice Q2 n2 c2] 28)).alloc (.cells #[.int .i64 y.k, .int .i64 y.f, .int .i64 y.t, .int .i64 y.i, .slice y.A y.n y.c, .slice y.B y.m y.d] 39)) = w7 at *
          obtain ⟨k0, k1⟩ := NBox.cells (D.out.fresh L7.out).b
          obtain ⟨o0, o1, o2⟩ := OBox.cells O7.out
          (try dsimp only at o0 o1 o2)
          go_upto_region 16 with (first | (go_at_call 18; refine (HMD _ L7.out).out.mono ?_; rintro en w8 ⟨Q4, n4, c4, l4, z, rfl, hO, hP, hyp, hya, -, hb⟩; (try dsimp only at hP hyp); have L8 := Lib.hid (L7.out.trans (hb.mono L7.out.size)); have O8 := Lib.hid (Cells.below O7.out hb); have V8 := Lib.hid (Cells.below V7.out hb); have T8 := Lib.hid (NetAt.below T7.out hb); have N8 := Lib.hid (OwnN.below N7.out hb); have YA8 := Lib.hid (MAt.below YA7.out hb); have YO8 := Lib.hid (Owns.below YO7.out hb); have XA8 := Lib.hid (Cells.below XA7.out hb); have XM8 := Lib.hid (Cells.below XM7.out hb); have M8 := Lib.hid hO; have S78 : Hid (w7.heap.size ≤ w8.heap.size) := hb.size; have HP4 := Lib.hid hP; have HZP := Lib.hid hyp; have ZA8 := Lib.hid hya; (try unfold nv); (try unfold mxv); (try dsimp only); clear hO hP hyp hya hb k0 k1 o0 o1 o2 HMD L7 O7 V7 T7 N7 YA7 YO7 XA7 XM7) | fail)
          obtain ⟨lo4, hlo⟩ : ∃ x, x = w7.heap.size := ⟨_, rfl⟩
          rw [← hlo] at M8 SQ S78
          clear hlo
          have HN4 : Hid (n4 ≤ 4096) := by show n4 ≤ 4096; rw [← M8.out.len, ← List.length_map (f := Mx.p), HP4.out]; exact HLE.out.1
          have bb : Below w8.heap.size w8 ((w8.alloc (.cells #[.int .i64 (cap2 : Int), .slice Q4 n4 c4] 28)).alloc (.cells #[.int .i64 z.k, .int .i64 z.f, .int .i64 z.t, .int .i64 z.i, .slice z.A z.n z.c, .slice z.B z.m z.d] 39)) := ((Below.refl _ _).alloc (Nat.le_refl _) _).alloc (by simp) _
          have L9 := Lib.hid (L8.out.trans (bb.mono L8.out.size))
          have O9 := Lib.hid (Cells.below O8.out bb)
          have V9 := Lib.hid (Cells.below V8.out bb)
          have T9 := Lib.hid (NetAt.below T8.out bb)
          have N9 := Lib.hid (OwnN.below N8.out bb)
          have YA9 := Lib.hid (MAt.below YA8.out bb)
          have YO9 := Lib.hid (Owns.below YO8.out bb)
          have XA9 := Lib.hid (Cells.below XA8.out bb)
          have XM9 := Lib.hid (Cells.below XM8.out bb)
          have M9 := Lib.hid (OwnN.below M8.out bb)
          have ZA9 := Lib.hid (MAt.below ZA8.out bb)
          have XC9 : Hid (NBox ((w8.alloc (.cells #[.int .i64 (cap2 : Int), .slice Q4 n4 c4] 28)).alloc (.cells #[.int .i64 z.k, .int .i64 z.f, .int .i64 z.t, .int .i64 z.i, .slice z.A z.n z.c, .slice z.B z.m z.d] 39)) w8.heap.size cap2 Q4 n4 c4) := Cells.alloc (Cells.new _ _ _) _
          have XZ9 : Hid (MBox ((w8.alloc (.cells #[.int .i64 (cap2 : Int), .slice Q4 n4 c4] 28)).alloc (.cells #[.int .i64 z.k, .int .i64 z.f, .int .i64 z.t, .int .i64 z.i, .slice z.A z.n z.c, .slice z.B z.m z.d] 39)) (w8.heap.size + 1) z) := by
            have := Cells.new (w8.alloc (.cells #[.int .i64 (cap2 : Int), .slice Q4 n4 c4] 28)) #[.int .i64 z.k, .int .i64 z.f, .int .i64 z.t, .int .i64 z.i, .slice z.A z.n z.c, .slice z.B z.m z.d] 39
            rw [World.size_alloc] at this
            exact this
          obtain ⟨qc, hqc⟩ : ∃ x, x = w8.heap.size := ⟨_, rfl⟩
          have SC : Hid (lo4 ≤ qc) := by have := S78.out; show _ ≤ _; omega
          rw [← hqc] at XC9 XZ9
          rw [← hqc]
          clear hqc bb M8 ZA8 S78 L8 O8 V8 T8 N8 YA8 YO8 XA8 XM8
          generalize ((w8.alloc (.cells #[.int .i64 (cap2 : Int), .slice Q4 n4 c4] 28)).alloc (.cells #[.int .i64 z.k, .int .i64 z.f, .int .i64 z.t, .int .i64 z.i, .slice z.A z.n z.c, .slice z.B z.m z.d] 39)) = w9 at *
          have K9 : Hid (Below w9.heap.size w9 w9) := Below.refl _ _
          have HSA := fun W (hb : Below w9.heap.size w9 W) => Lib.hid (same_eq (cap := cap2) ((N9.out.below hb).net (by have := HN2.out; omega)) ((M9.out.below hb).net (by have := HN4.out; omega)) (by rw [HP.out, HP4.out]))
          have HSM := fun W (hb : Below w9.heap.size w9 W) => Lib.hid (msg_eq (YA9.out.below hb) (ZA9.out.below hb) (by rw [HYP.out, HZP.out]))
          have HD9 := fun W (hb : Below w9.heap.size w9 W) => Lib.hid (D.out.fresh (L9.out.trans (hb.mono L9.out.size)))
          have HSW := fun W (hb : Below w9.heap.size w9 W) => Lib.hid (same_eq (cap := cap) (HD9 W hb).out.net (T9.out.below hb) LP.out.symm)
          have HTO := fun W (hb : Below w9.heap.size w9 W) => Lib.hid (to_any (cap := cap) (HD9 W hb).out.net (by have := HNM.out; omega) ii)
          have HTD := fun W (hb : Below w9.heap.size w9 W) => Lib.hid (docTo_any (cap := cap) (HD9 W hb).out.net2 (by have := HNM.out; omega) ii)
          rw [← D.out.eq] at HTD
          have HTL : Hid ((asInts (toP (l.map Mx.p) ii)).length ≤ 4096) := by
            show List.length (List.map _ _) ≤ 4096
            rw [List.length_map]
            exact Nat.le_trans (places_len _ _) (by rw [List.length_map, HNL.out]; exact HNM.out.1)
          have HCELL := fun W (hb : Below w9.heap.size w9 W) => And.intro (NBox.cells (Cells.below XA9.out hb)) (And.intro (NBox.cells (Cells.below XC9.out hb)) (And.intro (MBox.cells (Cells.below XM9.out hb)) (And.intro (MBox.cells (Cells.below XZ9.out hb)) (And.intro (NBox.cells (HD9 W hb).out.a) (And.intro (NBox.cells (Cells.below V9.out hb)) (And.intro (NBox.cells (HD9 W hb).out.b) (OBox.cells (Cells.below O9.out hb)).2.1))))))
          (try dsimp only at HCELL)
          unfold nv at HSA HSW HTO HTD
          unfold mxv at HSM
          have K10 := Lib.hid K9.out.drew
          refine wp_region_held_drew (S := fun W => (W.cell? ⟨qa, 0, none⟩ = some (.int .i64 (cap2 : Int)) ∧ W.cell? ⟨qa, 1, none⟩ = some (.slice Q2 n2 c2)) ∧ (W.cell? ⟨qc, 0, none⟩ = some (.int .i64 (cap2 : Int)) ∧ W.cell? ⟨qc, 1, none⟩ = some (.slice Q4 n4 c4)) ∧ (W.cell? ⟨qa + 1, 0, none⟩ = some (.int .i64 y.k) ∧ W.cell? ⟨qa + 1, 1, none⟩ = some (.int .i64 y.f) ∧ W.cell? ⟨qa + 1, 2, none⟩ = some (.int .i64 y.t) ∧ W.cell? ⟨qa + 1, 3, none⟩ = some (.int .i64 y.i) ∧ W.cell? ⟨qa + 1, 4, none⟩ = some (.slice y.A y.n y.c) ∧ W.cell? ⟨qa + 1, 5, none⟩ = some (.slice y.B y.m y.d)) ∧ (W.cell? ⟨qc + 1, 0, none⟩ = some (.int .i64 z.k) ∧ W.cell? ⟨qc + 1, 1, none⟩ = some (.int .i64 z.f) ∧ W.cell? ⟨qc + 1, 2, none⟩ = some (.int .i64 z.t) ∧ W.cell? ⟨qc + 1, 3, none⟩ = some (.int .i64 z.i) ∧ W.cell? ⟨qc + 1, 4, none⟩ = some (.slice z.A z.n z.c) ∧ W.cell? ⟨qc + 1, 5, none⟩ = some (.slice z.B z.m z.d)) ∧ (W.cell? ⟨g, 0, none⟩ = some (.int .i64 (cap : Int)) ∧ W.cell? ⟨g, 1, none⟩ = some (.slice Q n c)) ∧ (W.cell? ⟨v, 0, none⟩ = some (.int .i64 (cap : Int)) ∧ W.cell? ⟨v, 1, none⟩ = some (.slice Q3 n c3)) ∧ (W.cell? ⟨h, 0, none⟩ = some (.int .i64 (cap : Int)) ∧ W.cell? ⟨h, 1, none⟩ = some (.slice P m d)) ∧ (W.cell? ⟨p, 1, none⟩ = some (.int .i64 ii))) (by kernel_rfl) (HCELL _ K10.out) (fun hHeld => ?_)
          generalize w9.drew = w10 at *
          clear K9  
          (first | (refine Reg.take 0 (v := ?_) rfl (by kernel_rfl) (by kernel_rfl) (by kernel_rfl) (fun _ _ _ h => h) (Or.inl ⟨by rfl, ?_⟩) (by assumption) ?_; rotate_left; (focus ((intro W hSW); (try dsimp only at hSW); (try go_split_ands); go_simp; (try (with_reducible rfl)); done))) | (refine Reg.take 0 (v := undef) rfl (by kernel_rfl) (by kernel_rfl) (by kernel_rfl) (fun _ _ _ h => h) (Or.inr ⟨by rfl, rfl⟩) (by assumption) ?_))
          (try simp only [Act.put, List.setIfInBounds_toArray, List.set_cons_zero, List.set_cons_succ])
          (first | (refine Reg.take 1 (v := ?_) rfl (by kernel_rfl) (by kernel_rfl) (by kernel_rfl) (fun _ _ _ h => h) (Or.inl ⟨by rfl, ?_⟩) (by assumption) ?_; rotate_left; (focus ((intro W hSW); (try dsimp only at hSW); (try go_split_ands); go_simp; (try (with_reducible rfl)); done))) | (refine Reg.take 1 (v := undef) rfl (by kernel_rfl) (by kernel_rfl) (by kernel_rfl) (fun _ _ _ h => h) (Or.inr ⟨by rfl, rfl⟩) (by assumption) ?_))
          (try simp only [Act.put, List.setIfInBounds_toArray, List.set_cons_zero, List.set_cons_succ])
          refine Reg.step 2 rfl (by kernel_rfl) (by rfl) (fun K hK => ?_)
          go_simp
          refine ((HSA _ K10.out).out).mono ?_
          rintro e w11 ⟨rfl, hb⟩
          have K11 := Lib.hid (K10.out.trans (hb.mono K10.out.size))
          clear hb hHeld 
          clear K10  
          refine hK.out _ _ (HCELL _ K11.out) (fun hHeld => ?_)
          clear hK K
          (try simp only [Act.put, List.setIfInBounds_toArray, List.set_cons_zero, List.set_cons_succ])
          (first | (refine Reg.take 3 (v := ?_) rfl (by kernel_rfl) (by kernel_rfl) (by kernel_rfl) (fun _ _ _ h => h) (Or.inl ⟨by rfl, ?_⟩) (by assumption) ?_; rotate_left; (focus ((intro W hSW); (try dsimp only at hSW); (try go_split_ands); go_simp; (try (with_reducible rfl)); done))) | (refine Reg.take 3 (v := undef) rfl (by kernel_rfl) (by kernel_rfl) (by kernel_rfl) (fun _ _ _ h => h) (Or.inr ⟨by rfl, rfl⟩) (by assumption) ?_))
          (try simp only [Act.put, List.setIfInBounds_toArray, List.set_cons_zero, List.set_cons_succ])
          (first | (refine Reg.take 4 (v := ?_) rfl (by kernel_rfl) (by kernel_rfl) (by kernel_rfl) (fun _ _ _ h => h) (Or.inl ⟨by rfl, ?_⟩) (by assumption) ?_; rotate_left; (focus ((intro W hSW); (try dsimp only at hSW); (try go_split_ands); go_simp; (try (with_reducible rfl)); done))) | (refine Reg.take 4 (v := undef) rfl (by kernel_rfl) (by kernel_rfl) (by kernel_rfl) (fun _ _ _ h => h) (Or.inr ⟨by rfl, rfl⟩) (by assumption) ?_))
          (try simp only [Act.put, List.setIfInBounds_toArray, List.set_cons_zero, List.set_cons_succ])
          (first | (refine Reg.take 5 (v := ?_) rfl (by kernel_rfl) (by kernel_rfl) (by kernel_rfl) (fun _ _ _ h => h) (Or.inl ⟨by rfl, ?_⟩) (by assumption) ?_; rotate_left; (focus ((intro W hSW); (try dsimp only at hSW); (try go_split_ands); go_simp; (try (with_reducible rfl)); done))) | (refine Reg.take 5 (v := undef) rfl (by kernel_rfl) (by kernel_rfl) (by kernel_rfl) (fun _ _ _ h => h) (Or.inr ⟨by rfl, rfl⟩) (by assumption) ?_))
          (try simp only [Act.put, List.setIfInBounds_toArray, List.set_cons_zero, List.set_cons_succ])
          (first | (refine Reg.take 6 (v := ?_) rfl (by kernel_rfl) (by kernel_rfl) (by kernel_rfl) (fun _ _ _ h => h) (Or.inl ⟨by rfl, ?_⟩) (by assumption) ?_; rotate_left; (focus ((intro W hSW); (try dsimp only at hSW); (try go_split_ands); go_simp; (try (with_reducible rfl)); done))) | (refine Reg.take 6 (v := undef) rfl (by kernel_rfl) (by kernel_rfl) (by kernel_rfl) (fun _ _ _ h => h) (Or.inr ⟨by rfl, rfl⟩) (by assumption) ?_))
          (try simp only [Act.put, List.setIfInBounds_toArray, List.set_cons_zero, List.set_cons_succ])
          refine Reg.step 7 rfl (by kernel_rfl) (by rfl) (fun K hK => ?_)
          go_simp
          refine ((HSM _ K11.out).out).mono ?_
          rintro e w12 ⟨rfl, hb⟩
          have K12 := Lib.hid (K11.out.trans (hb.mono K11.out.size))
          clear hb hHeld 
          clear K11  
          refine hK.out _ _ (HCELL _ K12.out) (fun hHeld => ?_)
          clear hK K
          (try simp only [Act.put, List.setIfInBounds_toArray, List.set_cons_zero, List.set_cons_succ])
          (first | (refine Reg.take 8 (v := ?_) rfl (by kernel_rfl) (by kernel_rfl) (by kernel_rfl) (fun _ _ _ h => h) (Or.inl ⟨by rfl, ?_⟩) (by assumption) ?_; rotate_left; (focus ((intro W hSW); (try dsimp only at hSW); (try go_split_ands); go_simp; (try (with_reducible rfl)); done))) | (refine Reg.take 8 (v := undef) rfl (by kernel_rfl) (by kernel_rfl) (by kernel_rfl) (fun _ _ _ h => h) (Or.inr ⟨by rfl, rfl⟩) (by assumption) ?_))
          (try simp only [Act.put, List.setIfInBounds_toArray, List.set_cons_zero, List.set_cons_succ])
          (first | (refine Reg.take 9 (v := ?_) rfl (by kernel_rfl) (by kernel_rfl) (by kernel_rfl) (fun _ _ _ h => h) (Or.inl ⟨by rfl, ?_⟩) (by assumption) ?_; rotate_left; (focus ((intro W hSW); (try dsimp only at hSW); (try go_split_ands); go_simp; (try (with_reducible rfl)); done))) | (refine Reg.take 9 (v := undef) rfl (by kernel_rfl) (by kernel_rfl) (by kernel_rfl) (fun _ _ _ h => h) (Or.inr ⟨by rfl, rfl⟩) (by assumption) ?_))
          (try simp only [Act.put, List.setIfInBounds_toArray, List.set_cons_zero, List.set_cons_succ])
          (first | (refine Reg.take 10 (v := ?_) rfl (by kernel_rfl) (by kernel_rfl) (by kernel_rfl) (fun _ _ _ h => h) (Or.inl ⟨by rfl, ?_⟩) (by assumption) ?_; rotate_left; (focus ((intro W hSW); (try dsimp only at hSW); (try go_split_ands); go_simp; (try (with_reducible rfl)); done))) | (refine Reg.take 10 (v := undef) rfl (by kernel_rfl) (by kernel_rfl) (by kernel_rfl) (fun _ _ _ h => h) (Or.inr ⟨by rfl, rfl⟩) (by assumption) ?_))
          (try simp only [Act.put, List.setIfInBounds_toArray, List.set_cons_zero, List.set_cons_succ])
          (first | (refine Reg.take 11 (v := ?_) rfl (by kernel_rfl) (by kernel_rfl) (by kernel_rfl) (fun _ _ _ h => h) (Or.inl ⟨by rfl, ?_⟩) (by assumption) ?_; rotate_left; (focus ((intro W hSW); (try dsimp only at hSW); (try go_split_ands); go_simp; (try (with_reducible rfl)); done))) | (refine Reg.take 11 (v := undef) rfl (by kernel_rfl) (by kernel_rfl) (by kernel_rfl) (fun _ _ _ h => h) (Or.inr ⟨by rfl, rfl⟩) (by assumption) ?_))
          (try simp only [Act.put, List.setIfInBounds_toArray, List.set_cons_zero, List.set_cons_succ])
          (first | (refine Reg.take 12 (v := ?_) rfl (by kernel_rfl) (by kernel_rfl) (by kernel_rfl) (fun _ _ _ h => h) (Or.inl ⟨by rfl, ?_⟩) (by assumption) ?_; rotate_left; (focus ((intro W hSW); (try dsimp only at hSW); (try go_split_ands); go_simp; (try (with_reducible rfl)); done))) | (refine Reg.take 12 (v := undef) rfl (by kernel_rfl) (by kernel_rfl) (by kernel_rfl) (fun _ _ _ h => h) (Or.inr ⟨by rfl, rfl⟩) (by assumption) ?_))
          (try simp only [Act.put, List.setIfInBounds_toArray, List.set_cons_zero, List.set_cons_succ])
          (first | (refine Reg.take 13 (v := ?_) rfl (by kernel_rfl) (by kernel_rfl) (by kernel_rfl) (fun _ _ _ h => h) (Or.inl ⟨by rfl, ?_⟩) (by assumption) ?_; rotate_left; (focus ((intro W hSW); (try dsimp only at hSW); (try go_split_ands); go_simp; (try (with_reducible rfl)); done))) | (refine Reg.take 13 (v := undef) rfl (by kernel_rfl) (by kernel_rfl) (by kernel_rfl) (fun _ _ _ h => h) (Or.inr ⟨by rfl, rfl⟩) (by assumption) ?_))
          (try simp only [Act.put, List.setIfInBounds_toArray, List.set_cons_zero, List.set_cons_succ])
          (first | (refine Reg.take 14 (v := ?_) rfl (by kernel_rfl) (by kernel_rfl) (by kernel_rfl) (fun _ _ _ h => h) (Or.inl ⟨by rfl, ?_⟩) (by assumption) ?_; rotate_left; (focus ((intro W hSW); (try dsimp only at hSW); (try go_split_ands); go_simp; (try (with_reducible rfl)); done))) | (refine Reg.take 14 (v := undef) rfl (by kernel_rfl) (by kernel_rfl) (by kernel_rfl) (fun _ _ _ h => h) (Or.inr ⟨by rfl, rfl⟩) (by assumption) ?_))
          (try simp only [Act.put, List.setIfInBounds_toArray, List.set_cons_zero, List.set_cons_succ])
          (first | (refine Reg.take 15 (v := ?_) rfl (by kernel_rfl) (by kernel_rfl) (by kernel_rfl) (fun _ _ _ h => h) (Or.inl ⟨by rfl, ?_⟩) (by assumption) ?_; rotate_left; (focus ((intro W hSW); (try dsimp only at hSW); (try go_split_ands); go_simp; (try (with_reducible rfl)); done))) | (refine Reg.take 15 (v := undef) rfl (by kernel_rfl) (by kernel_rfl) (by kernel_rfl) (fun _ _ _ h => h) (Or.inr ⟨by rfl, rfl⟩) (by assumption) ?_))
          (try simp only [Act.put, List.setIfInBounds_toArray, List.set_cons_zero, List.set_cons_succ])
          (first | (refine Reg.take 16 (v := ?_) rfl (by kernel_rfl) (by kernel_rfl) (by kernel_rfl) (fun _ _ _ h => h) (Or.inl ⟨by rfl, ?_⟩) (by assumption) ?_; rotate_left; (focus ((intro W hSW); (try dsimp only at hSW); (try go_split_ands); go_simp; (try (with_reducible rfl)); done))) | (refine Reg.take 16 (v := undef) rfl (by kernel_rfl) (by kernel_rfl) (by kernel_rfl) (fun _ _ _ h => h) (Or.inr ⟨by rfl, rfl⟩) (by assumption) ?_))
          (try simp only [Act.put, List.setIfInBounds_toArray, List.set_cons_zero, List.set_cons_succ])
          (first | (refine Reg.take 17 (v := ?_) rfl (by kernel_rfl) (by kernel_rfl) (by kernel_rfl) (fun _ _ _ h => h) (Or.inl ⟨by rfl, ?_⟩) (by assumption) ?_; rotate_left; (focus ((intro W hSW); (try dsimp only at hSW); (try go_split_ands); go_simp; (try (with_reducible rfl)); done))) | (refine Reg.take 17 (v := undef) rfl (by kernel_rfl) (by kernel_rfl) (by kernel_rfl) (fun _ _ _ h => h) (Or.inr ⟨by rfl, rfl⟩) (by assumption) ?_))
          (try simp only [Act.put, List.setIfInBounds_toArray, List.set_cons_zero, List.set_cons_succ])
          (first | (refine Reg.take 18 (v := ?_) rfl (by kernel_rfl) (by kernel_rfl) (by kernel_rfl) (fun _ _ _ h => h) (Or.inl ⟨by rfl, ?_⟩) (by assumption) ?_; rotate_left; (focus ((intro W hSW); (try dsimp only at hSW); (try go_split_ands); go_simp; (try (with_reducible rfl)); done))) | (refine Reg.take 18 (v := undef) rfl (by kernel_rfl) (by kernel_rfl) (by kernel_rfl) (fun _ _ _ h => h) (Or.inr ⟨by rfl, rfl⟩) (by assumption) ?_))
          (try simp only [Act.put, List.setIfInBounds_toArray, List.set_cons_zero, List.set_cons_succ])
          (first | (refine Reg.take 19 (v := ?_) rfl (by kernel_rfl) (by kernel_rfl) (by kernel_rfl) (fun _ _ _ h => h) (Or.inl ⟨by rfl, ?_⟩) (by assumption) ?_; rotate_left; (focus ((intro W hSW); (try dsimp only at hSW); (try go_split_ands); go_simp; (try (with_reducible rfl)); done))) | (refine Reg.take 19 (v := undef) rfl (by kernel_rfl) (by kernel_rfl) (by kernel_rfl) (fun _ _ _ h => h) (Or.inr ⟨by rfl, rfl⟩) (by assumption) ?_))
          (try simp only [Act.put, List.setIfInBounds_toArray, List.set_cons_zero, List.set_cons_succ])
          (first | (refine Reg.take 20 (v := ?_) rfl (by kernel_rfl) (by kernel_rfl) (by kernel_rfl) (fun _ _ _ h => h) (Or.inl ⟨by rfl, ?_⟩) (by assumption) ?_; rotate_left; (focus ((intro W hSW); (try dsimp only at hSW); (try go_split_ands); go_simp; (try (with_reducible rfl)); done))) | (refine Reg.take 20 (v := undef) rfl (by kernel_rfl) (by kernel_rfl) (by kernel_rfl) (fun _ _ _ h => h) (Or.inr ⟨by rfl, rfl⟩) (by assumption) ?_))
          (try simp only [Act.put, List.setIfInBounds_toArray, List.set_cons_zero, List.set_cons_succ])
          (first | (refine Reg.take 21 (v := ?_) rfl (by kernel_rfl) (by kernel_rfl) (by kernel_rfl) (fun _ _ _ h => h) (Or.inl ⟨by rfl, ?_⟩) (by assumption) ?_; rotate_left; (focus ((intro W hSW); (try dsimp only at hSW); (try go_split_ands); go_simp; (try (with_reducible rfl)); done))) | (refine Reg.take 21 (v := undef) rfl (by kernel_rfl) (by kernel_rfl) (by kernel_rfl) (fun _ _ _ h => h) (Or.inr ⟨by rfl, rfl⟩) (by assumption) ?_))
          (try simp only [Act.put, List.setIfInBounds_toArray, List.set_cons_zero, List.set_cons_succ])
          (first | (refine Reg.take 22 (v := ?_) rfl (by kernel_rfl) (by kernel_rfl) (by kernel_rfl) (fun _ _ _ h => h) (Or.inl ⟨by rfl, ?_⟩) (by assumption) ?_; rotate_left; (focus ((intro W hSW); (try dsimp only at hSW); (try go_split_ands); go_simp; (try (with_reducible rfl)); done))) | (refine Reg.take 22 (v := undef) rfl (by kernel_rfl) (by kernel_rfl) (by kernel_rfl) (fun _ _ _ h => h) (Or.inr ⟨by rfl, rfl⟩) (by assumption) ?_))
          (try simp only [Act.put, List.setIfInBounds_toArray, List.set_cons_zero, List.set_cons_succ])
          refine Reg.step 23 rfl (by kernel_rfl) (by rfl) (fun K hK => ?_)
          go_simp
          refine ((HSW _ K12.out).out).mono ?_
          rintro e w13 ⟨rfl, hb⟩
          have K13 := Lib.hid (K12.out.trans (hb.mono K12.out.size))
          clear hb hHeld 
          clear K12  
          refine hK.out _ _ (HCELL _ K13.out) (fun hHeld => ?_)
          clear hK K
          (try simp only [Act.put, List.setIfInBounds_toArray, List.set_cons_zero, List.set_cons_succ])
          (first | (refine Reg.take 24 (v := ?_) rfl (by kernel_rfl) (by kernel_rfl) (by kernel_rfl) (fun _ _ _ h => h) (Or.inl ⟨by rfl, ?_⟩) (by assumption) ?_; rotate_left; (focus ((intro W hSW); (try dsimp only at hSW); (try go_split_ands); go_simp; (try (with_reducible rfl)); done))) | (refine Reg.take 24 (v := undef) rfl (by kernel_rfl) (by kernel_rfl) (by kernel_rfl) (fun _ _ _ h => h) (Or.inr ⟨by rfl, rfl⟩) (by assumption) ?_))
          (try simp only [Act.put, List.setIfInBounds_toArray, List.set_cons_zero, List.set_cons_succ])
          (first | (refine Reg.take 25 (v := ?_) rfl (by kernel_rfl) (by kernel_rfl) (by kernel_rfl) (fun _ _ _ h => h) (Or.inl ⟨by rfl, ?_⟩) (by assumption) ?_; rotate_left; (focus ((intro W hSW); (try dsimp only at hSW); (try go_split_ands); go_simp; (try (with_reducible rfl)); done))) | (refine Reg.take 25 (v := undef) rfl (by kernel_rfl) (by kernel_rfl) (by kernel_rfl) (fun _ _ _ h => h) (Or.inr ⟨by rfl, rfl⟩) (by assumption) ?_))
          (try simp only [Act.put, List.setIfInBounds_toArray, List.set_cons_zero, List.set_cons_succ])
          (first | (refine Reg.take 26 (v := ?_) rfl (by kernel_rfl) (by kernel_rfl) (by kernel_rfl) (fun _ _ _ h => h) (Or.inl ⟨by rfl, ?_⟩) (by assumption) ?_; rotate_left; (focus ((intro W hSW); (try dsimp only at hSW); (try go_split_ands); go_simp; (try (with_reducible rfl)); done))) | (refine Reg.take 26 (v := undef) rfl (by kernel_rfl) (by kernel_rfl) (by kernel_rfl) (fun _ _ _ h => h) (Or.inr ⟨by rfl, rfl⟩) (by assumption) ?_))
          (try simp only [Act.put, List.setIfInBounds_toArray, List.set_cons_zero, List.set_cons_succ])
          (first | (refine Reg.take 27 (v := ?_) rfl (by kernel_rfl) (by kernel_rfl) (by kernel_rfl) (fun _ _ _ h => h) (Or.inl ⟨by rfl, ?_⟩) (by assumption) ?_; rotate_left; (focus ((intro W hSW); (try dsimp only at hSW); (try go_split_ands); go_simp; (try (with_reducible rfl)); done))) | (refine Reg.take 27 (v := undef) rfl (by kernel_rfl) (by kernel_rfl) (by kernel_rfl) (fun _ _ _ h => h) (Or.inr ⟨by rfl, rfl⟩) (by assumption) ?_))
          (try simp only [Act.put, List.setIfInBounds_toArray, List.set_cons_zero, List.set_cons_succ])
          (first | (refine Reg.take 28 (v := ?_) rfl (by kernel_rfl) (by kernel_rfl) (by kernel_rfl) (fun _ _ _ h => h) (Or.inl ⟨by rfl, ?_⟩) (by assumption) ?_; rotate_left; (focus ((intro W hSW); (try dsimp only at hSW); (try go_split_ands); go_simp; (try (with_reducible rfl)); done))) | (refine Reg.take 28 (v := undef) rfl (by kernel_rfl) (by kernel_rfl) (by kernel_rfl) (fun _ _ _ h => h) (Or.inr ⟨by rfl, rfl⟩) (by assumption) ?_))
          (try simp only [Act.put, List.setIfInBounds_toArray, List.set_cons_zero, List.set_cons_succ])
          (first | (refine Reg.take 29 (v := ?_) rfl (by kernel_rfl) (by kernel_rfl) (by kernel_rfl) (fun _ _ _ h => h) (Or.inl ⟨by rfl, ?_⟩) (by assumption) ?_; rotate_left; (focus ((intro W hSW); (try dsimp only at hSW); (try go_split_ands); go_simp; (try (with_reducible rfl)); done))) | (refine Reg.take 29 (v := undef) rfl (by kernel_rfl) (by kernel_rfl) (by kernel_rfl) (fun _ _ _ h => h) (Or.inr ⟨by rfl, rfl⟩) (by assumption) ?_))
          (try simp only [Act.put, List.setIfInBounds_toArray, List.set_cons_zero, List.set_cons_succ])
          (first | (refine Reg.take 31 (v := ?_) rfl (by kernel_rfl) (by kernel_rfl) (by kernel_rfl) (fun _ _ _ h => h) (Or.inl ⟨by rfl, ?_⟩) (by assumption) ?_; rotate_left; (focus ((intro W hSW); (try dsimp only at hSW); (try go_split_ands); go_simp; (try (with_reducible rfl)); done))) | (refine Reg.take 31 (v := undef) rfl (by kernel_rfl) (by kernel_rfl) (by kernel_rfl) (fun _ _ _ h => h) (Or.inr ⟨by rfl, rfl⟩) (by assumption) ?_))
          (try simp only [Act.put, List.setIfInBounds_toArray, List.set_cons_zero, List.set_cons_succ])
          (first | (refine Reg.take 32 (v := ?_) rfl (by kernel_rfl) (by kernel_rfl) (by kernel_rfl) (fun _ _ _ h => h) (Or.inl ⟨by rfl, ?_⟩) (by assumption) ?_; rotate_left; (focus ((intro W hSW); (try dsimp only at hSW); (try go_split_ands); go_simp; (try (with_reducible rfl)); done))) | (refine Reg.take 32 (v := undef) rfl (by kernel_rfl) (by kernel_rfl) (by kernel_rfl) (fun _ _ _ h => h) (Or.inr ⟨by rfl, rfl⟩) (by assumption) ?_))
          (try simp only [Act.put, List.setIfInBounds_toArray, List.set_cons_zero, List.set_cons_succ])
          (first | (refine Reg.take 33 (v := ?_) rfl (by kernel_rfl) (by kernel_rfl) (by kernel_rfl) (fun _ _ _ h => h) (Or.inl ⟨by rfl, ?_⟩) (by assumption) ?_; rotate_left; (focus ((intro W hSW); (try dsimp only at hSW); (try go_split_ands); go_simp; (try (with_reducible rfl)); done))) | (refine Reg.take 33 (v := undef) rfl (by kernel_rfl) (by kernel_rfl) (by kernel_rfl) (fun _ _ _ h => h) (Or.inr ⟨by rfl, rfl⟩) (by assumption) ?_))
          (try simp only [Act.put, List.setIfInBounds_toArray, List.set_cons_zero, List.set_cons_succ])
          refine Reg.step 30 rfl (by kernel_rfl) (by rfl) (fun K hK => ?_)
          go_simp
          refine ((HTO _ K13.out).out).mono ?_
          rintro e w14 ⟨⟨Xt, kt, dt, rfl, hO⟩, hb⟩
          have K14 := Lib.hid (K13.out.trans (hb.mono K13.out.size))
          have R14 := Lib.hid (Wire.gave_row hO (by have := HTL.out; omega)).1
          clear hO
          clear hb hHeld 
          clear K13  
          refine hK.out _ _ (HCELL _ K14.out) (fun hHeld => ?_)
          clear hK K
          (try simp only [Act.put, List.setIfInBounds_toArray, List.set_cons_zero, List.set_cons_succ])
          refine Reg.step 34 rfl (by kernel_rfl) (by rfl) (fun K hK => ?_)
          go_simp
          refine ((HTD _ K14.out).out).mono ?_
          rintro e w15 ⟨⟨Xu, ku, du, rfl, hO⟩, hb⟩
          have K15 := Lib.hid (K14.out.trans (hb.mono K14.out.size))
          have R15 := Lib.hid (Row.below R14.out hb)
          have Z15 := Lib.hid (Wire.gave_row hO (by have := HTL.out; omega)).1
          clear hO
          clear hb hHeld 
          clear K14 R14 
          refine hK.out _ _ (HCELL _ K15.out) (fun hHeld => ?_)
          clear hK K
          (try simp only [Act.put, List.setIfInBounds_toArray, List.set_cons_zero, List.set_cons_succ])
          refine Reg.step 35 rfl (by kernel_rfl) (by rfl) (fun K hK => ?_)
          go_simp
          refine ((ints_eq R15.out Z15.out)).mono ?_
          rintro e w16 ⟨rfl, hb⟩
          have K16 := Lib.hid (K15.out.trans (hb.mono K15.out.size))
          have R16 := Lib.hid (Row.below R15.out hb)
          have Z16 := Lib.hid (Row.below Z15.out hb)
          clear hb hHeld 
          clear K15 R15 Z15 
          clear R16
          clear Z16
          refine hK.out _ _ (HCELL _ K16.out) (fun hHeld => ?_)
          clear hK K
          (try simp only [Act.put, List.setIfInBounds_toArray, List.set_cons_zero, List.set_cons_succ])
          (first | (refine Reg.take 36 (v := ?_) rfl (by kernel_rfl) (by kernel_rfl) (by kernel_rfl) (fun _ _ _ h => h) (Or.inl ⟨by rfl, ?_⟩) (by assumption) ?_; rotate_left; (focus ((intro W hSW); (try dsimp only at hSW); (try go_split_ands); go_simp; (try (with_reducible rfl)); done))) | (refine Reg.take 36 (v := undef) rfl (by kernel_rfl) (by kernel_rfl) (by kernel_rfl) (fun _ _ _ h => h) (Or.inr ⟨by rfl, rfl⟩) (by assumption) ?_))
          (try simp only [Act.put, List.setIfInBounds_toArray, List.set_cons_zero, List.set_cons_succ])
          (first | (refine Reg.take 37 (v := ?_) rfl (by kernel_rfl) (by kernel_rfl) (by kernel_rfl) (fun _ _ _ h => h) (Or.inl ⟨by rfl, ?_⟩) (by assumption) ?_; rotate_left; (focus ((intro W hSW); (try dsimp only at hSW); (try go_split_ands); go_simp; (try (with_reducible rfl)); done))) | (refine Reg.take 37 (v := undef) rfl (by kernel_rfl) (by kernel_rfl) (by kernel_rfl) (fun _ _ _ h => h) (Or.inr ⟨by rfl, rfl⟩) (by assumption) ?_))
          (try simp only [Act.put, List.setIfInBounds_toArray, List.set_cons_zero, List.set_cons_succ])
          refine wpAnyH_done (by kernel_rfl) ?_ _
          clear hHeld
          clear HSA HSM HD9 HSW HTO HTD HTL HCELL T9 V9 O9 XZ9 ZA9 LP
          go_upto_region 18 with fail
          have L16 := Lib.hid (L9.out.trans (K16.out.mono L9.out.size))
          have N16 := Lib.hid (OwnN.below N9.out K16.out)
          have YA16 := Lib.hid (MAt.below YA9.out K16.out)
          have YO16 := Lib.hid (Owns.below YO9.out K16.out)
          have XA16 := Lib.hid (Cells.below XA9.out K16.out)
          have XM16 := Lib.hid (Cells.below XM9.out K16.out)
          have M16 := Lib.hid (OwnN.below M9.out K16.out)
          have XC16 := Lib.hid (Cells.below XC9.out K16.out)
          clear K16 L9 N9 YA9 YO9 XA9 XM9 M9 XC9
          obtain ⟨m0, m1, m2, m3, m4, m5⟩ := MBox.cells XM16.out
          go_upto_region 19 with fail
          clear m0 m1 m2 m3 m4 m5
          obtain ⟨gp, hp1, hp0⟩ := own_place YO16.out
          have GP : Hid (w0.heap.size ≤ gp ∧ gp ≠ qa ∧ gp ≠ qa + 1 ∧ gp ≠ qc ∧ (gp < lo4 ∨ w16.heap.size ≤ gp)) := by
            have e1 := L16.out.size
            have e2 := Cells.lt XA16.out
            have e3 := Cells.lt XM16.out
            have e4 := Cells.lt XC16.out
            have e5 := SQ.out
            have e6 := SC.out
            have e7 := S56.out
            show _ ∧ _
            rcases Nat.eq_zero_or_pos y.m with h0 | h0
            · have := hp0 h0
              omega
            · obtain ⟨q1, q2, q3⟩ := hp1 h0
              obtain ⟨gq, q4, q5, q6⟩ := YQ.out h0
              rw [q1] at q4
              simp only [Option.some.injEq, Addr.mk.injEq, and_true] at q4
              subst q4
              omega
          have HP1 : Hid (0 < y.m → y.B = some ⟨gp, 0, none⟩) := fun h0 => (hp1 h0).1
          have HP0 := Lib.hid hp0
          have hyb := YA16.out.text.big
          clear hp1 hp0 YQ
          go_loopw [27, 153] (fun _ t wx => ∃ (j : Nat), t = .int .i64 j ∧ j ≤ y.m ∧ Hid (Mov [gp] w16 wx ∧ ∃ xs, Owns cb 5 lo wx (.slice y.B y.m y.d) y.m xs)) (fun _ t _ => y.m - (intOf t).toNat)
          case atStart => exact ⟨0, rfl, by omega, Mov.refl _ _, _, YO16.out⟩
          case round =>
            obtain ⟨j, rfl, hj, hH⟩ := hrel
            obtain ⟨wx, hwx⟩ : ∃ x, x = wr := ⟨_, rfl⟩
            subst hwx
            by_cases hlj : j < y.m
            · obtain ⟨hMv, xs, hO⟩ := hH.out
              have hB := HP1.out (by omega)
              rw [hB] at hO
              obtain ⟨x, hc, hf⟩ := own_cell hO hlj
              have hw := Lib.hid (fun v hv => own_write hO j (x + 1#8) v hv)
              obtain ⟨m0, m1, m2, m3, m4, m5⟩ := MBox.cells (Cells.mov XM16.out hMv (by have := GP.out; simp; omega))
              rw [hB] at m5
              have HM := Lib.hid hMv
              have HBE := Lib.hid hB
              have hinc := inc_u x
              have hj0 : (0 : Int) ≤ (j : Int) := by omega
              have hj1 : (j : Int) < (y.m : Int) := by omega
              unfold cb at hw
              generalize u x = ux at *
              generalize u (x + 1#8) = uy at *
              clear hO hMv hB
              go_wp2_with fail
              go_roundw
              case rel => exact ⟨j + 1, by go_num, by omega, HM.out.trans (hw.out _ rfl).2 (by simp), _, by rw [HBE.out]; exact (hw.out _ rfl).1⟩
              case measure => simp [intOf]; omega
            · have HM := Lib.hid hH.out.1
              have LX := Lib.hid (L16.out.trans (HM.out.below L16.out.size (by simpa using GP.out.1)))
              have XAX := Lib.hid (Cells.mov XA16.out HM.out (by have := GP.out; simp; omega))
              have XCX := Lib.hid (Cells.mov XC16.out HM.out (by have := GP.out; simp; omega))
              have NX := Lib.hid (N16.out.apart YAP.out rfl HP1.out (fun h => by rw [HP0.out h]; exact Nat.le_refl _) HM.out)
              have MX := Lib.hid (M16.out.past GP.out.2.2.2.2 HM.out)
              clear hH HM L16 N16 YA16 YO16 XA16 XM16 M16 XC16 HP0 HP1 GP
              obtain ⟨k0, k1⟩ := NBox.cells (D.out.fresh LX.out).a
              obtain ⟨bs, we, hW⟩ : ∃ a b, wrR (l.map Mx.p) = (a, b) := ⟨_, _, rfl⟩
              have HW := Lib.hid (got_write (cap := cap) (D.out.fresh LX.out).net (by have := HNM.out; omega))
              have HWD := fun W (hb : Below w0.heap.size w0 W) => Lib.hid (got_docWrite (cap := cap) (D.out.fresh hb).net2 (by have := HNM.out; omega))
              rw [hW] at HW
              rw [← D.out.eq, hW] at HWD
              unfold nv at HW HWD
              clear hW
              go_upto_region 24 with (first | (go_at_call 23; refine HW.out.mono ?_; rintro en wa ⟨S1, s1n, s1c, rfl, hr, hb⟩; (try dsimp only at hr); have La := Lib.hid (LX.out.trans (hb.mono LX.out.size)); have XAa := Lib.hid (Cells.below XAX.out hb); have XCa := Lib.hid (Cells.below XCX.out hb); have Na := Lib.hid (OwnN.below NX.out hb); have Ma := Lib.hid (OwnN.below MX.out hb); have RSa := Lib.hid hr; (try dsimp only); clear hr hb k0 k1 HW LX XAX XCX NX MX) | fail)
              obtain ⟨k0, k1⟩ := NBox.cells (D.out.fresh La.out).b
              go_upto_region 25 with (first | (go_at_call 24; refine (HWD _ La.out).out.mono ?_; rintro en wb ⟨S2, s2n, s2c, rfl, hr, hb⟩; (try dsimp only at hr); have Lb := Lib.hid (La.out.trans (hb.mono La.out.size)); have XAb := Lib.hid (Cells.below XAa.out hb); have XCb := Lib.hid (Cells.below XCa.out hb); have Nb := Lib.hid (OwnN.below Na.out hb); have Mb := Lib.hid (OwnN.below Ma.out hb); have RSb := Lib.hid (Row.below RSa.out hb); have RTb := Lib.hid hr; (try dsimp only); clear hr hb k0 k1 HWD RSa La XAa XCa Na Ma) | fail)
              have s1 := run_str RSb.out
              have s2 := run_str RTb.out
              go_upto_region 27 with fail
              clear s1 s2 RSb RTb
              rcases her : (er == 0)
              · go_wp2_with fail
                go_roundw
                case rel => exact ⟨i + 1, cap, Q, n, c, l, P, m, d, k, by go_num, by omega, Lib.hid (D.out.fresh Lb.out)⟩
                case measure => simp [intOf]; omega
              · obtain ⟨k0, k1⟩ := NBox.cells XAb.out
                have DB := Lib.hid (D.out.fresh Lb.out)
                have f0 := Cells.frozen DB.out.a 0
                have f1 := Cells.frozen DB.out.a 1
                obtain ⟨j0, j1⟩ := NBox.cells DB.out.a
                have HGL : Hid (g < w0.heap.size ∧ h < w0.heap.size ∧ g ≠ h) := ⟨Cells.lt D.out.a, Cells.lt D.out.b, D.out.ne⟩
                have CE := Lib.hid (DB.out.give (by have h1 := HGL.out; have h2 := S56.out; have h3 := SQ.out; have h4 := Cells.lt XAb.out; omega) Nb.out (by have h1 := HGL.out; have h2 := S56.out; have h3 := SQ.out; have h4 := SC.out; have h5 := Cells.lt XCb.out; omega) Mb.out (by rw [HP.out, HP4.out]) (cap2 := cap2) ⟨HN2.out, HLE.out.2⟩)
                have bt := Mov.set2 wb g (.int .i64 (cap2 : Int)) (.slice Q2 n2 c2)
                have XD := Lib.hid (Cells.mov XCb.out bt (by have h1 := HGL.out; have h2 := S56.out; have h3 := SQ.out; have h4 := SC.out; simp; omega))
                have DD := Lib.hid (Cells.mov DB.out.b bt (by have := HGL.out; simp; omega))
                clear bt
                go_upto_region 29 with fail
                clear k0 k1 j0 j1 f0 f1 Lb XAb XCb Nb Mb DB
                generalize (wb.setCell ⟨g, 0, none⟩ (.int .i64 (cap2 : Int))).setCell ⟨g, 1, none⟩ (.slice Q2 n2 c2) = wd at *
                obtain ⟨k0, k1⟩ := NBox.cells XD.out
                have f0 := Cells.frozen DD.out 0
                have f1 := Cells.frozen DD.out 1
                obtain ⟨j0, j1⟩ := NBox.cells DD.out
                go_wp2_with fail
                go_roundw
                case rel => exact ⟨i + 1, cap2, Q2, n2, c2, l2, Q4, n4, c4, l4, by go_num, by omega, CE⟩
                case measure => simp [intOf]; omega
      · have hiN : i = N := by omega
        subst hiN
        obtain ⟨k0, k1⟩ := NBox.cells D.out.a
        obtain ⟨j0, j1⟩ := NBox.cells D.out.b
        have HS := Lib.hid (same_eq (cap := cap) D.out.net D.out.net2 D.out.eq)
        unfold nv at HS
        go_wp2_with fail
        refine HS.out.mono ?_
        rintro e' w1 ⟨rfl, hb⟩
        have LZ := Lib.hid (D.out.below.trans (hb.mono D.out.below.size))
        clear hb HS k0 k1 j0 j1
        go_wp2_with fail
        go_ret
        exact ⟨rfl, LZ.out⟩
  · skip
    go_enter Try.func3, Try.ntmps3
    go_wp2_with fail
    refine HLV.out.mono ?_
    rintro e' w1 ⟨rfl, hb⟩
    have L1 := Lib.hid hb
    clear hb HLV
    go_wp2_with fail
    refine (HFW _ (HA.out.below L1.out)).out.mono ?_
    rintro e' w2 ⟨⟨bb, rfl, -⟩, hb⟩
    have L2 := Lib.hid (L1.out.trans (hb.mono L1.out.size))
    clear hb HFW L1
    rcases bb
    · go_wp2_with fail
      go_ret
      exact ⟨by rfl, L2.out⟩
    go_wp2_with fail
    go_ret
    exact ⟨by rfl, L2.out⟩
end Net
end Go.Proofs.Ytamahknnppjegaa
/-
  THE STATEMENT NetDoes: its row. For every input that the row can read, no condition beside it. (Written by gen_netlaws.py.)
-/
namespace Go.Proofs.Ytamahknnppjegaa
open Go.ChangeShapes Go.WideShapes Go.ChangeAt Go.RowKit Mem Args
namespace Net

theorem netDoes_says : Frame.Says Rows.netDoesSpec 3 := by
  refine ⟨rfl, fun H ds h => ?_, fun H ds h => ?_, fun H ds h => ?_⟩ <;>
  · match ds, h with
    | [d0, d1, d2], _ => rfl

set_option maxRecDepth 100000 in
theorem netDoes_walks : Frame.Walks 3 [3, 22, 23] := by
  intro H enc W args ds ps base hok hA hsz
  obtain ⟨v0, vs0, d0, ds0, p0, q0, hargs, rfl, rfl, h0, r0⟩ := trodAll_cons hA
  obtain ⟨v1, vs1, d1, ds1, p1, q1, rfl, rfl, rfl, h1, r1⟩ := trodAll_cons r0
  obtain ⟨v2, vs2, d2, ds2, p2, q2, rfl, rfl, rfl, h2, r2⟩ := trodAll_cons r1
  obtain ⟨rfl, rfl, rfl⟩ := trodAll_nil r2
  obtain rfl : args = #[v0, v1, v2] := by cases args; simp_all
  obtain ⟨z0, rfl, rfl, rfl, hz0⟩ := open_int Try.underlying3 (hok 0 _ v0 rfl rfl) h0
  obtain ⟨A1, n1, c1, l1, rfl, k1⟩ := open_opsN (hok 1 _ v1 rfl rfl) h1 (sized_arg hsz (j := 1) rfl rfl)
  obtain ⟨A2, n2, c2, l2, rfl, k2⟩ := open_bytes (hok 2 _ v2 rfl rfl) h2 (sized_arg hsz (j := 2) rfl rfl)
  exact does_walk z0 A1 n1 c1 l1 A2 n2 c2 l2 W k1 k2

set_option maxRecDepth 100000 in
theorem netDoes_over : Rows.netDoesRow.holds Try.pinned (OpenSpec.ofChange Rows.netDoesSpec) :=
  OpenClaim.holds_of_wide 3 Try.f3 rfl rfl rfl rfl rfl rfl rfl ⟨rfl, rfl, rfl, rfl, rfl⟩ rfl rfl rfl rfl rfl (by kernel_rfl) Try.func3 (by kernel_rfl)
    (of_decide_eq_true (by kernel_rfl)) (by unfold Func.isWrapper; first | (rw [if_pos (by decide +kernel)]; kernel_rfl) | (rw [if_neg (by decide +kernel)]; exact ⟨rfl, rfl⟩))
    (fun os started H enc _ => Frame.lifted (started := started) Try.underlying4 (by kernel_rfl) Try.func3 (n := 3) (by rw [Try.params3]; rfl) netDoes_says (by rw [Try.params3]; kernel_rfl) (by kernel_rfl)
      (ChangeSpec.witness6 (enc := enc) (C := Try.checked) false ⟨#[], #[.int .i64 0, .slice none 0 0, .slice none 0 0], []⟩ 8 (by kernel_rfl) (by kernel_rfl) (by kernel_rfl) (by kernel_rfl))
      (by rw [Try.params3]; exact netDoes_walks))
end Net
/-- The given statement. -/
theorem netDoes_holds : Rows.NetDoesSaid := Net.netDoes_over
end Go.Proofs.Ytamahknnppjegaa
