/-
  SEVERAL TEXTS IN ONE FILE: CooGiveW, CooDelF.
-/
import Derived.Test.YtmflngclncidjaaGreatJ12
import Derived.Test.YtmflngclncidjaaGreatJ19
import Derived.Test.YtmflngclncidjaaGreatJ13
/-
  A WALK OVER give. (Written by gen_coogive.py.)
-/
namespace Go.Proofs.YtmflngclncidjaaGreat
open Go.RowKit Mem
namespace Coo
open Lea (Cells But OneBox Lv Tv)
open Spa (Sp)

theorem partsP_eq {c : Cv} (_h : Inv c) (a b : Int) : Spa.partsP c.s a b = bif Spa.rangeB c.s a b then (Spa.partsS c.s a b, 0) else ([], 1) := rfl
/-- What is no one's, or the host's own, under epochs that were given already, is not stale. -/
theorem giveP_eq {c : Cv} (h : Inv c) {e : Ev} (hh : hostB e.host = true) (hr : Spa.rangeB c.s e.fr e.to = true) : Spa.giveP c.s e.fr e.to e.host (c.t.last + 1) = (Spa.giveS c.s e.fr e.to e.host (c.t.last + 1), 0) := by
  have h0 := last0 h
  have hm := hostB_iff.1 hh
  have ho : Spa.mayOwn e.host (c.t.last + 1) = true := Spa.mayOwn_iff.2 (.inr (by omega))
  have hs : Spa.staleB (Spa.partsS c.s e.fr e.to) e.host (c.t.last + 1) = false := by
    unfold Spa.staleB
    rw [Bool.and_eq_false_iff]
    right
    rw [List.any_eq_false]
    intro s hs hst
    simp only [Bool.and_eq_true, decide_eq_true_eq] at hst
    obtain ⟨r1, r2, r3, r4⟩ := Spa.rangeB_iff.1 hr
    have hch := Spa.partsS_ch (Spa.ok_ch h.sok) (Int.le_of_lt r3) r2 r4
    have hmm := hch.mem hs
    have hw := Spa.who_mem hch hs (k := s.fr) ⟨Int.le_refl _, hmm.2.1⟩
    rw [Spa.partsS_who, if_pos (by omega)] at hw
    rcases h.own _ _ _ hw with h1 | ⟨-, h2⟩
    · have := hst.1
      rw [h1] at this
      simp at this
    · omega
  unfold Spa.giveP
  rw [hr, ho, hs]
  rfl

set_option maxRecDepth 100000 in
set_option maxHeartbeats 12800000 in
theorem give_act {base g N : Nat} {x : Cx} {w : World} {e : Ev} (h : Desk base w g x) (hi : Inv x.p) (hbd : Bd x.p N) (hN : N ≤ 100000) (_hh : hostB e.host = true) :
    Calls Tryz.prog 46 #[.pointer (some ⟨g, 0, none⟩), evv e] w (Acted base g x w (giveC x.p e)) := by
  have hn : x.n ≤ 100000 := by have h1 := h.l.2; have h2 := hbd.len; omega
  have hm : x.m ≤ 400000 := by have h1 := h.s.2; have h2 := hi.slen hbd; omega
  have hq : x.q ≤ 100000 := by have h1 := h.f.2; have h2 := hbd.wlen; omega
  have HM0 := fun W (hW : Below w.heap.size w W) => Lib.hid (member_any e.host (Lea.OwnsL.row (h.l.below hW) (by omega)) (by omega) hi.tok)
  have HPT0 := fun W (hW : Below w.heap.size w W) => Lib.hid (Spa.Parts_any e.fr e.to (Spa.OwnsL.row (h.s.below hW) (by omega)) (by omega))
  have HGV0 := fun W (hW : Below w.heap.size w W) => Lib.hid (Spa.give_any e.fr e.to e.host (x.p.t.last + 1) (Spa.OwnsL.row (h.s.below hW) (by omega)) (by omega))
  have HI := Lib.hid hi
  have HWR := Lib.hid (wrap_last hi hbd hN)
  have HNX := fun w (x : Cx) (h : KBox w g x) (hw : IntKind.i64.wrap (x.p.t.last + 1) = x.p.t.last + 1) => Lib.hid (nextEpoch_any h hw)
  have HSL := Lib.hid (hi.slen hbd)
  unfold Spa.GaveS at HPT0 HGV0
  have H0 := Lib.hid h
  obtain ⟨L1, E1, N1⟩ := two_new w e
  have HRF := fun er w => Lib.hid (refused_any er w)

  go_enter Tryz.func46, Tryz.ntmps46
  go_upto_region 1 with fail
  generalize (w.alloc (.cells #[.int .i64 e.d, .int .i64 e.host, .int .i64 e.zone, .int .i64 e.epoch, .int .i64 e.fr, .int .i64 e.to, .int .i64 e.now, .int .i64 e.key] 36)).alloc (.cells #[.int .i64 0, .int .i64 0, .slice none 0 0] 39) = w1 at *
  have D1 := Lib.hid (H0.out.below L1.out)
  have HS := fun W (hW : Below w1.heap.size w1 W) => And.intro (seven (D1.out.below hW).box) (EBox.cells (Lea.Cells.below E1.out hW))
  have LL1 : Hid (Below w1.heap.size w1 w1) := Below.refl _ _
  have HP : Hid (w.heap.size + 1 < w1.heap.size) := Lea.Cells.lt N1.out
  have HM := fun W (hW : Below w1.heap.size w1 W) => HM0 W (L1.out.trans (hW.mono L1.out.size))
  have HPT := fun W (hW : Below w1.heap.size w1 W) => HPT0 W (L1.out.trans (hW.mono L1.out.size))
  have HGV := fun W (hW : Below w1.heap.size w1 W) => HGV0 W (L1.out.trans (hW.mono L1.out.size))
  clear HM0 HPT0 HGV0
  have LL2 : Hid (Below w1.heap.size w1 w1.drew) := LL1.out.drew
  refine wp_region_held_drew (S := fun W => (W.cell? ⟨g, 0, none⟩ = some (.int .i64 x.p.t.last) ∧ W.cell? ⟨g, 1, none⟩ = some (.int .i64 x.p.t.now) ∧ W.cell? ⟨g, 2, none⟩ = some (.slice x.A x.n x.a) ∧ W.cell? ⟨g, 3, none⟩ = some (.slice x.S x.m x.s) ∧ W.cell? ⟨g, 4, none⟩ = some (.slice x.W x.q x.k) ∧ W.cell? ⟨g, 5, none⟩ = some (.int .i64 x.p.ttl) ∧ W.cell? ⟨g, 6, none⟩ = some (.int .i64 x.p.zones)) ∧ (W.cell? ⟨w.heap.size, 0, none⟩ = some (.int .i64 e.d) ∧ W.cell? ⟨w.heap.size, 1, none⟩ = some (.int .i64 e.host) ∧ W.cell? ⟨w.heap.size, 2, none⟩ = some (.int .i64 e.zone) ∧ W.cell? ⟨w.heap.size, 3, none⟩ = some (.int .i64 e.epoch) ∧ W.cell? ⟨w.heap.size, 4, none⟩ = some (.int .i64 e.fr) ∧ W.cell? ⟨w.heap.size, 5, none⟩ = some (.int .i64 e.to) ∧ W.cell? ⟨w.heap.size, 6, none⟩ = some (.int .i64 e.now) ∧ W.cell? ⟨w.heap.size, 7, none⟩ = some (.int .i64 e.key))) (by kernel_rfl) (HS _ LL2.out) (fun hHeld => ?_)
  generalize w1.drew = w2 at *
  (first | (refine Reg.take 0 (v := ?_) rfl (by kernel_rfl) (by kernel_rfl) (by kernel_rfl) (fun _ _ _ h => h) (Or.inl ⟨by rfl, ?_⟩) (by assumption) ?_; rotate_left; (focus ((intro W hSW); (try dsimp only at hSW); (try go_split_ands); go_simp; (try (with_reducible rfl)); done))) | (refine Reg.take 0 (v := undef) rfl (by kernel_rfl) (by kernel_rfl) (by kernel_rfl) (fun _ _ _ h => h) (Or.inr ⟨by rfl, rfl⟩) (by assumption) ?_))
  (try simp only [Act.put, List.setIfInBounds_toArray, List.set_cons_zero, List.set_cons_succ])
  (first | (refine Reg.take 1 (v := ?_) rfl (by kernel_rfl) (by kernel_rfl) (by kernel_rfl) (fun _ _ _ h => h) (Or.inl ⟨by rfl, ?_⟩) (by assumption) ?_; rotate_left; (focus ((intro W hSW); (try dsimp only at hSW); (try go_split_ands); go_simp; (try (with_reducible rfl)); done))) | (refine Reg.take 1 (v := undef) rfl (by kernel_rfl) (by kernel_rfl) (by kernel_rfl) (fun _ _ _ h => h) (Or.inr ⟨by rfl, rfl⟩) (by assumption) ?_))
  (try simp only [Act.put, List.setIfInBounds_toArray, List.set_cons_zero, List.set_cons_succ])
  (first | (refine Reg.take 2 (v := ?_) rfl (by kernel_rfl) (by kernel_rfl) (by kernel_rfl) (fun _ _ _ h => h) (Or.inl ⟨by rfl, ?_⟩) (by assumption) ?_; rotate_left; (focus ((intro W hSW); (try dsimp only at hSW); (try go_split_ands); go_simp; (try (with_reducible rfl)); done))) | (refine Reg.take 2 (v := undef) rfl (by kernel_rfl) (by kernel_rfl) (by kernel_rfl) (fun _ _ _ h => h) (Or.inr ⟨by rfl, rfl⟩) (by assumption) ?_))
  (try simp only [Act.put, List.setIfInBounds_toArray, List.set_cons_zero, List.set_cons_succ])
  (first | (refine Reg.take 3 (v := ?_) rfl (by kernel_rfl) (by kernel_rfl) (by kernel_rfl) (fun _ _ _ h => h) (Or.inl ⟨by rfl, ?_⟩) (by assumption) ?_; rotate_left; (focus ((intro W hSW); (try dsimp only at hSW); (try go_split_ands); go_simp; (try (with_reducible rfl)); done))) | (refine Reg.take 3 (v := undef) rfl (by kernel_rfl) (by kernel_rfl) (by kernel_rfl) (fun _ _ _ h => h) (Or.inr ⟨by rfl, rfl⟩) (by assumption) ?_))
  (try simp only [Act.put, List.setIfInBounds_toArray, List.set_cons_zero, List.set_cons_succ])
  (first | (refine Reg.take 4 (v := ?_) rfl (by kernel_rfl) (by kernel_rfl) (by kernel_rfl) (fun _ _ _ h => h) (Or.inl ⟨by rfl, ?_⟩) (by assumption) ?_; rotate_left; (focus ((intro W hSW); (try dsimp only at hSW); (try go_split_ands); go_simp; (try (with_reducible rfl)); done))) | (refine Reg.take 4 (v := undef) rfl (by kernel_rfl) (by kernel_rfl) (by kernel_rfl) (fun _ _ _ h => h) (Or.inr ⟨by rfl, rfl⟩) (by assumption) ?_))
  (try simp only [Act.put, List.setIfInBounds_toArray, List.set_cons_zero, List.set_cons_succ])
  (first | (refine Reg.take 5 (v := ?_) rfl (by kernel_rfl) (by kernel_rfl) (by kernel_rfl) (fun _ _ _ h => h) (Or.inl ⟨by rfl, ?_⟩) (by assumption) ?_; rotate_left; (focus ((intro W hSW); (try dsimp only at hSW); (try go_split_ands); go_simp; (try (with_reducible rfl)); done))) | (refine Reg.take 5 (v := undef) rfl (by kernel_rfl) (by kernel_rfl) (by kernel_rfl) (fun _ _ _ h => h) (Or.inr ⟨by rfl, rfl⟩) (by assumption) ?_))
  (try simp only [Act.put, List.setIfInBounds_toArray, List.set_cons_zero, List.set_cons_succ])
  refine Reg.step 6 rfl (by kernel_rfl) (by rfl) (fun K hK => ?_)
  go_simp
  refine (HM w2 LL2.out).out.mono ?_
  rintro e' w3 ⟨rfl, hb⟩
  have LL3 := Lib.hid (LL2.out.trans (hb.mono LL2.out.size))
  clear hb
  refine hK.out _ _ (HS _ LL3.out) (fun hHeld2 => ?_)
  clear hK K
  (try simp only [Act.put, List.setIfInBounds_toArray, List.set_cons_zero, List.set_cons_succ])
  (first | (refine Reg.take 7 (v := ?_) rfl (by kernel_rfl) (by kernel_rfl) (by kernel_rfl) (fun _ _ _ h => h) (Or.inl ⟨by rfl, ?_⟩) (by assumption) ?_; rotate_left; (focus ((intro W hSW); (try dsimp only at hSW); (try go_split_ands); go_simp; (try (with_reducible rfl)); done))) | (refine Reg.take 7 (v := undef) rfl (by kernel_rfl) (by kernel_rfl) (by kernel_rfl) (fun _ _ _ h => h) (Or.inr ⟨by rfl, rfl⟩) (by assumption) ?_))
  (try simp only [Act.put, List.setIfInBounds_toArray, List.set_cons_zero, List.set_cons_succ])
  refine wpAnyH_done (by kernel_rfl) ?_ _
  clear hHeld hHeld2
  rcases e1 : memB x.p e.host
  · skip
    go_wp2_with fail
    refine (HRF 4 w3).out.mono ?_
    rintro e' w4 ⟨rfl, hb⟩
    have LL4 := Lib.hid (LL3.out.trans (hb.mono LL3.out.size))
    have D4 := Lib.hid (D1.out.below LL4.out)
    have N4 := Lib.hid (Lea.Cells.below N1.out LL4.out)
    clear hb
    obtain ⟨n0, n1, n2⟩ := ABox.cells N4.out
    obtain ⟨f0, f1, f2⟩ := ABox.frozen N4.out
    go_wp2_with fail
    refine bodyPost_ret_by (results_cell_row rfl _ _ (w.heap.size + 1) _ _ _ _ rfl (ABox.store N4.out 4 0 none 0 0) Tryz.underlying39 rfl (by kernel_rfl)) rfl ?_
    unfold giveC
    rw [e1]
    exact acted_bad (by omega) H0.out.low D4.out N4.out (L1.out.trans (LL4.out.mono L1.out.size)) 4
  · rcases e2 : Spa.rangeB x.p.s e.fr e.to
    · have hpp : Spa.partsP x.p.s e.fr e.to = ([], 1) := by unfold Spa.partsP; rw [e2]; rfl
      rw [hpp] at HPT
      go_upto_region 3 with fail
      have LL4 : Hid (Below w1.heap.size w1 w3.drew) := LL3.out.drew
      refine wp_region_held_drew (S := fun W => (W.cell? ⟨g, 0, none⟩ = some (.int .i64 x.p.t.last) ∧ W.cell? ⟨g, 1, none⟩ = some (.int .i64 x.p.t.now) ∧ W.cell? ⟨g, 2, none⟩ = some (.slice x.A x.n x.a) ∧ W.cell? ⟨g, 3, none⟩ = some (.slice x.S x.m x.s) ∧ W.cell? ⟨g, 4, none⟩ = some (.slice x.W x.q x.k) ∧ W.cell? ⟨g, 5, none⟩ = some (.int .i64 x.p.ttl) ∧ W.cell? ⟨g, 6, none⟩ = some (.int .i64 x.p.zones)) ∧ (W.cell? ⟨w.heap.size, 0, none⟩ = some (.int .i64 e.d) ∧ W.cell? ⟨w.heap.size, 1, none⟩ = some (.int .i64 e.host) ∧ W.cell? ⟨w.heap.size, 2, none⟩ = some (.int .i64 e.zone) ∧ W.cell? ⟨w.heap.size, 3, none⟩ = some (.int .i64 e.epoch) ∧ W.cell? ⟨w.heap.size, 4, none⟩ = some (.int .i64 e.fr) ∧ W.cell? ⟨w.heap.size, 5, none⟩ = some (.int .i64 e.to) ∧ W.cell? ⟨w.heap.size, 6, none⟩ = some (.int .i64 e.now) ∧ W.cell? ⟨w.heap.size, 7, none⟩ = some (.int .i64 e.key))) (by kernel_rfl) (HS _ LL4.out) (fun hHeld => ?_)
      generalize w3.drew = w4 at *
      (first | (refine Reg.take 0 (v := ?_) rfl (by kernel_rfl) (by kernel_rfl) (by kernel_rfl) (fun _ _ _ h => h) (Or.inl ⟨by rfl, ?_⟩) (by assumption) ?_; rotate_left; (focus ((intro W hSW); (try dsimp only at hSW); (try go_split_ands); go_simp; (try (with_reducible rfl)); done))) | (refine Reg.take 0 (v := undef) rfl (by kernel_rfl) (by kernel_rfl) (by kernel_rfl) (fun _ _ _ h => h) (Or.inr ⟨by rfl, rfl⟩) (by assumption) ?_))
      (try simp only [Act.put, List.setIfInBounds_toArray, List.set_cons_zero, List.set_cons_succ])
      (first | (refine Reg.take 1 (v := ?_) rfl (by kernel_rfl) (by kernel_rfl) (by kernel_rfl) (fun _ _ _ h => h) (Or.inl ⟨by rfl, ?_⟩) (by assumption) ?_; rotate_left; (focus ((intro W hSW); (try dsimp only at hSW); (try go_split_ands); go_simp; (try (with_reducible rfl)); done))) | (refine Reg.take 1 (v := undef) rfl (by kernel_rfl) (by kernel_rfl) (by kernel_rfl) (fun _ _ _ h => h) (Or.inr ⟨by rfl, rfl⟩) (by assumption) ?_))
      (try simp only [Act.put, List.setIfInBounds_toArray, List.set_cons_zero, List.set_cons_succ])
      (first | (refine Reg.take 2 (v := ?_) rfl (by kernel_rfl) (by kernel_rfl) (by kernel_rfl) (fun _ _ _ h => h) (Or.inl ⟨by rfl, ?_⟩) (by assumption) ?_; rotate_left; (focus ((intro W hSW); (try dsimp only at hSW); (try go_split_ands); go_simp; (try (with_reducible rfl)); done))) | (refine Reg.take 2 (v := undef) rfl (by kernel_rfl) (by kernel_rfl) (by kernel_rfl) (fun _ _ _ h => h) (Or.inr ⟨by rfl, rfl⟩) (by assumption) ?_))
      (try simp only [Act.put, List.setIfInBounds_toArray, List.set_cons_zero, List.set_cons_succ])
      (first | (refine Reg.take 3 (v := ?_) rfl (by kernel_rfl) (by kernel_rfl) (by kernel_rfl) (fun _ _ _ h => h) (Or.inl ⟨by rfl, ?_⟩) (by assumption) ?_; rotate_left; (focus ((intro W hSW); (try dsimp only at hSW); (try go_split_ands); go_simp; (try (with_reducible rfl)); done))) | (refine Reg.take 3 (v := undef) rfl (by kernel_rfl) (by kernel_rfl) (by kernel_rfl) (fun _ _ _ h => h) (Or.inr ⟨by rfl, rfl⟩) (by assumption) ?_))
      (try simp only [Act.put, List.setIfInBounds_toArray, List.set_cons_zero, List.set_cons_succ])
      (first | (refine Reg.take 4 (v := ?_) rfl (by kernel_rfl) (by kernel_rfl) (by kernel_rfl) (fun _ _ _ h => h) (Or.inl ⟨by rfl, ?_⟩) (by assumption) ?_; rotate_left; (focus ((intro W hSW); (try dsimp only at hSW); (try go_split_ands); go_simp; (try (with_reducible rfl)); done))) | (refine Reg.take 4 (v := undef) rfl (by kernel_rfl) (by kernel_rfl) (by kernel_rfl) (fun _ _ _ h => h) (Or.inr ⟨by rfl, rfl⟩) (by assumption) ?_))
      (try simp only [Act.put, List.setIfInBounds_toArray, List.set_cons_zero, List.set_cons_succ])
      (first | (refine Reg.take 5 (v := ?_) rfl (by kernel_rfl) (by kernel_rfl) (by kernel_rfl) (fun _ _ _ h => h) (Or.inl ⟨by rfl, ?_⟩) (by assumption) ?_; rotate_left; (focus ((intro W hSW); (try dsimp only at hSW); (try go_split_ands); go_simp; (try (with_reducible rfl)); done))) | (refine Reg.take 5 (v := undef) rfl (by kernel_rfl) (by kernel_rfl) (by kernel_rfl) (fun _ _ _ h => h) (Or.inr ⟨by rfl, rfl⟩) (by assumption) ?_))
      (try simp only [Act.put, List.setIfInBounds_toArray, List.set_cons_zero, List.set_cons_succ])
      (first | (refine Reg.take 6 (v := ?_) rfl (by kernel_rfl) (by kernel_rfl) (by kernel_rfl) (fun _ _ _ h => h) (Or.inl ⟨by rfl, ?_⟩) (by assumption) ?_; rotate_left; (focus ((intro W hSW); (try dsimp only at hSW); (try go_split_ands); go_simp; (try (with_reducible rfl)); done))) | (refine Reg.take 6 (v := undef) rfl (by kernel_rfl) (by kernel_rfl) (by kernel_rfl) (fun _ _ _ h => h) (Or.inr ⟨by rfl, rfl⟩) (by assumption) ?_))
      (try simp only [Act.put, List.setIfInBounds_toArray, List.set_cons_zero, List.set_cons_succ])
      (first | (refine Reg.take 7 (v := ?_) rfl (by kernel_rfl) (by kernel_rfl) (by kernel_rfl) (fun _ _ _ h => h) (Or.inl ⟨by rfl, ?_⟩) (by assumption) ?_; rotate_left; (focus ((intro W hSW); (try dsimp only at hSW); (try go_split_ands); go_simp; (try (with_reducible rfl)); done))) | (refine Reg.take 7 (v := undef) rfl (by kernel_rfl) (by kernel_rfl) (by kernel_rfl) (fun _ _ _ h => h) (Or.inr ⟨by rfl, rfl⟩) (by assumption) ?_))
      (try simp only [Act.put, List.setIfInBounds_toArray, List.set_cons_zero, List.set_cons_succ])
      (first | (refine Reg.take 8 (v := ?_) rfl (by kernel_rfl) (by kernel_rfl) (by kernel_rfl) (fun _ _ _ h => h) (Or.inl ⟨by rfl, ?_⟩) (by assumption) ?_; rotate_left; (focus ((intro W hSW); (try dsimp only at hSW); (try go_split_ands); go_simp; (try (with_reducible rfl)); done))) | (refine Reg.take 8 (v := undef) rfl (by kernel_rfl) (by kernel_rfl) (by kernel_rfl) (fun _ _ _ h => h) (Or.inr ⟨by rfl, rfl⟩) (by assumption) ?_))
      (try simp only [Act.put, List.setIfInBounds_toArray, List.set_cons_zero, List.set_cons_succ])
      refine Reg.step 9 rfl (by kernel_rfl) (by rfl) (fun K hK => ?_)
      go_simp
      refine (HPT w4 LL4.out).out.mono ?_
      rintro e' w5 ⟨B, d, rfl, hO, hb⟩
      have LL5 := Lib.hid (LL4.out.trans (hb.mono LL4.out.size))
      clear hb hO
      refine hK.out _ _ (HS _ LL5.out) (fun hHeld2 => ?_)
      clear hK K
      (first | (refine Reg.take 10 (v := ?_) rfl (by kernel_rfl) (by kernel_rfl) (by kernel_rfl) (fun _ _ _ h => h) (Or.inl ⟨by rfl, ?_⟩) (by assumption) ?_; rotate_left; (focus ((intro W hSW); (try dsimp only at hSW); (try go_split_ands); go_simp; (try (with_reducible rfl)); done))) | (refine Reg.take 10 (v := undef) rfl (by kernel_rfl) (by kernel_rfl) (by kernel_rfl) (fun _ _ _ h => h) (Or.inr ⟨by rfl, rfl⟩) (by assumption) ?_))
      (try simp only [Act.put, List.setIfInBounds_toArray, List.set_cons_zero, List.set_cons_succ])
      (first | (refine Reg.take 11 (v := ?_) rfl (by kernel_rfl) (by kernel_rfl) (by kernel_rfl) (fun _ _ _ h => h) (Or.inl ⟨by rfl, ?_⟩) (by assumption) ?_; rotate_left; (focus ((intro W hSW); (try dsimp only at hSW); (try go_split_ands); go_simp; (try (with_reducible rfl)); done))) | (refine Reg.take 11 (v := undef) rfl (by kernel_rfl) (by kernel_rfl) (by kernel_rfl) (fun _ _ _ h => h) (Or.inr ⟨by rfl, rfl⟩) (by assumption) ?_))
      (try simp only [Act.put, List.setIfInBounds_toArray, List.set_cons_zero, List.set_cons_succ])
      (first | (refine Reg.take 12 (v := ?_) rfl (by kernel_rfl) (by kernel_rfl) (by kernel_rfl) (fun _ _ _ h => h) (Or.inl ⟨by rfl, ?_⟩) (by assumption) ?_; rotate_left; (focus ((intro W hSW); (try dsimp only at hSW); (try go_split_ands); go_simp; (try (with_reducible rfl)); done))) | (refine Reg.take 12 (v := undef) rfl (by kernel_rfl) (by kernel_rfl) (by kernel_rfl) (fun _ _ _ h => h) (Or.inr ⟨by rfl, rfl⟩) (by assumption) ?_))
      (try simp only [Act.put, List.setIfInBounds_toArray, List.set_cons_zero, List.set_cons_succ])
      (first | (refine Reg.take 13 (v := ?_) rfl (by kernel_rfl) (by kernel_rfl) (by kernel_rfl) (fun _ _ _ h => h) (Or.inl ⟨by rfl, ?_⟩) (by assumption) ?_; rotate_left; (focus ((intro W hSW); (try dsimp only at hSW); (try go_split_ands); go_simp; (try (with_reducible rfl)); done))) | (refine Reg.take 13 (v := undef) rfl (by kernel_rfl) (by kernel_rfl) (by kernel_rfl) (fun _ _ _ h => h) (Or.inr ⟨by rfl, rfl⟩) (by assumption) ?_))
      (try simp only [Act.put, List.setIfInBounds_toArray, List.set_cons_zero, List.set_cons_succ])
      (first | (refine Reg.take 14 (v := ?_) rfl (by kernel_rfl) (by kernel_rfl) (by kernel_rfl) (fun _ _ _ h => h) (Or.inl ⟨by rfl, ?_⟩) (by assumption) ?_; rotate_left; (focus ((intro W hSW); (try dsimp only at hSW); (try go_split_ands); go_simp; (try (with_reducible rfl)); done))) | (refine Reg.take 14 (v := undef) rfl (by kernel_rfl) (by kernel_rfl) (by kernel_rfl) (fun _ _ _ h => h) (Or.inr ⟨by rfl, rfl⟩) (by assumption) ?_))
      (try simp only [Act.put, List.setIfInBounds_toArray, List.set_cons_zero, List.set_cons_succ])
      refine wpAnyH_done (by kernel_rfl) ?_ _
      clear hHeld hHeld2
      go_wp2_with fail
      refine (HRF 1 w5).out.mono ?_
      rintro e' w6 ⟨rfl, hb⟩
      have LL6 := Lib.hid (LL5.out.trans (hb.mono LL5.out.size))
      have D6 := Lib.hid (D1.out.below LL6.out)
      have N6 := Lib.hid (Lea.Cells.below N1.out LL6.out)
      clear hb
      obtain ⟨n0, n1, n2⟩ := ABox.cells N6.out
      obtain ⟨f0, f1, f2⟩ := ABox.frozen N6.out
      go_wp2_with fail
      refine bodyPost_ret_by (results_cell_row rfl _ _ (w.heap.size + 1) _ _ _ _ rfl (ABox.store N6.out 1 0 none 0 0) Tryz.underlying39 rfl (by kernel_rfl)) rfl ?_
      unfold giveC
      rw [e1, e2]
      exact acted_bad (by omega) H0.out.low D6.out N6.out (L1.out.trans (LL6.out.mono L1.out.size)) 1
    · have hpp : Spa.partsP x.p.s e.fr e.to = (Spa.partsS x.p.s e.fr e.to, 0) := by unfold Spa.partsP; rw [e2]; rfl
      have hgp := giveP_eq HI.out _hh e2
      rw [hpp] at HPT
      rw [hgp] at HGV
      clear hpp hgp
      have HPL : Hid ((Spa.partsS x.p.s e.fr e.to).length ≤ 400000) := Nat.le_trans (Spa.partsS_len _ _ _) HSL.out
      generalize hps : Spa.partsS x.p.s e.fr e.to = ps at *
      have HPS := Lib.hid hps
      clear hps
      go_upto_region 3 with fail
      have LL4 : Hid (Below w1.heap.size w1 w3.drew) := LL3.out.drew
      refine wp_region_held_drew (S := fun W => (W.cell? ⟨g, 0, none⟩ = some (.int .i64 x.p.t.last) ∧ W.cell? ⟨g, 1, none⟩ = some (.int .i64 x.p.t.now) ∧ W.cell? ⟨g, 2, none⟩ = some (.slice x.A x.n x.a) ∧ W.cell? ⟨g, 3, none⟩ = some (.slice x.S x.m x.s) ∧ W.cell? ⟨g, 4, none⟩ = some (.slice x.W x.q x.k) ∧ W.cell? ⟨g, 5, none⟩ = some (.int .i64 x.p.ttl) ∧ W.cell? ⟨g, 6, none⟩ = some (.int .i64 x.p.zones)) ∧ (W.cell? ⟨w.heap.size, 0, none⟩ = some (.int .i64 e.d) ∧ W.cell? ⟨w.heap.size, 1, none⟩ = some (.int .i64 e.host) ∧ W.cell? ⟨w.heap.size, 2, none⟩ = some (.int .i64 e.zone) ∧ W.cell? ⟨w.heap.size, 3, none⟩ = some (.int .i64 e.epoch) ∧ W.cell? ⟨w.heap.size, 4, none⟩ = some (.int .i64 e.fr) ∧ W.cell? ⟨w.heap.size, 5, none⟩ = some (.int .i64 e.to) ∧ W.cell? ⟨w.heap.size, 6, none⟩ = some (.int .i64 e.now) ∧ W.cell? ⟨w.heap.size, 7, none⟩ = some (.int .i64 e.key))) (by kernel_rfl) (HS _ LL4.out) (fun hHeld => ?_)
      generalize w3.drew = w4 at *
      (first | (refine Reg.take 0 (v := ?_) rfl (by kernel_rfl) (by kernel_rfl) (by kernel_rfl) (fun _ _ _ h => h) (Or.inl ⟨by rfl, ?_⟩) (by assumption) ?_; rotate_left; (focus ((intro W hSW); (try dsimp only at hSW); (try go_split_ands); go_simp; (try (with_reducible rfl)); done))) | (refine Reg.take 0 (v := undef) rfl (by kernel_rfl) (by kernel_rfl) (by kernel_rfl) (fun _ _ _ h => h) (Or.inr ⟨by rfl, rfl⟩) (by assumption) ?_))
      (try simp only [Act.put, List.setIfInBounds_toArray, List.set_cons_zero, List.set_cons_succ])
      (first | (refine Reg.take 1 (v := ?_) rfl (by kernel_rfl) (by kernel_rfl) (by kernel_rfl) (fun _ _ _ h => h) (Or.inl ⟨by rfl, ?_⟩) (by assumption) ?_; rotate_left; (focus ((intro W hSW); (try dsimp only at hSW); (try go_split_ands); go_simp; (try (with_reducible rfl)); done))) | (refine Reg.take 1 (v := undef) rfl (by kernel_rfl) (by kernel_rfl) (by kernel_rfl) (fun _ _ _ h => h) (Or.inr ⟨by rfl, rfl⟩) (by assumption) ?_))
      (try simp only [Act.put, List.setIfInBounds_toArray, List.set_cons_zero, List.set_cons_succ])
      (first | (refine Reg.take 2 (v := ?_) rfl (by kernel_rfl) (by kernel_rfl) (by kernel_rfl) (fun _ _ _ h => h) (Or.inl ⟨by rfl, ?_⟩) (by assumption) ?_; rotate_left; (focus ((intro W hSW); (try dsimp only at hSW); (try go_split_ands); go_simp; (try (with_reducible rfl)); done))) | (refine Reg.take 2 (v := undef) rfl (by kernel_rfl) (by kernel_rfl) (by kernel_rfl) (fun _ _ _ h => h) (Or.inr ⟨by rfl, rfl⟩) (by assumption) ?_))
      (try simp only [Act.put, List.setIfInBounds_toArray, List.set_cons_zero, List.set_cons_succ])
      (first | (refine Reg.take 3 (v := ?_) rfl (by kernel_rfl) (by kernel_rfl) (by kernel_rfl) (fun _ _ _ h => h) (Or.inl ⟨by rfl, ?_⟩) (by assumption) ?_; rotate_left; (focus ((intro W hSW); (try dsimp only at hSW); (try go_split_ands); go_simp; (try (with_reducible rfl)); done))) | (refine Reg.take 3 (v := undef) rfl (by kernel_rfl) (by kernel_rfl) (by kernel_rfl) (fun _ _ _ h => h) (Or.inr ⟨by rfl, rfl⟩) (by assumption) ?_))
      (try simp only [Act.put, List.setIfInBounds_toArray, List.set_cons_zero, List.set_cons_succ])
      (first | (refine Reg.take 4 (v := ?_) rfl (by kernel_rfl) (by kernel_rfl) (by kernel_rfl) (fun _ _ _ h => h) (Or.inl ⟨by rfl, ?_⟩) (by assumption) ?_; rotate_left; (focus ((intro W hSW); (try dsimp only at hSW); (try go_split_ands); go_simp; (try (with_reducible rfl)); done))) | (refine Reg.take 4 (v := undef) rfl (by kernel_rfl) (by kernel_rfl) (by kernel_rfl) (fun _ _ _ h => h) (Or.inr ⟨by rfl, rfl⟩) (by assumption) ?_))
      (try simp only [Act.put, List.setIfInBounds_toArray, List.set_cons_zero, List.set_cons_succ])
      (first | (refine Reg.take 5 (v := ?_) rfl (by kernel_rfl) (by kernel_rfl) (by kernel_rfl) (fun _ _ _ h => h) (Or.inl ⟨by rfl, ?_⟩) (by assumption) ?_; rotate_left; (focus ((intro W hSW); (try dsimp only at hSW); (try go_split_ands); go_simp; (try (with_reducible rfl)); done))) | (refine Reg.take 5 (v := undef) rfl (by kernel_rfl) (by kernel_rfl) (by kernel_rfl) (fun _ _ _ h => h) (Or.inr ⟨by rfl, rfl⟩) (by assumption) ?_))
      (try simp only [Act.put, List.setIfInBounds_toArray, List.set_cons_zero, List.set_cons_succ])
      (first | (refine Reg.take 6 (v := ?_) rfl (by kernel_rfl) (by kernel_rfl) (by kernel_rfl) (fun _ _ _ h => h) (Or.inl ⟨by rfl, ?_⟩) (by assumption) ?_; rotate_left; (focus ((intro W hSW); (try dsimp only at hSW); (try go_split_ands); go_simp; (try (with_reducible rfl)); done))) | (refine Reg.take 6 (v := undef) rfl (by kernel_rfl) (by kernel_rfl) (by kernel_rfl) (fun _ _ _ h => h) (Or.inr ⟨by rfl, rfl⟩) (by assumption) ?_))
      (try simp only [Act.put, List.setIfInBounds_toArray, List.set_cons_zero, List.set_cons_succ])
      (first | (refine Reg.take 7 (v := ?_) rfl (by kernel_rfl) (by kernel_rfl) (by kernel_rfl) (fun _ _ _ h => h) (Or.inl ⟨by rfl, ?_⟩) (by assumption) ?_; rotate_left; (focus ((intro W hSW); (try dsimp only at hSW); (try go_split_ands); go_simp; (try (with_reducible rfl)); done))) | (refine Reg.take 7 (v := undef) rfl (by kernel_rfl) (by kernel_rfl) (by kernel_rfl) (fun _ _ _ h => h) (Or.inr ⟨by rfl, rfl⟩) (by assumption) ?_))
      (try simp only [Act.put, List.setIfInBounds_toArray, List.set_cons_zero, List.set_cons_succ])
      (first | (refine Reg.take 8 (v := ?_) rfl (by kernel_rfl) (by kernel_rfl) (by kernel_rfl) (fun _ _ _ h => h) (Or.inl ⟨by rfl, ?_⟩) (by assumption) ?_; rotate_left; (focus ((intro W hSW); (try dsimp only at hSW); (try go_split_ands); go_simp; (try (with_reducible rfl)); done))) | (refine Reg.take 8 (v := undef) rfl (by kernel_rfl) (by kernel_rfl) (by kernel_rfl) (fun _ _ _ h => h) (Or.inr ⟨by rfl, rfl⟩) (by assumption) ?_))
      (try simp only [Act.put, List.setIfInBounds_toArray, List.set_cons_zero, List.set_cons_succ])
      refine Reg.step 9 rfl (by kernel_rfl) (by rfl) (fun K hK => ?_)
      go_simp
      refine (HPT w4 LL4.out).out.mono ?_
      rintro e' w5 ⟨B, d, rfl, hO, hb⟩
      have LL5 := Lib.hid (LL4.out.trans (hb.mono LL4.out.size))
      have PR := Lib.hid (Spa.OwnsL.row hO (Nat.le_trans HPL.out (by omega)))
      clear hb hO
      refine hK.out _ _ (HS _ LL5.out) (fun hHeld2 => ?_)
      clear hK K
      (first | (refine Reg.take 10 (v := ?_) rfl (by kernel_rfl) (by kernel_rfl) (by kernel_rfl) (fun _ _ _ h => h) (Or.inl ⟨by rfl, ?_⟩) (by assumption) ?_; rotate_left; (focus ((intro W hSW); (try dsimp only at hSW); (try go_split_ands); go_simp; (try (with_reducible rfl)); done))) | (refine Reg.take 10 (v := undef) rfl (by kernel_rfl) (by kernel_rfl) (by kernel_rfl) (fun _ _ _ h => h) (Or.inr ⟨by rfl, rfl⟩) (by assumption) ?_))
      (try simp only [Act.put, List.setIfInBounds_toArray, List.set_cons_zero, List.set_cons_succ])
      (first | (refine Reg.take 11 (v := ?_) rfl (by kernel_rfl) (by kernel_rfl) (by kernel_rfl) (fun _ _ _ h => h) (Or.inl ⟨by rfl, ?_⟩) (by assumption) ?_; rotate_left; (focus ((intro W hSW); (try dsimp only at hSW); (try go_split_ands); go_simp; (try (with_reducible rfl)); done))) | (refine Reg.take 11 (v := undef) rfl (by kernel_rfl) (by kernel_rfl) (by kernel_rfl) (fun _ _ _ h => h) (Or.inr ⟨by rfl, rfl⟩) (by assumption) ?_))
      (try simp only [Act.put, List.setIfInBounds_toArray, List.set_cons_zero, List.set_cons_succ])
      (first | (refine Reg.take 12 (v := ?_) rfl (by kernel_rfl) (by kernel_rfl) (by kernel_rfl) (fun _ _ _ h => h) (Or.inl ⟨by rfl, ?_⟩) (by assumption) ?_; rotate_left; (focus ((intro W hSW); (try dsimp only at hSW); (try go_split_ands); go_simp; (try (with_reducible rfl)); done))) | (refine Reg.take 12 (v := undef) rfl (by kernel_rfl) (by kernel_rfl) (by kernel_rfl) (fun _ _ _ h => h) (Or.inr ⟨by rfl, rfl⟩) (by assumption) ?_))
      (try simp only [Act.put, List.setIfInBounds_toArray, List.set_cons_zero, List.set_cons_succ])
      (first | (refine Reg.take 13 (v := ?_) rfl (by kernel_rfl) (by kernel_rfl) (by kernel_rfl) (fun _ _ _ h => h) (Or.inl ⟨by rfl, ?_⟩) (by assumption) ?_; rotate_left; (focus ((intro W hSW); (try dsimp only at hSW); (try go_split_ands); go_simp; (try (with_reducible rfl)); done))) | (refine Reg.take 13 (v := undef) rfl (by kernel_rfl) (by kernel_rfl) (by kernel_rfl) (fun _ _ _ h => h) (Or.inr ⟨by rfl, rfl⟩) (by assumption) ?_))
      (try simp only [Act.put, List.setIfInBounds_toArray, List.set_cons_zero, List.set_cons_succ])
      (first | (refine Reg.take 14 (v := ?_) rfl (by kernel_rfl) (by kernel_rfl) (by kernel_rfl) (fun _ _ _ h => h) (Or.inl ⟨by rfl, ?_⟩) (by assumption) ?_; rotate_left; (focus ((intro W hSW); (try dsimp only at hSW); (try go_split_ands); go_simp; (try (with_reducible rfl)); done))) | (refine Reg.take 14 (v := undef) rfl (by kernel_rfl) (by kernel_rfl) (by kernel_rfl) (fun _ _ _ h => h) (Or.inr ⟨by rfl, rfl⟩) (by assumption) ?_))
      (try simp only [Act.put, List.setIfInBounds_toArray, List.set_cons_zero, List.set_cons_succ])
      refine wpAnyH_done (by kernel_rfl) ?_ _
      clear hHeld hHeld2
      have HCF := Lib.hid (Spa.contains_any PR.out 69 #[.pointer (some ⟨w.heap.size, 0, none⟩)] (enters_of Tryz.func69 (by kernel_rfl) rfl) (other e.host) (fun W y hW => give1_any e w.heap.size y W (Lea.Cells.below E1.out (LL5.out.trans (hW.mono LL5.out.size)))))
      go_wp2_with fail
      refine HCF.out.mono ?_
      rintro e' w6 ⟨rfl, hb⟩
      have LL6 := Lib.hid (LL5.out.trans (hb.mono LL5.out.size))
      clear hb HCF PR
      rcases e3 : ps.any (other e.host)
      · go_upto_region 9 with fail
        have hw := HWR.out
        have LL7 : Hid (Below w1.heap.size w1 w6.drew) := LL6.out.drew
        refine wp_region_held_drew (S := fun W => (W.cell? ⟨g, 0, none⟩ = some (.int .i64 x.p.t.last) ∧ W.cell? ⟨g, 1, none⟩ = some (.int .i64 x.p.t.now) ∧ W.cell? ⟨g, 2, none⟩ = some (.slice x.A x.n x.a) ∧ W.cell? ⟨g, 3, none⟩ = some (.slice x.S x.m x.s) ∧ W.cell? ⟨g, 4, none⟩ = some (.slice x.W x.q x.k) ∧ W.cell? ⟨g, 5, none⟩ = some (.int .i64 x.p.ttl) ∧ W.cell? ⟨g, 6, none⟩ = some (.int .i64 x.p.zones)) ∧ (W.cell? ⟨w.heap.size, 0, none⟩ = some (.int .i64 e.d) ∧ W.cell? ⟨w.heap.size, 1, none⟩ = some (.int .i64 e.host) ∧ W.cell? ⟨w.heap.size, 2, none⟩ = some (.int .i64 e.zone) ∧ W.cell? ⟨w.heap.size, 3, none⟩ = some (.int .i64 e.epoch) ∧ W.cell? ⟨w.heap.size, 4, none⟩ = some (.int .i64 e.fr) ∧ W.cell? ⟨w.heap.size, 5, none⟩ = some (.int .i64 e.to) ∧ W.cell? ⟨w.heap.size, 6, none⟩ = some (.int .i64 e.now) ∧ W.cell? ⟨w.heap.size, 7, none⟩ = some (.int .i64 e.key))) (by kernel_rfl) (HS _ LL7.out) (fun hHeld => ?_)
        generalize w6.drew = w7 at *
        (first | (refine Reg.take 0 (v := ?_) rfl (by kernel_rfl) (by kernel_rfl) (by kernel_rfl) (fun _ _ _ h => h) (Or.inl ⟨by rfl, ?_⟩) (by assumption) ?_; rotate_left; (focus ((intro W hSW); (try dsimp only at hSW); (try go_split_ands); go_simp; (try (with_reducible rfl)); done))) | (refine Reg.take 0 (v := undef) rfl (by kernel_rfl) (by kernel_rfl) (by kernel_rfl) (fun _ _ _ h => h) (Or.inr ⟨by rfl, rfl⟩) (by assumption) ?_))
        (try simp only [Act.put, List.setIfInBounds_toArray, List.set_cons_zero, List.set_cons_succ])
        (first | (refine Reg.take 1 (v := ?_) rfl (by kernel_rfl) (by kernel_rfl) (by kernel_rfl) (fun _ _ _ h => h) (Or.inl ⟨by rfl, ?_⟩) (by assumption) ?_; rotate_left; (focus ((intro W hSW); (try dsimp only at hSW); (try go_split_ands); go_simp; (try (with_reducible rfl)); done))) | (refine Reg.take 1 (v := undef) rfl (by kernel_rfl) (by kernel_rfl) (by kernel_rfl) (fun _ _ _ h => h) (Or.inr ⟨by rfl, rfl⟩) (by assumption) ?_))
        (try simp only [Act.put, List.setIfInBounds_toArray, List.set_cons_zero, List.set_cons_succ])
        (first | (refine Reg.take 2 (v := ?_) rfl (by kernel_rfl) (by kernel_rfl) (by kernel_rfl) (fun _ _ _ h => h) (Or.inl ⟨by rfl, ?_⟩) (by assumption) ?_; rotate_left; (focus ((intro W hSW); (try dsimp only at hSW); (try go_split_ands); go_simp; (try (with_reducible rfl)); done))) | (refine Reg.take 2 (v := undef) rfl (by kernel_rfl) (by kernel_rfl) (by kernel_rfl) (fun _ _ _ h => h) (Or.inr ⟨by rfl, rfl⟩) (by assumption) ?_))
        (try simp only [Act.put, List.setIfInBounds_toArray, List.set_cons_zero, List.set_cons_succ])
        (first | (refine Reg.take 3 (v := ?_) rfl (by kernel_rfl) (by kernel_rfl) (by kernel_rfl) (fun _ _ _ h => h) (Or.inl ⟨by rfl, ?_⟩) (by assumption) ?_; rotate_left; (focus ((intro W hSW); (try dsimp only at hSW); (try go_split_ands); go_simp; (try (with_reducible rfl)); done))) | (refine Reg.take 3 (v := undef) rfl (by kernel_rfl) (by kernel_rfl) (by kernel_rfl) (fun _ _ _ h => h) (Or.inr ⟨by rfl, rfl⟩) (by assumption) ?_))
        (try simp only [Act.put, List.setIfInBounds_toArray, List.set_cons_zero, List.set_cons_succ])
        (first | (refine Reg.take 4 (v := ?_) rfl (by kernel_rfl) (by kernel_rfl) (by kernel_rfl) (fun _ _ _ h => h) (Or.inl ⟨by rfl, ?_⟩) (by assumption) ?_; rotate_left; (focus ((intro W hSW); (try dsimp only at hSW); (try go_split_ands); go_simp; (try (with_reducible rfl)); done))) | (refine Reg.take 4 (v := undef) rfl (by kernel_rfl) (by kernel_rfl) (by kernel_rfl) (fun _ _ _ h => h) (Or.inr ⟨by rfl, rfl⟩) (by assumption) ?_))
        (try simp only [Act.put, List.setIfInBounds_toArray, List.set_cons_zero, List.set_cons_succ])
        (first | (refine Reg.take 5 (v := ?_) rfl (by kernel_rfl) (by kernel_rfl) (by kernel_rfl) (fun _ _ _ h => h) (Or.inl ⟨by rfl, ?_⟩) (by assumption) ?_; rotate_left; (focus ((intro W hSW); (try dsimp only at hSW); (try go_split_ands); go_simp; (try (with_reducible rfl)); done))) | (refine Reg.take 5 (v := undef) rfl (by kernel_rfl) (by kernel_rfl) (by kernel_rfl) (fun _ _ _ h => h) (Or.inr ⟨by rfl, rfl⟩) (by assumption) ?_))
        (try simp only [Act.put, List.setIfInBounds_toArray, List.set_cons_zero, List.set_cons_succ])
        (first | (refine Reg.take 6 (v := ?_) rfl (by kernel_rfl) (by kernel_rfl) (by kernel_rfl) (fun _ _ _ h => h) (Or.inl ⟨by rfl, ?_⟩) (by assumption) ?_; rotate_left; (focus ((intro W hSW); (try dsimp only at hSW); (try go_split_ands); go_simp; (try (with_reducible rfl)); done))) | (refine Reg.take 6 (v := undef) rfl (by kernel_rfl) (by kernel_rfl) (by kernel_rfl) (fun _ _ _ h => h) (Or.inr ⟨by rfl, rfl⟩) (by assumption) ?_))
        (try simp only [Act.put, List.setIfInBounds_toArray, List.set_cons_zero, List.set_cons_succ])
        (first | (refine Reg.take 7 (v := ?_) rfl (by kernel_rfl) (by kernel_rfl) (by kernel_rfl) (fun _ _ _ h => h) (Or.inl ⟨by rfl, ?_⟩) (by assumption) ?_; rotate_left; (focus ((intro W hSW); (try dsimp only at hSW); (try go_split_ands); go_simp; (try (with_reducible rfl)); done))) | (refine Reg.take 7 (v := undef) rfl (by kernel_rfl) (by kernel_rfl) (by kernel_rfl) (fun _ _ _ h => h) (Or.inr ⟨by rfl, rfl⟩) (by assumption) ?_))
        (try simp only [Act.put, List.setIfInBounds_toArray, List.set_cons_zero, List.set_cons_succ])
        (first | (refine Reg.take 8 (v := ?_) rfl (by kernel_rfl) (by kernel_rfl) (by kernel_rfl) (fun _ _ _ h => h) (Or.inl ⟨by rfl, ?_⟩) (by assumption) ?_; rotate_left; (focus ((intro W hSW); (try dsimp only at hSW); (try go_split_ands); go_simp; (try (with_reducible rfl)); done))) | (refine Reg.take 8 (v := undef) rfl (by kernel_rfl) (by kernel_rfl) (by kernel_rfl) (fun _ _ _ h => h) (Or.inr ⟨by rfl, rfl⟩) (by assumption) ?_))
        (try simp only [Act.put, List.setIfInBounds_toArray, List.set_cons_zero, List.set_cons_succ])
        (first | (refine Reg.take 9 (v := ?_) rfl (by kernel_rfl) (by kernel_rfl) (by kernel_rfl) (fun _ _ _ h => h) (Or.inl ⟨by rfl, ?_⟩) (by assumption) ?_; rotate_left; (focus ((intro W hSW); (try dsimp only at hSW); (try go_split_ands); go_simp; (try (with_reducible rfl)); done))) | (refine Reg.take 9 (v := undef) rfl (by kernel_rfl) (by kernel_rfl) (by kernel_rfl) (fun _ _ _ h => h) (Or.inr ⟨by rfl, rfl⟩) (by assumption) ?_))
        (try simp only [Act.put, List.setIfInBounds_toArray, List.set_cons_zero, List.set_cons_succ])
        (first | (refine Reg.take 10 (v := ?_) rfl (by kernel_rfl) (by kernel_rfl) (by kernel_rfl) (fun _ _ _ h => h) (Or.inl ⟨by rfl, ?_⟩) (by assumption) ?_; rotate_left; (focus ((intro W hSW); (try dsimp only at hSW); (try go_split_ands); go_simp; (try (with_reducible rfl)); done))) | (refine Reg.take 10 (v := undef) rfl (by kernel_rfl) (by kernel_rfl) (by kernel_rfl) (fun _ _ _ h => h) (Or.inr ⟨by rfl, rfl⟩) (by assumption) ?_))
        (try simp only [Act.put, List.setIfInBounds_toArray, List.set_cons_zero, List.set_cons_succ])
        (first | (refine Reg.take 11 (v := ?_) rfl (by kernel_rfl) (by kernel_rfl) (by kernel_rfl) (fun _ _ _ h => h) (Or.inl ⟨by rfl, ?_⟩) (by assumption) ?_; rotate_left; (focus ((intro W hSW); (try dsimp only at hSW); (try go_split_ands); go_simp; (try (with_reducible rfl)); done))) | (refine Reg.take 11 (v := undef) rfl (by kernel_rfl) (by kernel_rfl) (by kernel_rfl) (fun _ _ _ h => h) (Or.inr ⟨by rfl, rfl⟩) (by assumption) ?_))
        (try simp only [Act.put, List.setIfInBounds_toArray, List.set_cons_zero, List.set_cons_succ])
        (first | (refine Reg.take 12 (v := ?_) rfl (by kernel_rfl) (by kernel_rfl) (by kernel_rfl) (fun _ _ _ h => h) (Or.inl ⟨by rfl, ?_⟩) (by assumption) ?_; rotate_left; (focus ((intro W hSW); (try dsimp only at hSW); (try go_split_ands); go_simp; (try (with_reducible rfl)); done))) | (refine Reg.take 12 (v := undef) rfl (by kernel_rfl) (by kernel_rfl) (by kernel_rfl) (fun _ _ _ h => h) (Or.inr ⟨by rfl, rfl⟩) (by assumption) ?_))
        (try simp only [Act.put, List.setIfInBounds_toArray, List.set_cons_zero, List.set_cons_succ])
        (first | (refine Reg.take 13 (v := ?_) rfl (by kernel_rfl) (by kernel_rfl) (by kernel_rfl) (fun _ _ _ h => h) (Or.inl ⟨by rfl, ?_⟩) (by assumption) ?_; rotate_left; (focus ((intro W hSW); (try dsimp only at hSW); (try go_split_ands); go_simp; (try (with_reducible rfl)); done))) | (refine Reg.take 13 (v := undef) rfl (by kernel_rfl) (by kernel_rfl) (by kernel_rfl) (fun _ _ _ h => h) (Or.inr ⟨by rfl, rfl⟩) (by assumption) ?_))
        (try simp only [Act.put, List.setIfInBounds_toArray, List.set_cons_zero, List.set_cons_succ])
        (first | (refine Reg.take 14 (v := ?_) rfl (by kernel_rfl) (by kernel_rfl) (by kernel_rfl) (fun _ _ _ h => h) (Or.inl ⟨by rfl, ?_⟩) (by assumption) ?_; rotate_left; (focus ((intro W hSW); (try dsimp only at hSW); (try go_split_ands); go_simp; (try (with_reducible rfl)); done))) | (refine Reg.take 14 (v := undef) rfl (by kernel_rfl) (by kernel_rfl) (by kernel_rfl) (fun _ _ _ h => h) (Or.inr ⟨by rfl, rfl⟩) (by assumption) ?_))
        (try simp only [Act.put, List.setIfInBounds_toArray, List.set_cons_zero, List.set_cons_succ])
        (first | (refine Reg.take 15 (v := ?_) rfl (by kernel_rfl) (by kernel_rfl) (by kernel_rfl) (fun _ _ _ h => h) (Or.inl ⟨by rfl, ?_⟩) (by assumption) ?_; rotate_left; (focus ((intro W hSW); (try dsimp only at hSW); (try go_split_ands); go_simp; (try (with_reducible rfl)); done))) | (refine Reg.take 15 (v := undef) rfl (by kernel_rfl) (by kernel_rfl) (by kernel_rfl) (fun _ _ _ h => h) (Or.inr ⟨by rfl, rfl⟩) (by assumption) ?_))
        (try simp only [Act.put, List.setIfInBounds_toArray, List.set_cons_zero, List.set_cons_succ])
        (first | (refine Reg.take 16 (v := ?_) rfl (by kernel_rfl) (by kernel_rfl) (by kernel_rfl) (fun _ _ _ h => h) (Or.inl ⟨by rfl, ?_⟩) (by assumption) ?_; rotate_left; (focus ((intro W hSW); (try dsimp only at hSW); (try go_split_ands); go_simp; (try (with_reducible rfl)); done))) | (refine Reg.take 16 (v := undef) rfl (by kernel_rfl) (by kernel_rfl) (by kernel_rfl) (fun _ _ _ h => h) (Or.inr ⟨by rfl, rfl⟩) (by assumption) ?_))
        (try simp only [Act.put, List.setIfInBounds_toArray, List.set_cons_zero, List.set_cons_succ])
        (first | (refine Reg.take 17 (v := ?_) rfl (by kernel_rfl) (by kernel_rfl) (by kernel_rfl) (fun _ _ _ h => h) (Or.inl ⟨by rfl, ?_⟩) (by assumption) ?_; rotate_left; (focus ((intro W hSW); (try dsimp only at hSW); (try go_split_ands); go_simp; (try (with_reducible rfl)); done))) | (refine Reg.take 17 (v := undef) rfl (by kernel_rfl) (by kernel_rfl) (by kernel_rfl) (fun _ _ _ h => h) (Or.inr ⟨by rfl, rfl⟩) (by assumption) ?_))
        (try simp only [Act.put, List.setIfInBounds_toArray, List.set_cons_zero, List.set_cons_succ])
        refine Reg.step 18 rfl (by kernel_rfl) (by rfl) (fun K hK => ?_)
        go_simp
        refine (HGV w7 LL7.out).out.mono ?_
        rintro e' w8 ⟨B2, d2, rfl, hO, hb⟩
        have LL8 := Lib.hid (LL7.out.trans (hb.mono LL7.out.size))
        have O8 := Lib.hid (hO.mono LL7.out.size)
        clear hb hO hw
        refine hK.out _ _ (HS _ LL8.out) (fun hHeld2 => ?_)
        clear hK K
        (try simp only [Act.put, List.setIfInBounds_toArray, List.set_cons_zero, List.set_cons_succ])
        (first | (refine Reg.take 19 (v := ?_) rfl (by kernel_rfl) (by kernel_rfl) (by kernel_rfl) (fun _ _ _ h => h) (Or.inl ⟨by rfl, ?_⟩) (by assumption) ?_; rotate_left; (focus ((intro W hSW); (try dsimp only at hSW); (try go_split_ands); go_simp; (try (with_reducible rfl)); done))) | (refine Reg.take 19 (v := undef) rfl (by kernel_rfl) (by kernel_rfl) (by kernel_rfl) (fun _ _ _ h => h) (Or.inr ⟨by rfl, rfl⟩) (by assumption) ?_))
        (try simp only [Act.put, List.setIfInBounds_toArray, List.set_cons_zero, List.set_cons_succ])
        (first | (refine Reg.take 20 (v := ?_) rfl (by kernel_rfl) (by kernel_rfl) (by kernel_rfl) (fun _ _ _ h => h) (Or.inl ⟨by rfl, ?_⟩) (by assumption) ?_; rotate_left; (focus ((intro W hSW); (try dsimp only at hSW); (try go_split_ands); go_simp; (try (with_reducible rfl)); done))) | (refine Reg.take 20 (v := undef) rfl (by kernel_rfl) (by kernel_rfl) (by kernel_rfl) (fun _ _ _ h => h) (Or.inr ⟨by rfl, rfl⟩) (by assumption) ?_))
        (try simp only [Act.put, List.setIfInBounds_toArray, List.set_cons_zero, List.set_cons_succ])
        (first | (refine Reg.take 21 (v := ?_) rfl (by kernel_rfl) (by kernel_rfl) (by kernel_rfl) (fun _ _ _ h => h) (Or.inl ⟨by rfl, ?_⟩) (by assumption) ?_; rotate_left; (focus ((intro W hSW); (try dsimp only at hSW); (try go_split_ands); go_simp; (try (with_reducible rfl)); done))) | (refine Reg.take 21 (v := undef) rfl (by kernel_rfl) (by kernel_rfl) (by kernel_rfl) (fun _ _ _ h => h) (Or.inr ⟨by rfl, rfl⟩) (by assumption) ?_))
        (try simp only [Act.put, List.setIfInBounds_toArray, List.set_cons_zero, List.set_cons_succ])
        (first | (refine Reg.take 22 (v := ?_) rfl (by kernel_rfl) (by kernel_rfl) (by kernel_rfl) (fun _ _ _ h => h) (Or.inl ⟨by rfl, ?_⟩) (by assumption) ?_; rotate_left; (focus ((intro W hSW); (try dsimp only at hSW); (try go_split_ands); go_simp; (try (with_reducible rfl)); done))) | (refine Reg.take 22 (v := undef) rfl (by kernel_rfl) (by kernel_rfl) (by kernel_rfl) (fun _ _ _ h => h) (Or.inr ⟨by rfl, rfl⟩) (by assumption) ?_))
        (try simp only [Act.put, List.setIfInBounds_toArray, List.set_cons_zero, List.set_cons_succ])
        (first | (refine Reg.take 23 (v := ?_) rfl (by kernel_rfl) (by kernel_rfl) (by kernel_rfl) (fun _ _ _ h => h) (Or.inl ⟨by rfl, ?_⟩) (by assumption) ?_; rotate_left; (focus ((intro W hSW); (try dsimp only at hSW); (try go_split_ands); go_simp; (try (with_reducible rfl)); done))) | (refine Reg.take 23 (v := undef) rfl (by kernel_rfl) (by kernel_rfl) (by kernel_rfl) (fun _ _ _ h => h) (Or.inr ⟨by rfl, rfl⟩) (by assumption) ?_))
        (try simp only [Act.put, List.setIfInBounds_toArray, List.set_cons_zero, List.set_cons_succ])
        refine wpAnyH_done (by kernel_rfl) ?_ _
        clear hHeld hHeld2
        have D8 := Lib.hid (D1.out.below LL8.out)
        have N8 := Lib.hid (Lea.Cells.below N1.out LL8.out)
        have E8 := Lib.hid (Lea.Cells.below E1.out LL8.out)
        have D9 := Lib.hid (D8.out.setS (O8.out.mono (Nat.le_trans H0.out.low L1.out.size)))
        have bt := Lea.But.set1 w8 g 3 (.slice B2 (Spa.giveS x.p.s e.fr e.to e.host (x.p.t.last + 1)).length d2)
        have N9 := Lib.hid (Lea.Cells.but N8.out bt (cells_ne N8.out D8.out.box (by decide)))
        have M9 : Hid (Move base g (oL x) (oW x) (oL x) (oW x) w (w8.setCell ⟨g, 3, none⟩ (.slice B2 (Spa.giveS x.p.s e.fr e.to e.host (x.p.t.last + 1)).length d2))) := (Move.of_below (L1.out.trans (LL8.out.mono L1.out.size)) H0.out.low).trans (Move.box bt H0.out.le D8.out.low)
        clear bt
        obtain ⟨m0, m1, m2, m3, m4, m5, m6⟩ := seven D8.out.box
        obtain ⟨f0, f1, f2, f3, f4, f5, f6⟩ := seven_frozen D8.out.box
        go_upto_region 13 with fail
        clear m0 m1 m2 m3 m4 m5 m6 f0 f1 f2 f3 f4 f5 f6
        generalize w8.setCell ⟨g, 3, none⟩ (.slice B2 (Spa.giveS x.p.s e.fr e.to e.host (x.p.t.last + 1)).length d2) = w9 at *
        go_wp2_with fail
        refine (HNX w9 _ D9.out.box HWR.out).out.mono ?_
        rintro e' w10 ⟨rfl, hw10⟩
        have bt := Lea.But.set1 w9 g 0 (.int .i64 (x.p.t.last + 1))
        dsimp only at hw10
        rw [← hw10] at bt
        have D10 := Lib.hid (D9.out.setLast (x.p.t.last + 1))
        rw [← hw10] at D10
        have N10 := Lib.hid (Lea.Cells.but N9.out bt (cells_ne N9.out D9.out.box (by decide)))
        have M10 := Lib.hid (M9.out.trans (Move.box bt H0.out.le D9.out.low))
        clear bt hw10
        obtain ⟨n0, n1, n2⟩ := ABox.cells N10.out
        obtain ⟨f0, f1, f2⟩ := ABox.frozen N10.out
        go_wp2_with fail
        refine bodyPost_ret_by (results_cell_row rfl _ _ (w.heap.size + 1) _ _ _ _ rfl (ABox.store N10.out 0 (x.p.t.last + 1) none 0 0) Tryz.underlying39 rfl (by kernel_rfl)) rfl ?_
        unfold giveC
        rw [e1, e2, HPS.out, e3]
        exact acted_end (by omega) H0.out.low rfl D10.out N10.out M10.out (RowS.nil _ _ _) (fun k o e => by cases e) rfl rfl
      · skip
        go_wp2_with fail
        refine (HRF 60 w6).out.mono ?_
        rintro e' w7 ⟨rfl, hb⟩
        have LL7 := Lib.hid (LL6.out.trans (hb.mono LL6.out.size))
        have D7 := Lib.hid (D1.out.below LL7.out)
        have N7 := Lib.hid (Lea.Cells.below N1.out LL7.out)
        clear hb
        obtain ⟨n0, n1, n2⟩ := ABox.cells N7.out
        obtain ⟨f0, f1, f2⟩ := ABox.frozen N7.out
        go_wp2_with fail
        refine bodyPost_ret_by (results_cell_row rfl _ _ (w.heap.size + 1) _ _ _ _ rfl (ABox.store N7.out 60 0 none 0 0) Tryz.underlying39 rfl (by kernel_rfl)) rfl ?_
        unfold giveC
        rw [e1, e2, HPS.out, e3]
        exact acted_bad (by omega) H0.out.low D7.out N7.out (L1.out.trans (LL7.out.mono L1.out.size)) 60
end Coo
end Go.Proofs.YtmflngclncidjaaGreat
/-
  A WALK: slices.DeleteFunc over fences, on a row of one's own.
-/
namespace Go.Proofs.YtmflngclncidjaaGreat
open Go.RowKit Mem
namespace Coo
open Lea (Cells But OneBox)

theorem but_setRowF (w : World) (g : Nat) (cs : Array Value) : But g w (w.setRow g cs) := ⟨⟨rfl, rfl, rfl, by simp [World.setRow], fun k _ hn => setRow_other w g k cs (fun e => hn (by rw [e]))⟩⟩
def left (p : Fv → Bool) (l : List Fv) : List Fv := l.filter (fun x => !p x)
theorem left_snoc {p : Fv → Bool} {l : List Fv} {b : Nat} {v : Fv} (hv : l[b]? = some v) : left p (l.take (b + 1)) = left p (l.take b) ++ (bif p v then [] else [v]) := by
  unfold left
  obtain ⟨h, rfl⟩ := List.getElem?_eq_some_iff.1 hv
  rw [List.take_add_one, List.getElem?_eq_getElem h, Option.toList_some, List.filter_append, List.filter_cons, List.filter_nil]
  rcases p l[b] <;> rfl
theorem left_all {p : Fv → Bool} {l : List Fv} (h : ∀ x ∈ l, p x = false) : left p l = l := List.filter_eq_self.2 fun x hx => by rw [h x hx]; rfl
theorem left_len (p : Fv → Bool) (l : List Fv) : (left p l).length ≤ l.length := List.length_filter_le _ _
/-- What lies in the row while it is gone through: a are kept, of the first b. -/
structure Mid (p : Fv → Bool) (l lc : List Fv) (a b : Nat) : Prop where
  kept : lc.take a = left p (l.take b)
  rest : lc.drop b = l.drop b
  len : lc.length = l.length
  lt : a < b
  le : b ≤ l.length
theorem Mid.keep {p : Fv → Bool} {l lc : List Fv} {a b : Nat} (h : Mid p l lc a b) {v : Fv} (hv : l[b]? = some v) (hp : p v = false) : Mid p l (lc.set a v) (a + 1) (b + 1) := by
  have hb := (List.getElem?_eq_some_iff.1 hv).1
  have h1 := h.lt
  have h2 := h.len
  refine ⟨?_, ?_, by rw [List.length_set]; exact h2, by omega, hb⟩
  · rw [left_snoc hv, hp, ← h.kept]
    rw [List.take_add_one, List.getElem?_set, if_pos rfl, if_pos (by omega), Option.toList_some, List.take_set_of_le (Nat.le_refl _)]
    rfl
  · rw [List.drop_set_of_lt (by omega), ← List.drop_drop, ← List.drop_drop, h.rest]
theorem Mid.pass {p : Fv → Bool} {l lc : List Fv} {a b : Nat} (h : Mid p l lc a b) {v : Fv} (hv : l[b]? = some v) (hp : p v = true) : Mid p l lc a (b + 1) := by
  have hb := (List.getElem?_eq_some_iff.1 hv).1
  refine ⟨by rw [left_snoc hv, hp, h.kept]; simp, by rw [← List.drop_drop, ← List.drop_drop, h.rest], h.len, Nat.lt_succ_of_lt h.lt, hb⟩
theorem Mid.at_ {p : Fv → Bool} {l lc : List Fv} {a b : Nat} (h : Mid p l lc a b) {v : Fv} (hv : l[b]? = some v) : lc[b]? = some v := by
  have h1 : (lc.drop b)[0]? = (l.drop b)[0]? := by rw [h.rest]
  rw [List.getElem?_drop, List.getElem?_drop] at h1
  simpa [hv] using h1
theorem Mid.start {p : Fv → Bool} {l : List Fv} {i : Nat} (h : l.findIdx? p = some i) : Mid p l l i (i + 1) := by
  obtain ⟨h1, h2, h3⟩ := List.findIdx?_eq_some_iff_getElem.1 h
  refine ⟨?_, rfl, rfl, by omega, h1⟩
  rw [left_snoc (List.getElem?_eq_getElem h1), h2, left_all (fun x hx => ?_)]
  · simp
  · obtain ⟨j, hj⟩ := List.mem_iff_getElem?.1 hx
    rw [List.getElem?_take] at hj
    split at hj
    · rename_i hji
      obtain ⟨_, rfl⟩ := List.getElem?_eq_some_iff.1 hj
      simpa using h3 j hji
    · cases hj
theorem own_shorter {base : Nat} {w : World} {g n c a : Nat} {l : List Fv} (h : OwnsF base w (.slice (some ⟨g, 0, none⟩) n c) n l) (h0 : 0 < n) (ha : a ≤ n) : OwnsF base w (.slice (some ⟨g, 0, none⟩) a c) a (l.take a) := by
  have hlen := h.2
  obtain ⟨g', cur, e, hb, hg, hnc, hcm, hs, ht⟩ := isNone_own h h0
  injection e with e
  injection e with e
  subst e
  refine own_made (cur := cur.toList) (by simpa using hg) hb (by omega) hcm (by simpa using hs) ?_ (by rw [List.length_take]; omega)
  rw [← flat_take, ← ht, List.take_take, Nat.min_eq_left (by omega)]

set_option maxRecDepth 100000 in
set_option maxHeartbeats 6400000 in
theorem deleteF_own {base : Nat} {w : World} {A : Option Addr} {n c : Nat} {l : List Fv} (h : OwnsF base w (.slice A n c) n l) (hn : n ≤ 1000000) (_hbase : base ≤ w.heap.size) (g : Nat) (lb : Array Value) (eg : ∀ args w, (callFunc g args).run Tryz.prog w = .ok (.enter g args) w) (p : Fv → Bool)
    (hp : ∀ (W : World) (x : Fv), w.grownBy W (Value.slice A n c).ownBlock → Calls Tryz.prog g (#[fv x] ++ lb) W fun e w' => e = .returned (.bool (p x)) ∧ Below W.heap.size W w') :
    Calls Tryz.prog 97 #[.slice A n c, .func (.func g) #[] lb] w fun e w' => e = .returned (.slice A (left p l).length c) ∧ OwnsF base w' (.slice A (left p l).length c) (left p l).length (left p l) ∧ w.grownBy w' (Value.slice A n c).ownBlock := by
  have hlen := Lib.hid h.2
  have H := Lib.hid h
  have HP := Lib.hid hp
  have HIX := Lib.hid (index_any (OwnsF.row h (by omega)) g lb eg p (fun W x hW => hp W x ⟨hW.os, hW.tape, hW.output, hW.size, fun k hk _ => hW.block k hk⟩))
  clear h hp
  go_enter Tryz.func97, Tryz.ntmps97
  go_wp2_with fail
  refine HIX.out.mono ?_
  rintro e w2 ⟨⟨r, rfl, hr⟩, hb⟩
  have L2 := Lib.hid hb
  clear hb HIX
  rcases hr with ⟨rfl, hr⟩ | ⟨i, rfl, hr⟩
  · have HL : Hid (left p l = l) := left_all fun x hx => List.findIdx?_eq_none_iff.1 hr x hx
    clear hr
    go_wp2_with fail
    go_ret
    rw [HL.out, hlen.out]
    exact ⟨rfl, H.out.below L2.out, ⟨L2.out.os, L2.out.tape, L2.out.output, L2.out.size, fun k hk _ => L2.out.block k hk⟩⟩
  · have HM0 := Lib.hid (Mid.start hr)
    have hil : i < n := by have := HM0.out.le; have := hlen.out; omega
    clear hr
    obtain ⟨gA, cur, rfl, hbg, -, hnc, -, -, -⟩ := isNone_own H.out (by omega)
    have HBG := Lib.hid hbg
    have hw1 : IntKind.i64.wrap ((i : Int) + 1) = ((i + 1 : Nat) : Int) := by rw [IntKind.wrap_i64]; omega
    have hne : ((i : Int) == -1) = false := beq_eq_false_iff_ne.2 (by omega)
    have G2 : Hid (w.grownBy w2 (some gA)) := ⟨L2.out.os, L2.out.tape, L2.out.output, L2.out.size, fun k hk _ => L2.out.block k hk⟩
    have O2 := Lib.hid (H.out.below L2.out)
    clear hbg L2 H
    go_wp2_with fail
    clear hne
    go_loopw [5, 6] (fun i j wr => ∃ a b : Nat, i = .int .i64 a ∧ j = .int .i64 b ∧ b ≤ n ∧ a < n ∧ Hid (∃ lc, Mid p l lc a b ∧ OwnsF base wr (.slice (some ⟨gA, 0, none⟩) n c) n lc ∧ w.grownBy wr (some gA))) (fun _ j _ => n - (intOf j).toNat)
    case atStart => exact ⟨i, i + 1, rfl, by go_num, by omega, hil, l, HM0.out, O2.out, G2.out⟩
    case round =>
      obtain ⟨a, b, rfl, rfl, hbn, han, hI⟩ := hrel
      by_cases hlt : b < n
      · obtain ⟨lc, i1, i2, i3⟩ := hI.out
        have M1 := Lib.hid i1
        have O1 := Lib.hid i2
        have G1 := Lib.hid i3
        clear hI i1 i2 i3 O2 G2 HM0
        obtain ⟨v, hv⟩ : ∃ v, l[b]? = some v := ⟨_, List.getElem?_eq_getElem (by have := hlen.out; omega)⟩
        obtain ⟨va, hva⟩ : ∃ v, lc[a]? = some v := ⟨_, List.getElem?_eq_getElem (by have := M1.out.len; have := hlen.out; omega)⟩
        have HV := Lib.hid hv
        have HVA := Lib.hid hva
        obtain ⟨g', hA, -, hgl, ⟨c0, c1, c2⟩, hfz, -⟩ := OwnsF.put O1.out (M1.out.at_ hv)
        injection hA with hA
        injection hA with hA
        subst hA
        have hk0 : (0 : Int) ≤ (b : Int) := by omega
        have hk1 : (b : Int) < (n : Int) := by omega
        have ha0 : (0 : Int) ≤ (a : Int) := by omega
        have ha1 : (a : Int) < (n : Int) := by omega
        have hwa : IntKind.i64.wrap ((a : Int) + 1) = ((a + 1 : Nat) : Int) := by rw [IntKind.wrap_i64]; omega
        have hwb : IntKind.i64.wrap ((b : Int) + 1) = ((b + 1 : Nat) : Int) := by rw [IntKind.wrap_i64]; omega
        have NV : Hid (gA ≠ wr.heap.size) := Nat.ne_of_lt hgl
        clear hv hva hgl hfz
        have HC := fun W (hW : w.grownBy W (some gA)) => HP.out W v hW
        have b3 : Below wr.heap.size wr (wr.alloc (.cells #[.int .i64 v.zone, .int .i64 v.host, .int .i64 v.epoch] 51)) := (Below.refl _ wr).alloc (Nat.le_refl _) _
        have V3 : Hid (FBox (wr.alloc (.cells #[.int .i64 v.zone, .int .i64 v.host, .int .i64 v.epoch] 51)) wr.heap.size v) := Cells.new wr _ _
        have O3 := Lib.hid (O1.out.below b3)
        have G3 : Hid (w.grownBy (wr.alloc (.cells #[.int .i64 v.zone, .int .i64 v.host, .int .i64 v.epoch] 51)) (some gA)) := ((But.mk G1.out).trans (Lea.But.of_below b3)).1
        clear b3 O1 G1
        go_upto_region 8 with fail
        clear c0 c1 c2
        generalize wr.alloc (.cells #[.int .i64 v.zone, .int .i64 v.host, .int .i64 v.epoch] 51) = w3 at *
        generalize wr.heap.size = gv at *
        obtain ⟨v0, v1, v2⟩ := FBox.cells V3.out
        rcases e : p v
        · rw [e] at HC
          go_wp2_with (go_at_fn g; refine (HC _ G3.out).mono ?_; rintro e' w4 ⟨rfl, hb⟩; have V4 := Lib.hid (Lea.Cells.below V3.out hb); have O4 := Lib.hid (O3.out.below hb); have G4 : Hid (w.grownBy w4 (some gA)) := ((But.mk G3.out).trans (Lea.But.of_below hb)).1; clear hb v0 v1 v2; obtain ⟨v0, v1, v2⟩ := FBox.cells V4.out; obtain ⟨g', hA, -, -, ⟨q0, q1, q2⟩, hfz, -⟩ := OwnsF.put O4.out HVA.out; injection hA with hA; injection hA with hA; subst hA; have f0 := hfz (a * 3); have f1 := hfz (a * 3 + 1); have f2 := hfz (a * 3 + 2); clear hfz)
          go_roundw
          case rel =>
            refine ⟨a + 1, b + 1, by go_num, by go_num, by omega, ?_, _, M1.out.keep HV.out e, OwnsF.put3 O4.out HVA.out v, ((But.mk G4.out).trans ((Lea.But.set1 _ _ _ _).trans ((Lea.But.set1 _ _ _ _).trans (Lea.But.set1 _ _ _ _)))).1⟩
            have := M1.out.lt
            omega
          case measure => simp [intOf]; omega
        · rw [e] at HC
          go_wp2_with (go_at_fn g; refine (HC _ G3.out).mono ?_; rintro e' w4 ⟨rfl, hb⟩; have O4 := Lib.hid (O3.out.below hb); have G4 : Hid (w.grownBy w4 (some gA)) := ((But.mk G3.out).trans (Lea.But.of_below hb)).1; clear hb v0 v1 v2)
          go_roundw
          case rel => exact ⟨a, b + 1, rfl, by go_num, by omega, han, lc, M1.out.pass HV.out e, O4.out, G4.out⟩
          case measure => simp [intOf]; omega
      · obtain ⟨lc, i1, i2, i3⟩ := hI.out
        obtain rfl : b = n := by omega
        have HLL : Hid (lc.take a = left p l) := by
          show _ = _
          rw [i1.kept, List.take_of_length_le (by have := hlen.out; omega)]
        have HLA : Hid ((left p l).length = a) := by
          show _ = _
          rw [← HLL.out, List.length_take]
          have := i1.len
          have := hlen.out
          omega
        obtain ⟨g', cur1, hA, -, hC, hnc1, hcm, hs, ht⟩ := isNone_own i2 (by omega)
        injection hA with hA
        injection hA with hA
        subst hA
        have hsz : cur1.toList.length = c * 3 := by simpa using hs
        have hcl := fun ty => run_clear_f wr ty gA (a * 3) (b - a) (c - a) cur1.toList (by simpa using hC) (by omega) (by rw [hsz]; omega)
        have htl : ∀ w, (Instr.slice 29 (.slice (some ⟨gA, 0, none⟩) b c) (some (.int .i64 (a : Int))) none none).run Tryz.prog w = .ok (.slice (some ⟨gA, a * 3, none⟩) (b - a) (c - a)) w := fun w => by
          have := run_tailF (some ⟨gA, 0, none⟩) b c a (by omega) w
          rw [if_neg (by omega)] at this
          simpa [Mem.add_none] using this
        have hhd := fun w => run_headF (some ⟨gA, 0, none⟩) b c a (by omega) w
        have FIN : Hid (OwnsF base (wr.setRow gA (splice cur1.toList (a * 3) (Builtin.zeroCells #[.int .i64 0, .int .i64 0, .int .i64 0] (b - a)).toList).toArray) (.slice (some ⟨gA, 0, none⟩) a c) a (left p l)) := by
          refine own_made (setRow_heap wr gA _ _ _ _ hC) HBG.out (by omega) hcm ?_ ?_ HLA.out
          · rw [length_splice _ _ _ (by rw [fences_three]; omega)]; exact hsz
          · rw [splice_take _ _ _ _ (Nat.le_refl _) (by omega), ← HLL.out, ← flat_take, ← ht, List.take_take, Nat.min_eq_left (by omega)]
        have GF : Hid (w.grownBy (wr.setRow gA (splice cur1.toList (a * 3) (Builtin.zeroCells #[.int .i64 0, .int .i64 0, .int .i64 0] (b - a)).toList).toArray) (some gA)) :=
          ((But.mk i3).trans (but_setRowF wr gA _)).1
        generalize (Builtin.zeroCells #[.int .i64 0, .int .i64 0, .int .i64 0] (b - a)).toList = zs at *
        clear hsz hs ht hC i1 i2 i3 hI O2 G2 HM0
        go_wp2_with fail
        go_ret
        rw [HLA.out]
        exact ⟨rfl, FIN.out, GF.out⟩
end Coo
end Go.Proofs.YtmflngclncidjaaGreat
