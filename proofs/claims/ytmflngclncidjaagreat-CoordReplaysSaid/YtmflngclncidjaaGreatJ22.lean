/-
  SEVERAL TEXTS IN ONE FILE: CooLeaveW, LeaOf.
-/
import Derived.Test.YtmflngclncidjaaGreatJ21
import Derived.Test.YtmflngclncidjaaGreatJ08
/-
  A WALK OVER leave. (Written by gen_cooleave.py.)
-/
namespace Go.Proofs.YtmflngclncidjaaGreat
open Go.RowKit Mem
namespace Coo
open Lea (Cells But OneBox Lv Tv)
open Spa (Sp)

theorem revokeP_eq {c : Cv} (h : Inv c) {key : Int} (hh : Lea.heldB c.t.l key = true) : Lea.revokeP ⟨c.t.last, c.t.now, c.t.l⟩ key = (⟨c.t.last, c.t.now, Lea.butK c.t.l key⟩, 0) := by
  unfold Lea.revokeP
  rw [show Lea.okT ⟨c.t.last, c.t.now, c.t.l⟩ = true from h.tok]
  simp only [cond_true]
  rw [hh]; rfl
/-- The keys that there are. -/
theorem key_le {c : Cv} (h : Inv c) {x : Lv} (hx : x ∈ c.t.l) : 0 ≤ x.key ∧ x.key ≤ 2007 := by
  have h1 := (Lea.mayB_iff.1 (Lea.okT_may h.tok hx)).1
  have h2 := hosts h hx
  have h3 := h.z2
  rcases h.keys x hx with h4 | h4 | h4 <;> omega
/-- An answer's box is none of what a desk writes. -/
theorem off_box {base g p : Nat} {w : World} {x : Cx} {e ep : Int} {B : Option Addr} {n d : Nat} (h : Desk base w g x) (hn : ABox w p e ep B n d) : Off g (oL x) (oW x) p :=
  ⟨cells_ne hn h.box (by decide), own_ne h.l.1 hn (by decide), own_ne h.f.1 hn (by decide)⟩
theorem wrap_key {k : Int} (h : 0 ≤ k ∧ k ≤ 2007) : IntKind.i64.wrap (k - 2000) = k - 2000 := by rw [IntKind.wrap_i64]; omega

set_option maxRecDepth 100000 in
set_option maxHeartbeats 12800000 in
theorem leave_act {base g N : Nat} {x : Cx} {w : World} {e : Ev} (h : Desk base w g x) (hi : Inv x.p) (hbd : Bd x.p N) (hN : N ≤ 100000) (_hh : hostB e.host = true) :
    Calls Tryz.prog 50 #[.pointer (some ⟨g, 0, none⟩), evv e] w (Acted base g x w (leaveC x.p e)) := by
  have hn : x.n ≤ 100000 := by have h1 := h.l.2; have h2 := hbd.len; omega
  have hm : x.m ≤ 400000 := by have h1 := h.s.2; have h2 := hi.slen hbd; omega
  have hq : x.q ≤ 100000 := by have h1 := h.f.2; have h2 := hbd.wlen; omega
  have HI := Lib.hid hi
  have HBD := Lib.hid hbd
  have HC0 := fun W (hW : Below w.heap.size w W) => Lib.hid (hold_any e.key (Lea.OwnsL.row (h.l.below hW) (by omega)) (by omega) hi.tok)
  have HRV0 := fun W (hW : Below w.heap.size w W) => Lib.hid (Lea.revoke_own (last := x.p.t.last) (now := x.p.t.now) e.key (Lea.OwnsL.row (h.l.below hW) (by omega)) (by omega))
  unfold Lea.OwnedT at HRV0
  obtain ⟨hb, hhb⟩ : ∃ b, Lea.heldB x.p.t.l e.key = b := ⟨_, rfl⟩
  obtain ⟨v, hv⟩ : ∃ v, (bif Lea.heldB x.p.t.l e.key then Lea.getL x.p.t.l e.key else Lea.zL) = v := ⟨_, rfl⟩
  rw [hv, hhb] at HC0
  have HV := Lib.hid hv
  have HHB := Lib.hid hhb
  clear hv hhb
  have H0 := Lib.hid h
  obtain ⟨L1, E1, N1⟩ := two_new w e
  have HRF := fun er w => Lib.hid (refused_any er w)

  go_enter Tryz.func50, Tryz.ntmps50
  go_upto_region 1 with fail
  generalize (w.alloc (.cells #[.int .i64 e.d, .int .i64 e.host, .int .i64 e.zone, .int .i64 e.epoch, .int .i64 e.fr, .int .i64 e.to, .int .i64 e.now, .int .i64 e.key] 36)).alloc (.cells #[.int .i64 0, .int .i64 0, .slice none 0 0] 39) = w1 at *
  have D1 := Lib.hid (H0.out.below L1.out)
  have HS := fun W (hW : Below w1.heap.size w1 W) => And.intro (seven (D1.out.below hW).box) (EBox.cells (Lea.Cells.below E1.out hW))
  have LL1 : Hid (Below w1.heap.size w1 w1) := Below.refl _ _
  have HP : Hid (w.heap.size + 1 < w1.heap.size) := Lea.Cells.lt N1.out
  have HC := fun W (hW : Below w1.heap.size w1 W) => HC0 W (L1.out.trans (hW.mono L1.out.size))
  have HRV := fun W (hW : Below w1.heap.size w1 W) => HRV0 W (L1.out.trans (hW.mono L1.out.size))
  clear HC0 HRV0
  go_cut [5, 6] (fun s u wx => ∃ pE, s = .pointer (some ⟨pE, 0, none⟩) ∧ u = .bool hb ∧ Hid (Lea.LBox wx pE v ∧ Below w1.heap.size w1 wx))
  case first =>
    have L2 : Hid (Below w1.heap.size w1 w1.drew) := (Below.refl _ w1).drew
    refine wp_region_held_drew (S := fun W => (W.cell? ⟨g, 0, none⟩ = some (.int .i64 x.p.t.last) ∧ W.cell? ⟨g, 1, none⟩ = some (.int .i64 x.p.t.now) ∧ W.cell? ⟨g, 2, none⟩ = some (.slice x.A x.n x.a) ∧ W.cell? ⟨g, 3, none⟩ = some (.slice x.S x.m x.s) ∧ W.cell? ⟨g, 4, none⟩ = some (.slice x.W x.q x.k) ∧ W.cell? ⟨g, 5, none⟩ = some (.int .i64 x.p.ttl) ∧ W.cell? ⟨g, 6, none⟩ = some (.int .i64 x.p.zones)) ∧ (W.cell? ⟨w.heap.size, 0, none⟩ = some (.int .i64 e.d) ∧ W.cell? ⟨w.heap.size, 1, none⟩ = some (.int .i64 e.host) ∧ W.cell? ⟨w.heap.size, 2, none⟩ = some (.int .i64 e.zone) ∧ W.cell? ⟨w.heap.size, 3, none⟩ = some (.int .i64 e.epoch) ∧ W.cell? ⟨w.heap.size, 4, none⟩ = some (.int .i64 e.fr) ∧ W.cell? ⟨w.heap.size, 5, none⟩ = some (.int .i64 e.to) ∧ W.cell? ⟨w.heap.size, 6, none⟩ = some (.int .i64 e.now) ∧ W.cell? ⟨w.heap.size, 7, none⟩ = some (.int .i64 e.key))) (by kernel_rfl) (HS _ L2.out) (fun hHeld => ?_)
    generalize w1.drew = w2 at *
    (first | (refine Reg.take 0 (v := ?_) rfl (by kernel_rfl) (by kernel_rfl) (by kernel_rfl) (fun _ _ _ h => h) (Or.inl ⟨by rfl, ?_⟩) (by assumption) ?_; rotate_left; (focus ((intro W hSW); (try dsimp only at hSW); (try go_split_ands); go_simp; (try (with_reducible rfl)); done))) | (refine Reg.take 0 (v := undef) rfl (by kernel_rfl) (by kernel_rfl) (by kernel_rfl) (fun _ _ _ h => h) (Or.inr ⟨by rfl, rfl⟩) (by assumption) ?_))
    (try simp only [Act.put, List.setIfInBounds_toArray, List.set_cons_zero, List.set_cons_succ])
    (first | (refine Reg.take 1 (v := ?_) rfl (by kernel_rfl) (by kernel_rfl) (by kernel_rfl) (fun _ _ _ h => h) (Or.inl ⟨by rfl, ?_⟩) (by assumption) ?_; rotate_left; (focus ((intro W hSW); (try dsimp only at hSW); (try go_split_ands); go_simp; (try (with_reducible rfl)); done))) | (refine Reg.take 1 (v := undef) rfl (by kernel_rfl) (by kernel_rfl) (by kernel_rfl) (fun _ _ _ h => h) (Or.inr ⟨by rfl, rfl⟩) (by assumption) ?_))
    (try simp only [Act.put, List.setIfInBounds_toArray, List.set_cons_zero, List.set_cons_succ])
    (first | (refine Reg.take 2 (v := ?_) rfl (by kernel_rfl) (by kernel_rfl) (by kernel_rfl) (fun _ _ _ h => h) (Or.inl ⟨by rfl, ?_⟩) (by assumption) ?_; rotate_left; (focus ((intro W hSW); (try dsimp only at hSW); (try go_split_ands); go_simp; (try (with_reducible rfl)); done))) | (refine Reg.take 2 (v := undef) rfl (by kernel_rfl) (by kernel_rfl) (by kernel_rfl) (fun _ _ _ h => h) (Or.inr ⟨by rfl, rfl⟩) (by assumption) ?_))
    (try simp only [Act.put, List.setIfInBounds_toArray, List.set_cons_zero, List.set_cons_succ])
    (first | (refine Reg.take 3 (v := ?_) rfl (by kernel_rfl) (by kernel_rfl) (by kernel_rfl) (fun _ _ _ h => h) (Or.inl ⟨by rfl, ?_⟩) (by assumption) ?_; rotate_left; (focus ((intro W hSW); (try dsimp only at hSW); (try go_split_ands); go_simp; (try (with_reducible rfl)); done))) | (refine Reg.take 3 (v := undef) rfl (by kernel_rfl) (by kernel_rfl) (by kernel_rfl) (fun _ _ _ h => h) (Or.inr ⟨by rfl, rfl⟩) (by assumption) ?_))
    (try simp only [Act.put, List.setIfInBounds_toArray, List.set_cons_zero, List.set_cons_succ])
    (first | (refine Reg.take 4 (v := ?_) rfl (by kernel_rfl) (by kernel_rfl) (by kernel_rfl) (fun _ _ _ h => h) (Or.inl ⟨by rfl, ?_⟩) (by assumption) ?_; rotate_left; (focus ((intro W hSW); (try dsimp only at hSW); (try go_split_ands); go_simp; (try (with_reducible rfl)); done))) | (refine Reg.take 4 (v := undef) rfl (by kernel_rfl) (by kernel_rfl) (by kernel_rfl) (fun _ _ _ h => h) (Or.inr ⟨by rfl, rfl⟩) (by assumption) ?_))
    (try simp only [Act.put, List.setIfInBounds_toArray, List.set_cons_zero, List.set_cons_succ])
    (first | (refine Reg.take 5 (v := ?_) rfl (by kernel_rfl) (by kernel_rfl) (by kernel_rfl) (fun _ _ _ h => h) (Or.inl ⟨by rfl, ?_⟩) (by assumption) ?_; rotate_left; (focus ((intro W hSW); (try dsimp only at hSW); (try go_split_ands); go_simp; (try (with_reducible rfl)); done))) | (refine Reg.take 5 (v := undef) rfl (by kernel_rfl) (by kernel_rfl) (by kernel_rfl) (fun _ _ _ h => h) (Or.inr ⟨by rfl, rfl⟩) (by assumption) ?_))
    (try simp only [Act.put, List.setIfInBounds_toArray, List.set_cons_zero, List.set_cons_succ])
    (first | (refine Reg.take 6 (v := ?_) rfl (by kernel_rfl) (by kernel_rfl) (by kernel_rfl) (fun _ _ _ h => h) (Or.inl ⟨by rfl, ?_⟩) (by assumption) ?_; rotate_left; (focus ((intro W hSW); (try dsimp only at hSW); (try go_split_ands); go_simp; (try (with_reducible rfl)); done))) | (refine Reg.take 6 (v := undef) rfl (by kernel_rfl) (by kernel_rfl) (by kernel_rfl) (fun _ _ _ h => h) (Or.inr ⟨by rfl, rfl⟩) (by assumption) ?_))
    (try simp only [Act.put, List.setIfInBounds_toArray, List.set_cons_zero, List.set_cons_succ])
    refine Reg.step2 7 11 rfl rfl (by kernel_rfl) (by rfl) (by rfl) (fun K hK => ?_) (fun K hK => ?_)
    · skip
      go_simp
      refine (HC w2 L2.out).out.mono ?_
      rintro e w3 ⟨rfl, hb⟩
      have L3 := Lib.hid (L2.out.trans (hb.mono L2.out.size))
      skip
      clear hb 
      clear L2 
      refine hK.out _ _ (HS _ L3.out) (fun hHeld3 => ?_)
      clear hK K
      (try simp only [Act.put, List.setIfInBounds_toArray, List.set_cons_zero, List.set_cons_succ])
      (first | (refine Reg.take 8 (v := ?_) rfl (by kernel_rfl) (by kernel_rfl) (by kernel_rfl) (fun _ _ _ h => h) (Or.inl ⟨by rfl, ?_⟩) (by assumption) ?_; rotate_left; (focus ((intro W hSW); (try dsimp only at hSW); (try go_split_ands); go_simp; (try (with_reducible rfl)); done))) | (refine Reg.take 8 (v := undef) rfl (by kernel_rfl) (by kernel_rfl) (by kernel_rfl) (fun _ _ _ h => h) (Or.inr ⟨by rfl, rfl⟩) (by assumption) ?_))
      (try simp only [Act.put, List.setIfInBounds_toArray, List.set_cons_zero, List.set_cons_succ])
      (first | (refine Reg.take 9 (v := ?_) rfl (by kernel_rfl) (by kernel_rfl) (by kernel_rfl) (fun _ _ _ h => h) (Or.inl ⟨by rfl, ?_⟩) (by assumption) ?_; rotate_left; (focus ((intro W hSW); (try dsimp only at hSW); (try go_split_ands); go_simp; (try (with_reducible rfl)); done))) | (refine Reg.take 9 (v := undef) rfl (by kernel_rfl) (by kernel_rfl) (by kernel_rfl) (fun _ _ _ h => h) (Or.inr ⟨by rfl, rfl⟩) (by assumption) ?_))
      (try simp only [Act.put, List.setIfInBounds_toArray, List.set_cons_zero, List.set_cons_succ])
      (first | (refine Reg.take 10 (v := ?_) rfl (by kernel_rfl) (by kernel_rfl) (by kernel_rfl) (fun _ _ _ h => h) (Or.inl ⟨by rfl, ?_⟩) (by assumption) ?_; rotate_left; (focus ((intro W hSW); (try dsimp only at hSW); (try go_split_ands); go_simp; (try (with_reducible rfl)); done))) | (refine Reg.take 10 (v := undef) rfl (by kernel_rfl) (by kernel_rfl) (by kernel_rfl) (fun _ _ _ h => h) (Or.inr ⟨by rfl, rfl⟩) (by assumption) ?_))
      (try simp only [Act.put, List.setIfInBounds_toArray, List.set_cons_zero, List.set_cons_succ])
      refine Reg.step 11 rfl (by kernel_rfl) (by rfl) (fun K hK => ?_)
      go_simp
      have bb : Below w3.heap.size w3 (w3.alloc (.cells #[.int .i64 0, .int .i64 0, .int .i64 0, .int .i64 0] 65)) := (Below.refl _ w3).alloc (Nat.le_refl _) _
      have L4 := Lib.hid (L3.out.trans (bb.mono L3.out.size))
      have XE4 : Hid (Cells (w3.alloc (.cells #[.int .i64 0, .int .i64 0, .int .i64 0, .int .i64 0] 65)) w3.heap.size 65 #[.int .i64 0, .int .i64 0, .int .i64 0, .int .i64 0]) := Cells.new w3 _ _
      have GE : Hid (w1.heap.size ≤ w3.heap.size) := L3.out.size
      clear bb
      clear L3 
      refine hK.out _ _ (HS _ L4.out) (fun hHeld4 => ?_)
      clear hK K
      (try simp only [Act.put, List.setIfInBounds_toArray, List.set_cons_zero, List.set_cons_succ])
      generalize w3.alloc (.cells #[.int .i64 0, .int .i64 0, .int .i64 0, .int .i64 0] 65) = w4 at *
      generalize w3.heap.size = pE at *
      refine Reg.step 12 rfl (by kernel_rfl) (by rfl) (fun K hK => ?_)
      have y0 : w4.cell? ⟨pE, 0, none⟩ = some _ := Lea.Cells.cell XE4.out 0
      have f0 : w4.frozen? ⟨pE, 0, none⟩ = false := Lea.Cells.frozen XE4.out 0
      have y1 : w4.cell? ⟨pE, 1, none⟩ = some _ := Lea.Cells.cell XE4.out 1
      have f1 : w4.frozen? ⟨pE, 1, none⟩ = false := Lea.Cells.frozen XE4.out 1
      have y2 : w4.cell? ⟨pE, 2, none⟩ = some _ := Lea.Cells.cell XE4.out 2
      have f2 : w4.frozen? ⟨pE, 2, none⟩ = false := Lea.Cells.frozen XE4.out 2
      have y3 : w4.cell? ⟨pE, 3, none⟩ = some _ := Lea.Cells.cell XE4.out 3
      have f3 : w4.frozen? ⟨pE, 3, none⟩ = false := Lea.Cells.frozen XE4.out 3
      go_simp
      clear y0 f0 y1 f1 y2 f2 y3 f3
      have bt := Lea.But.set4 w4 pE (.int .i64 v.key) (.int .i64 v.host) (.int .i64 v.epoch) (.int .i64 v.til)
      have L5 := Lib.hid (L4.out.trans (bt.below L4.out.size GE.out))
      have XE5 := Lib.hid (Lea.Cells.set4 XE4.out (.int .i64 v.key) (.int .i64 v.host) (.int .i64 v.epoch) (.int .i64 v.til))
      clear bt
      clear L4 XE4
      refine hK.out _ _ (HS _ L5.out) (fun hHeld5 => ?_)
      clear hK K
      (try simp only [Act.put, List.setIfInBounds_toArray, List.set_cons_zero, List.set_cons_succ])
      generalize (((w4.setCell ⟨pE, 0, none⟩ (.int .i64 v.key)).setCell ⟨pE, 1, none⟩ (.int .i64 v.host)).setCell ⟨pE, 2, none⟩ (.int .i64 v.epoch)).setCell ⟨pE, 3, none⟩ (.int .i64 v.til) = w5 at *
      (first | (refine Reg.take 13 (v := ?_) rfl (by kernel_rfl) (by kernel_rfl) (by kernel_rfl) (fun _ _ _ h => h) (Or.inl ⟨by rfl, ?_⟩) (by assumption) ?_; rotate_left; (focus ((intro W hSW); (try dsimp only at hSW); (try go_split_ands); go_simp; (try (with_reducible rfl)); done))) | (refine Reg.take 13 (v := undef) rfl (by kernel_rfl) (by kernel_rfl) (by kernel_rfl) (fun _ _ _ h => h) (Or.inr ⟨by rfl, rfl⟩) (by assumption) ?_))
      (try simp only [Act.put, List.setIfInBounds_toArray, List.set_cons_zero, List.set_cons_succ])
      refine wpAnyH_done (by kernel_rfl) ?_ _
      go_wp2_with fail
      go_meet
      exact ⟨pE, rfl, rfl, XE5.out, L5.out⟩
    · skip
      go_simp
      have bb : Below w2.heap.size w2 (w2.alloc (.cells #[.int .i64 0, .int .i64 0, .int .i64 0, .int .i64 0] 65)) := (Below.refl _ w2).alloc (Nat.le_refl _) _
      have L3 := Lib.hid (L2.out.trans (bb.mono L2.out.size))
      have XE3 : Hid (Cells (w2.alloc (.cells #[.int .i64 0, .int .i64 0, .int .i64 0, .int .i64 0] 65)) w2.heap.size 65 #[.int .i64 0, .int .i64 0, .int .i64 0, .int .i64 0]) := Cells.new w2 _ _
      have GE : Hid (w1.heap.size ≤ w2.heap.size) := L2.out.size
      clear bb
      clear L2 
      refine hK.out _ _ (HS _ L3.out) (fun hHeld3 => ?_)
      clear hK K
      (try simp only [Act.put, List.setIfInBounds_toArray, List.set_cons_zero, List.set_cons_succ])
      generalize w2.alloc (.cells #[.int .i64 0, .int .i64 0, .int .i64 0, .int .i64 0] 65) = w3 at *
      generalize w2.heap.size = pE at *
      refine Reg.step 7 rfl (by kernel_rfl) (by rfl) (fun K hK => ?_)
      go_simp
      refine (HC w3 L3.out).out.mono ?_
      rintro e w4 ⟨rfl, hb⟩
      have L4 := Lib.hid (L3.out.trans (hb.mono L3.out.size))
      have XE4 := Lib.hid (Lea.Cells.below XE3.out hb)
      clear hb 
      clear L3 XE3
      refine hK.out _ _ (HS _ L4.out) (fun hHeld4 => ?_)
      clear hK K
      (try simp only [Act.put, List.setIfInBounds_toArray, List.set_cons_zero, List.set_cons_succ])
      (first | (refine Reg.take 8 (v := ?_) rfl (by kernel_rfl) (by kernel_rfl) (by kernel_rfl) (fun _ _ _ h => h) (Or.inl ⟨by rfl, ?_⟩) (by assumption) ?_; rotate_left; (focus ((intro W hSW); (try dsimp only at hSW); (try go_split_ands); go_simp; (try (with_reducible rfl)); done))) | (refine Reg.take 8 (v := undef) rfl (by kernel_rfl) (by kernel_rfl) (by kernel_rfl) (fun _ _ _ h => h) (Or.inr ⟨by rfl, rfl⟩) (by assumption) ?_))
      (try simp only [Act.put, List.setIfInBounds_toArray, List.set_cons_zero, List.set_cons_succ])
      (first | (refine Reg.take 9 (v := ?_) rfl (by kernel_rfl) (by kernel_rfl) (by kernel_rfl) (fun _ _ _ h => h) (Or.inl ⟨by rfl, ?_⟩) (by assumption) ?_; rotate_left; (focus ((intro W hSW); (try dsimp only at hSW); (try go_split_ands); go_simp; (try (with_reducible rfl)); done))) | (refine Reg.take 9 (v := undef) rfl (by kernel_rfl) (by kernel_rfl) (by kernel_rfl) (fun _ _ _ h => h) (Or.inr ⟨by rfl, rfl⟩) (by assumption) ?_))
      (try simp only [Act.put, List.setIfInBounds_toArray, List.set_cons_zero, List.set_cons_succ])
      (first | (refine Reg.take 10 (v := ?_) rfl (by kernel_rfl) (by kernel_rfl) (by kernel_rfl) (fun _ _ _ h => h) (Or.inl ⟨by rfl, ?_⟩) (by assumption) ?_; rotate_left; (focus ((intro W hSW); (try dsimp only at hSW); (try go_split_ands); go_simp; (try (with_reducible rfl)); done))) | (refine Reg.take 10 (v := undef) rfl (by kernel_rfl) (by kernel_rfl) (by kernel_rfl) (fun _ _ _ h => h) (Or.inr ⟨by rfl, rfl⟩) (by assumption) ?_))
      (try simp only [Act.put, List.setIfInBounds_toArray, List.set_cons_zero, List.set_cons_succ])
      refine Reg.step 12 rfl (by kernel_rfl) (by rfl) (fun K hK => ?_)
      have y0 : w4.cell? ⟨pE, 0, none⟩ = some _ := Lea.Cells.cell XE4.out 0
      have f0 : w4.frozen? ⟨pE, 0, none⟩ = false := Lea.Cells.frozen XE4.out 0
      have y1 : w4.cell? ⟨pE, 1, none⟩ = some _ := Lea.Cells.cell XE4.out 1
      have f1 : w4.frozen? ⟨pE, 1, none⟩ = false := Lea.Cells.frozen XE4.out 1
      have y2 : w4.cell? ⟨pE, 2, none⟩ = some _ := Lea.Cells.cell XE4.out 2
      have f2 : w4.frozen? ⟨pE, 2, none⟩ = false := Lea.Cells.frozen XE4.out 2
      have y3 : w4.cell? ⟨pE, 3, none⟩ = some _ := Lea.Cells.cell XE4.out 3
      have f3 : w4.frozen? ⟨pE, 3, none⟩ = false := Lea.Cells.frozen XE4.out 3
      go_simp
      clear y0 f0 y1 f1 y2 f2 y3 f3
      have bt := Lea.But.set4 w4 pE (.int .i64 v.key) (.int .i64 v.host) (.int .i64 v.epoch) (.int .i64 v.til)
      have L5 := Lib.hid (L4.out.trans (bt.below L4.out.size GE.out))
      have XE5 := Lib.hid (Lea.Cells.set4 XE4.out (.int .i64 v.key) (.int .i64 v.host) (.int .i64 v.epoch) (.int .i64 v.til))
      clear bt
      clear L4 XE4
      refine hK.out _ _ (HS _ L5.out) (fun hHeld5 => ?_)
      clear hK K
      (try simp only [Act.put, List.setIfInBounds_toArray, List.set_cons_zero, List.set_cons_succ])
      generalize (((w4.setCell ⟨pE, 0, none⟩ (.int .i64 v.key)).setCell ⟨pE, 1, none⟩ (.int .i64 v.host)).setCell ⟨pE, 2, none⟩ (.int .i64 v.epoch)).setCell ⟨pE, 3, none⟩ (.int .i64 v.til) = w5 at *
      (first | (refine Reg.take 13 (v := ?_) rfl (by kernel_rfl) (by kernel_rfl) (by kernel_rfl) (fun _ _ _ h => h) (Or.inl ⟨by rfl, ?_⟩) (by assumption) ?_; rotate_left; (focus ((intro W hSW); (try dsimp only at hSW); (try go_split_ands); go_simp; (try (with_reducible rfl)); done))) | (refine Reg.take 13 (v := undef) rfl (by kernel_rfl) (by kernel_rfl) (by kernel_rfl) (fun _ _ _ h => h) (Or.inr ⟨by rfl, rfl⟩) (by assumption) ?_))
      (try simp only [Act.put, List.setIfInBounds_toArray, List.set_cons_zero, List.set_cons_succ])
      refine wpAnyH_done (by kernel_rfl) ?_ _
      go_wp2_with fail
      go_meet
      exact ⟨pE, rfl, rfl, XE5.out, L5.out⟩
  case rest =>
    obtain ⟨pE, rfl, rfl, hP⟩ := hcut
    have XE := Lib.hid hP.out.1
    have LL3 := Lib.hid hP.out.2
    have G1 : Hid (w.heap.size ≤ w1.heap.size) := L1.out.size
    clear hP HC
    generalize wc = w3 at *
    obtain ⟨t0, t1, t2, t3⟩ := Lea.LBox.cells XE.out
    obtain ⟨y0, y1, y2, y3, y4, y5, y6, y7⟩ := (HS _ LL3.out).2
    rcases hb with _ | _
    · skip
      go_wp2_with fail
      refine (HRF 4 w3).out.mono ?_
      rintro e' w4 ⟨rfl, hb⟩
      have LL4 := Lib.hid (LL3.out.trans (hb.mono LL3.out.size))
      have D4 := Lib.hid (D1.out.below LL4.out)
      have N4 := Lib.hid (Lea.Cells.below N1.out LL4.out)
      clear hb
      obtain ⟨n0, n1, n2⟩ := ABox.cells N4.out
      obtain ⟨f0, f1, f2⟩ := ABox.frozen N4.out
      go_wp2_with fail
      refine bodyPost_ret_by (results_cell_row rfl _ _ (w.heap.size + 1) _ _ _ _ rfl (ABox.store N4.out 4 0 none 0 0) Tryz.underlying39 rfl (by kernel_rfl)) rfl ?_
      unfold leaveC
      rw [HHB.out]
      exact acted_bad (by omega) H0.out.low D4.out N4.out (L1.out.trans (LL4.out.mono L1.out.size)) 4
    · have HVV : Hid (Lea.getL x.p.t.l e.key = v) := by
        have := HV.out
        rw [HHB.out] at this
        exact this
      have HHN : Hid (hasNot x.p e = ((v.host != e.host) || (v.epoch != e.epoch))) := by show _ = _; unfold hasNot; rw [HVV.out]
      rcases e1 : (v.host != e.host)
      · rcases e2 : (v.epoch != e.epoch)
        · have hrp := revokeP_eq HI.out HHB.out
          rw [hrp] at HRV
          have HHF : Hid (hasNot x.p e = false) := by show _ = _; rw [HHN.out, e1, e2]; rfl
          clear hrp
          go_upto_region 7 with fail
          clear t0 t1 t2 t3 y0 y1 y2 y3 y4 y5 y6 y7
          have LL4 : Hid (Below w1.heap.size w1 w3.drew) := LL3.out.drew
          refine wp_region_held_drew (S := fun W => W.cell? ⟨w.heap.size, 0, none⟩ = some (.int .i64 e.d) ∧ W.cell? ⟨w.heap.size, 1, none⟩ = some (.int .i64 e.host) ∧ W.cell? ⟨w.heap.size, 2, none⟩ = some (.int .i64 e.zone) ∧ W.cell? ⟨w.heap.size, 3, none⟩ = some (.int .i64 e.epoch) ∧ W.cell? ⟨w.heap.size, 4, none⟩ = some (.int .i64 e.fr) ∧ W.cell? ⟨w.heap.size, 5, none⟩ = some (.int .i64 e.to) ∧ W.cell? ⟨w.heap.size, 6, none⟩ = some (.int .i64 e.now) ∧ W.cell? ⟨w.heap.size, 7, none⟩ = some (.int .i64 e.key)) (by kernel_rfl) (HS _ LL4.out).2 (fun hHeld => ?_)
          generalize w3.drew = w4 at *
          (first | (refine Reg.take 0 (v := ?_) rfl (by kernel_rfl) (by kernel_rfl) (by kernel_rfl) (fun _ _ _ h => h) (Or.inl ⟨by rfl, ?_⟩) (by assumption) ?_; rotate_left; (focus ((intro W hSW); (try dsimp only at hSW); (try go_split_ands); go_simp; (try (with_reducible rfl)); done))) | (refine Reg.take 0 (v := undef) rfl (by kernel_rfl) (by kernel_rfl) (by kernel_rfl) (fun _ _ _ h => h) (Or.inr ⟨by rfl, rfl⟩) (by assumption) ?_))
          (try simp only [Act.put, List.setIfInBounds_toArray, List.set_cons_zero, List.set_cons_succ])
          (first | (refine Reg.take 1 (v := ?_) rfl (by kernel_rfl) (by kernel_rfl) (by kernel_rfl) (fun _ _ _ h => h) (Or.inl ⟨by rfl, ?_⟩) (by assumption) ?_; rotate_left; (focus ((intro W hSW); (try dsimp only at hSW); (try go_split_ands); go_simp; (try (with_reducible rfl)); done))) | (refine Reg.take 1 (v := undef) rfl (by kernel_rfl) (by kernel_rfl) (by kernel_rfl) (fun _ _ _ h => h) (Or.inr ⟨by rfl, rfl⟩) (by assumption) ?_))
          (try simp only [Act.put, List.setIfInBounds_toArray, List.set_cons_zero, List.set_cons_succ])
          (first | (refine Reg.take 2 (v := ?_) rfl (by kernel_rfl) (by kernel_rfl) (by kernel_rfl) (fun _ _ _ h => h) (Or.inl ⟨by rfl, ?_⟩) (by assumption) ?_; rotate_left; (focus ((intro W hSW); (try dsimp only at hSW); (try go_split_ands); go_simp; (try (with_reducible rfl)); done))) | (refine Reg.take 2 (v := undef) rfl (by kernel_rfl) (by kernel_rfl) (by kernel_rfl) (fun _ _ _ h => h) (Or.inr ⟨by rfl, rfl⟩) (by assumption) ?_))
          (try simp only [Act.put, List.setIfInBounds_toArray, List.set_cons_zero, List.set_cons_succ])
          (first | (refine Reg.take 3 (v := ?_) rfl (by kernel_rfl) (by kernel_rfl) (by kernel_rfl) (fun _ _ _ h => h) (Or.inl ⟨by rfl, ?_⟩) (by assumption) ?_; rotate_left; (focus ((intro W hSW); (try dsimp only at hSW); (try go_split_ands); go_simp; (try (with_reducible rfl)); done))) | (refine Reg.take 3 (v := undef) rfl (by kernel_rfl) (by kernel_rfl) (by kernel_rfl) (fun _ _ _ h => h) (Or.inr ⟨by rfl, rfl⟩) (by assumption) ?_))
          (try simp only [Act.put, List.setIfInBounds_toArray, List.set_cons_zero, List.set_cons_succ])
          (first | (refine Reg.take 4 (v := ?_) rfl (by kernel_rfl) (by kernel_rfl) (by kernel_rfl) (fun _ _ _ h => h) (Or.inl ⟨by rfl, ?_⟩) (by assumption) ?_; rotate_left; (focus ((intro W hSW); (try dsimp only at hSW); (try go_split_ands); go_simp; (try (with_reducible rfl)); done))) | (refine Reg.take 4 (v := undef) rfl (by kernel_rfl) (by kernel_rfl) (by kernel_rfl) (fun _ _ _ h => h) (Or.inr ⟨by rfl, rfl⟩) (by assumption) ?_))
          (try simp only [Act.put, List.setIfInBounds_toArray, List.set_cons_zero, List.set_cons_succ])
          (first | (refine Reg.take 6 (v := ?_) rfl (by kernel_rfl) (by kernel_rfl) (by kernel_rfl) (fun _ _ _ h => h) (Or.inl ⟨by rfl, ?_⟩) (by assumption) ?_; rotate_left; (focus ((intro W hSW); (try dsimp only at hSW); (try go_split_ands); go_simp; (try (with_reducible rfl)); done))) | (refine Reg.take 6 (v := undef) rfl (by kernel_rfl) (by kernel_rfl) (by kernel_rfl) (fun _ _ _ h => h) (Or.inr ⟨by rfl, rfl⟩) (by assumption) ?_))
          (try simp only [Act.put, List.setIfInBounds_toArray, List.set_cons_zero, List.set_cons_succ])
          (first | (refine Reg.take 7 (v := ?_) rfl (by kernel_rfl) (by kernel_rfl) (by kernel_rfl) (fun _ _ _ h => h) (Or.inl ⟨by rfl, ?_⟩) (by assumption) ?_; rotate_left; (focus ((intro W hSW); (try dsimp only at hSW); (try go_split_ands); go_simp; (try (with_reducible rfl)); done))) | (refine Reg.take 7 (v := undef) rfl (by kernel_rfl) (by kernel_rfl) (by kernel_rfl) (fun _ _ _ h => h) (Or.inr ⟨by rfl, rfl⟩) (by assumption) ?_))
          (try simp only [Act.put, List.setIfInBounds_toArray, List.set_cons_zero, List.set_cons_succ])
          refine Reg.step 5 rfl (by kernel_rfl) (by rfl) (fun K hK => ?_)
          obtain ⟨m0, m1, m2, m3, m4, m5, m6⟩ := seven (D1.out.below LL4.out).box
          go_simp
          clear m0 m1 m2 m3 m4 m5 m6
          refine hK.out _ _ (HS _ LL4.out).2 (fun hHeldA => ?_)
          clear hK K
          (try simp only [Act.put, List.setIfInBounds_toArray, List.set_cons_zero, List.set_cons_succ])
          refine Reg.step 8 rfl (by kernel_rfl) (by rfl) (fun K hK => ?_)
          go_simp
          refine (HRV w4 LL4.out).out.mono ?_
          rintro e' w5 ⟨A', a', rfl, hR, hO, hb⟩
          have LL5 := Lib.hid (LL4.out.trans (hb.mono LL4.out.size))
          have O5 := Lib.hid (hO.mono LL4.out.size)
          clear hb hR hO
          refine hK.out _ _ (HS _ LL5.out).2 (fun hHeldB => ?_)
          clear hK K
          (first | (refine Reg.take 9 (v := ?_) rfl (by kernel_rfl) (by kernel_rfl) (by kernel_rfl) (fun _ _ _ h => h) (Or.inl ⟨by rfl, ?_⟩) (by assumption) ?_; rotate_left; (focus ((intro W hSW); (try dsimp only at hSW); (try go_split_ands); go_simp; (try (with_reducible rfl)); done))) | (refine Reg.take 9 (v := undef) rfl (by kernel_rfl) (by kernel_rfl) (by kernel_rfl) (fun _ _ _ h => h) (Or.inr ⟨by rfl, rfl⟩) (by assumption) ?_))
          (try simp only [Act.put, List.setIfInBounds_toArray, List.set_cons_zero, List.set_cons_succ])
          (first | (refine Reg.take 10 (v := ?_) rfl (by kernel_rfl) (by kernel_rfl) (by kernel_rfl) (fun _ _ _ h => h) (Or.inl ⟨by rfl, ?_⟩) (by assumption) ?_; rotate_left; (focus ((intro W hSW); (try dsimp only at hSW); (try go_split_ands); go_simp; (try (with_reducible rfl)); done))) | (refine Reg.take 10 (v := undef) rfl (by kernel_rfl) (by kernel_rfl) (by kernel_rfl) (fun _ _ _ h => h) (Or.inr ⟨by rfl, rfl⟩) (by assumption) ?_))
          (try simp only [Act.put, List.setIfInBounds_toArray, List.set_cons_zero, List.set_cons_succ])
          (first | (refine Reg.take 11 (v := ?_) rfl (by kernel_rfl) (by kernel_rfl) (by kernel_rfl) (fun _ _ _ h => h) (Or.inl ⟨by rfl, ?_⟩) (by assumption) ?_; rotate_left; (focus ((intro W hSW); (try dsimp only at hSW); (try go_split_ands); go_simp; (try (with_reducible rfl)); done))) | (refine Reg.take 11 (v := undef) rfl (by kernel_rfl) (by kernel_rfl) (by kernel_rfl) (fun _ _ _ h => h) (Or.inr ⟨by rfl, rfl⟩) (by assumption) ?_))
          (try simp only [Act.put, List.setIfInBounds_toArray, List.set_cons_zero, List.set_cons_succ])
          (first | (refine Reg.take 12 (v := ?_) rfl (by kernel_rfl) (by kernel_rfl) (by kernel_rfl) (fun _ _ _ h => h) (Or.inl ⟨by rfl, ?_⟩) (by assumption) ?_; rotate_left; (focus ((intro W hSW); (try dsimp only at hSW); (try go_split_ands); go_simp; (try (with_reducible rfl)); done))) | (refine Reg.take 12 (v := undef) rfl (by kernel_rfl) (by kernel_rfl) (by kernel_rfl) (fun _ _ _ h => h) (Or.inr ⟨by rfl, rfl⟩) (by assumption) ?_))
          (try simp only [Act.put, List.setIfInBounds_toArray, List.set_cons_zero, List.set_cons_succ])
          (first | (refine Reg.take 13 (v := ?_) rfl (by kernel_rfl) (by kernel_rfl) (by kernel_rfl) (fun _ _ _ h => h) (Or.inl ⟨by rfl, ?_⟩) (by assumption) ?_; rotate_left; (focus ((intro W hSW); (try dsimp only at hSW); (try go_split_ands); go_simp; (try (with_reducible rfl)); done))) | (refine Reg.take 13 (v := undef) rfl (by kernel_rfl) (by kernel_rfl) (by kernel_rfl) (fun _ _ _ h => h) (Or.inr ⟨by rfl, rfl⟩) (by assumption) ?_))
          (try simp only [Act.put, List.setIfInBounds_toArray, List.set_cons_zero, List.set_cons_succ])
          (first | (refine Reg.take 14 (v := ?_) rfl (by kernel_rfl) (by kernel_rfl) (by kernel_rfl) (fun _ _ _ h => h) (Or.inl ⟨by rfl, ?_⟩) (by assumption) ?_; rotate_left; (focus ((intro W hSW); (try dsimp only at hSW); (try go_split_ands); go_simp; (try (with_reducible rfl)); done))) | (refine Reg.take 14 (v := undef) rfl (by kernel_rfl) (by kernel_rfl) (by kernel_rfl) (fun _ _ _ h => h) (Or.inr ⟨by rfl, rfl⟩) (by assumption) ?_))
          (try simp only [Act.put, List.setIfInBounds_toArray, List.set_cons_zero, List.set_cons_succ])
          refine Reg.step 15 rfl (by kernel_rfl) (by rfl) (fun K hK => ?_)
          have D5 := Lib.hid (D1.out.below LL5.out)
          have N5 := Lib.hid (Lea.Cells.below N1.out LL5.out)
          have E5 := Lib.hid (Lea.Cells.below E1.out LL5.out)
          obtain ⟨m0, m1, m2, m3, m4, m5, m6⟩ := seven D5.out.box
          obtain ⟨f0, f1, f2, -⟩ := seven_frozen D5.out.box
          go_simp
          clear m0 m1 m2 m3 m4 m5 m6 f0 f1 f2
          have D6 := Lib.hid (D5.out.setT (last := x.p.t.last) (now := x.p.t.now) (O5.out.mono (Nat.le_trans H0.out.low G1.out)))
          have bt := Lea.But.set3 w5 g (.int .i64 x.p.t.last) (.int .i64 x.p.t.now) (.slice A' (Lea.butK x.p.t.l e.key).length a')
          have N6 := Lib.hid (Lea.Cells.but N5.out bt (cells_ne N5.out D5.out.box (by decide)))
          have E6 := Lib.hid (Lea.Cells.but E5.out bt (cells_ne E5.out D5.out.box (by decide)))
          have M6 : Hid (Move base g (oL x) (oW x) (Value.slice A' (Lea.butK x.p.t.l e.key).length a').ownBlock (oW x) w (((w5.setCell ⟨g, 0, none⟩ (.int .i64 x.p.t.last)).setCell ⟨g, 1, none⟩ (.int .i64 x.p.t.now)).setCell ⟨g, 2, none⟩ (.slice A' (Lea.butK x.p.t.l e.key).length a'))) := by
            refine Move.new ((Move.of_below (L1.out.trans (LL5.out.mono L1.out.size)) H0.out.low).trans (Move.box bt H0.out.le D5.out.low)) (.inr fun k e => ?_) (.inl rfl)
            have h1 := (Lea.OwnsL.lt O5.out k e).1
            have h2 := G1.out
            omega
          clear bt D5 N5 E5 O5
          refine hK.out _ _ (EBox.cells E6.out) (fun hHeldC => ?_)
          clear hK K
          (try simp only [Act.put, List.setIfInBounds_toArray, List.set_cons_zero, List.set_cons_succ])
          refine wpAnyH_done (by kernel_rfl) ?_ _
          generalize ((w5.setCell ⟨g, 0, none⟩ (.int .i64 x.p.t.last)).setCell ⟨g, 1, none⟩ (.int .i64 x.p.t.now)).setCell ⟨g, 2, none⟩ (.slice A' (Lea.butK x.p.t.l e.key).length a') = w6 at *
          clear hHeld hHeldA hHeldB hHeldC
          obtain ⟨y, hy, hey⟩ := Lea.held_iff.1 HHB.out
          have HEN := Lib.hid (ended_act (key := e.key) (h := e.key - 2000) D6.out HI.out.sok (by have := HI.out.slen HBD.out; exact hm) hq rfl (wrap_key (by have := key_le HI.out hy; rw [hey] at this; exact this)))
          clear hy hey
          obtain ⟨y0, y1, y2, y3, y4, y5, y6, y7⟩ := EBox.cells E6.out
          go_wp2_with fail
          refine HEN.out.mono ?_
          rintro e' w7 ⟨rfl, x', hx, hdd, hol, hmv0⟩
          have hmv := hmv0 (oL x')
          clear hmv0
          have M67 := Lib.hid hmv
          clear hmv
          have N7 : Hid (ABox w7 (w.heap.size + 1) 0 0 none 0 0) := (M67.out.keep _ (Lea.Cells.lt N6.out) (by rw [hol]; exact off_box D6.out N6.out)).1.trans N6.out
          have HX := Lib.hid hx
          have D7 := Lib.hid hdd
          have M7 : Hid (Move base g (oL x) (oW x) (oL x') (oW x') w w7) := M6.out.trans (by have := M67.out; rw [hol] at this ⊢; exact this)
          clear hx hdd hol HEN y0 y1 y2 y3 y4 y5 y6 y7
          obtain ⟨n0, n1, n2⟩ := ABox.cells N7.out
          obtain ⟨f0, f1, f2⟩ := ABox.frozen N7.out
          go_wp2_with fail
          refine bodyPost_ret_by (results_cell_row rfl _ _ (w.heap.size + 1) _ _ _ _ rfl (ABox.store N7.out 0 0 none 0 0) Tryz.underlying39 rfl (by kernel_rfl)) rfl ?_
          unfold leaveC
          rw [HHB.out, HHF.out]
          exact acted_end (by omega) H0.out.low HX.out D7.out N7.out M7.out (RowS.nil _ _ _) (fun k o e => by cases e) rfl rfl
        · have HHT : Hid (hasNot x.p e = true) := by show _ = _; rw [HHN.out, e1, e2]; rfl
          go_wp2_with fail
          refine (HRF 61 w3).out.mono ?_
          rintro e' w4 ⟨rfl, hb⟩
          have LL4 := Lib.hid (LL3.out.trans (hb.mono LL3.out.size))
          have D4 := Lib.hid (D1.out.below LL4.out)
          have N4 := Lib.hid (Lea.Cells.below N1.out LL4.out)
          clear hb
          obtain ⟨n0, n1, n2⟩ := ABox.cells N4.out
          obtain ⟨f0, f1, f2⟩ := ABox.frozen N4.out
          go_wp2_with fail
          refine bodyPost_ret_by (results_cell_row rfl _ _ (w.heap.size + 1) _ _ _ _ rfl (ABox.store N4.out 61 0 none 0 0) Tryz.underlying39 rfl (by kernel_rfl)) rfl ?_
          unfold leaveC
          rw [HHB.out, HHT.out]
          exact acted_bad (by omega) H0.out.low D4.out N4.out (L1.out.trans (LL4.out.mono L1.out.size)) 61
      · have HHT : Hid (hasNot x.p e = true) := by show _ = _; rw [HHN.out, e1]; rfl
        go_wp2_with fail
        refine (HRF 61 w3).out.mono ?_
        rintro e' w4 ⟨rfl, hb⟩
        have LL4 := Lib.hid (LL3.out.trans (hb.mono LL3.out.size))
        have D4 := Lib.hid (D1.out.below LL4.out)
        have N4 := Lib.hid (Lea.Cells.below N1.out LL4.out)
        clear hb
        obtain ⟨n0, n1, n2⟩ := ABox.cells N4.out
        obtain ⟨f0, f1, f2⟩ := ABox.frozen N4.out
        go_wp2_with fail
        refine bodyPost_ret_by (results_cell_row rfl _ _ (w.heap.size + 1) _ _ _ _ rfl (ABox.store N4.out 61 0 none 0 0) Tryz.underlying39 rfl (by kernel_rfl)) rfl ?_
        unfold leaveC
        rw [HHB.out, HHT.out]
        exact acted_bad (by omega) H0.out.low D4.out N4.out (L1.out.trans (LL4.out.mono L1.out.size)) 61
end Coo
end Go.Proofs.YtmflngclncidjaaGreat
/-
  WALKS: Of, Tick.
-/
namespace Go.Proofs.YtmflngclncidjaaGreat
open Go.RowKit Mem
namespace Lea

/-- One value in a block of its own is a row of one. -/
theorem Row.one {w : World} {q : Nat} {x : Int} {t : TypeId} (h : OneBox w q t (.int .i64 x)) : Row ci w (some ⟨q, 0, none⟩) 1 1 [x] := by
  refine ⟨rfl, by omega, by omega, fun _ => ⟨_, _, rfl, Cells.lt h, fun i y hy => ?_⟩⟩
  have hi : i = 0 := by have := (List.getElem?_eq_some_iff.1 hy).1; simpa using this
  subst hi
  simp at hy
  subst hy
  exact OneBox.cells h
/-- A row of ints, as a call gave it. -/
def GaveI (w : World) (l : List Int) (en : Ending) (w' : World) : Prop := ∃ B d, en = .returned (.slice B l.length d) ∧ Row ci w' B l.length d l ∧ Below w.heap.size w w'
theorem GaveI.nil {w w' : World} (hb : Below w.heap.size w w') : GaveI w [] (.returned (.slice none 0 0)) w' := ⟨none, 0, rfl, Row.nil _ _, hb⟩
theorem GaveI.of {w w' : World} {B : Option Addr} {k d : Nat} {l : List Int} (h : Owns ci 3 w.heap.size w' (.slice B k d) k l) (hk : k ≤ 140737488351232) (hb : Below w.heap.size w w') : GaveI w l (.returned (.slice B k d)) w' := by
  obtain rfl := h.len
  obtain ⟨A, c, e, hr⟩ := h.row hk
  injection e with e1 _ e3
  subst e1 e3
  exact ⟨B, d, rfl, hr, hb⟩
theorem ci_one : ∀ x : Int, (ci x).oneCell' = true := fun _ => rfl


set_option maxRecDepth 100000 in
set_option maxHeartbeats 3200000 in
theorem tick_own {last now : Int} {A : Option Addr} {n c : Nat} {l : List Lv} {w : World} (to_ : Int) (h : RowL w A n c l) (hn : n ≤ 1000000) :
    Calls Tryz.prog 72 #[tv last now A n c, .int .i64 to_] w (OwnedTL w (tickP ⟨last, now, l⟩ to_).1 (tickP ⟨last, now, l⟩ to_).2.1 (tickP ⟨last, now, l⟩ to_).2.2) := by
  have HR := Lib.hid h
  have hbig := h.big
  have hlen := Lib.hid h.len
  have HC := fun w (h : RowL w A n c l) => Lib.hid (check_any (last := last) (now := now) h hn)
  have L1 : Hid (Below w.heap.size w (((w.alloc (.cells #[.int .i64 last, .int .i64 now, .slice A n c] 27)).alloc (.cells #[.int .i64 to_] 3)).alloc (.cells #[.int .i64 0, .int .i64 0, .slice none 0 0] 27))) := (((Below.refl w.heap.size w).alloc (Nat.le_refl _) _).alloc (by simp) _).alloc (by simp; omega) _
  have B1 : Hid (TBox (((w.alloc (.cells #[.int .i64 last, .int .i64 now, .slice A n c] 27)).alloc (.cells #[.int .i64 to_] 3)).alloc (.cells #[.int .i64 0, .int .i64 0, .slice none 0 0] 27)) w.heap.size last now A n c) := Cells.alloc (Cells.alloc (Cells.new w _ _) _) _
  have N1 : Hid (OneBox (((w.alloc (.cells #[.int .i64 last, .int .i64 now, .slice A n c] 27)).alloc (.cells #[.int .i64 to_] 3)).alloc (.cells #[.int .i64 0, .int .i64 0, .slice none 0 0] 27)) (w.heap.size + 1) 3 (.int .i64 to_)) := Cells.alloc (by have := Cells.new (w.alloc (.cells #[.int .i64 last, .int .i64 now, .slice A n c] 27)) #[.int .i64 to_] 3; simpa using this) _
  have R1 : Hid (TBox (((w.alloc (.cells #[.int .i64 last, .int .i64 now, .slice A n c] 27)).alloc (.cells #[.int .i64 to_] 3)).alloc (.cells #[.int .i64 0, .int .i64 0, .slice none 0 0] 27)) (w.heap.size + 2) 0 0 none 0 0) := by
    have := Cells.new ((w.alloc (.cells #[.int .i64 last, .int .i64 now, .slice A n c] 27)).alloc (.cells #[.int .i64 to_] 3)) #[.int .i64 0, .int .i64 0, .slice none 0 0] 27
    exact (by simpa using this : Cells _ (w.heap.size + 1 + 1) _ _)
  have HP := fun w q (h : RowL w A n c l) (hq : OneBox w q 3 (.int .i64 to_)) => Lib.hid (parted_any h hn 95 #[.pointer (some ⟨q, 0, none⟩)] (enters_of Tryz.func95 (by kernel_rfl) rfl) (fun x => decide (x.til ≤ to_)) (fun W x hW => tick1_any to_ q x W (Cells.below hq hW)))
  clear h
  unfold tickP
  simp only
  have bad : ∀ w2, Below w.heap.size w w2 → OwnedTL w zT [] 1 (.returned (.tuple #[tv 0 0 none 0 0, .slice none 0 0, .int .i64 1])) w2 := fun w2 hb => ⟨none, 0, none, 0, rfl, RowS.nil _ _ _, RowS.nil _ _ _, OwnsL.nil _ _, OwnsL.nil _ _, hb⟩
  have BAD := Lib.hid bad
  clear bad
  rcases hok : okT ⟨last, now, l⟩
  · rw [hok] at HC
    go_enter Tryz.func72, Tryz.ntmps72
    go_upto_region 1 with fail
    generalize ((w.alloc (.cells #[.int .i64 last, .int .i64 now, .slice A n c] 27)).alloc (.cells #[.int .i64 to_] 3)).alloc (.cells #[.int .i64 0, .int .i64 0, .slice none 0 0] 27) = w1 at *
    obtain ⟨m0, m1, m2⟩ := TBox.cells B1.out
    go_wp2_with fail
    refine (HC w1 (HR.out.below L1.out)).out.mono ?_
    rintro e w2 ⟨rfl, hb⟩
    have L2 := Lib.hid (L1.out.trans (hb.mono L1.out.size))
    have R2 := Lib.hid (Cells.below R1.out hb)
    clear hb
    obtain ⟨z0, z1, z2⟩ := TBox.cells R2.out
    obtain ⟨f0, f1, f2⟩ := TBox.frozen R2.out
    go_wp2_with fail
    refine bodyPost_ret_by (results_c2 rfl _ _ (w.heap.size + 2) _ _ _ _ rfl (Cells.set3 R2.out (.int .i64 0) (.int .i64 0) (.slice none 0 0)) Tryz.underlying27 rfl (by kernel_rfl)) rfl ?_
    exact BAD.out _ (below3 L2.out (by omega) _ _ _)
  · rw [hok] at HC
    rcases hlt : decide (to_ < now)
    · go_enter Tryz.func72, Tryz.ntmps72
      go_upto_region 1 with fail
      generalize ((w.alloc (.cells #[.int .i64 last, .int .i64 now, .slice A n c] 27)).alloc (.cells #[.int .i64 to_] 3)).alloc (.cells #[.int .i64 0, .int .i64 0, .slice none 0 0] 27) = w1 at *
      obtain ⟨m0, m1, m2⟩ := TBox.cells B1.out
      go_wp2_with fail
      refine (HC w1 (HR.out.below L1.out)).out.mono ?_
      rintro e w2 ⟨rfl, hb⟩
      have L2 := Lib.hid (L1.out.trans (hb.mono L1.out.size))
      have R2 := Lib.hid (Cells.below R1.out hb)
      have N2 := Lib.hid (Cells.below N1.out hb)
      have B2 := Lib.hid (Cells.below B1.out hb)
      clear hb m0 m1 m2 B1 N1 L1 R1 HC
      obtain ⟨m0, m1, m2⟩ := TBox.cells B2.out
      have q0 := OneBox.cells N2.out
      go_wp2_with fail
      refine (HP w2 (w.heap.size + 1) (HR.out.below L2.out) N2.out).out.mono ?_
      rintro e w3 ⟨⟨X, i, x, Y, j, y, rfl, hO, hO2⟩, hb⟩
      have L3 := Lib.hid (L2.out.trans (hb.mono L2.out.size))
      have R3 := Lib.hid (Cells.below R2.out hb)
      have N3 := Lib.hid (Cells.below N2.out hb)
      have B3 := Lib.hid (Cells.below B2.out hb)
      have FIN : Hid (∀ w9, But (w.heap.size + 2) w3 w9 → OwnedTL w ⟨last, to_, l.filter (fun x => !decide (x.til ≤ to_))⟩ (l.filter (fun x => decide (x.til ≤ to_))) 0 (.returned (.tuple #[tv last to_ Y j y, .slice X i x, .int .i64 0])) w9) := by
        show ∀ _, _
        intro w9 hB
        have e1 := hO.2
        have e2 := hO2.2
        have n1 : i ≤ n := by rw [← e1, ← hlen.out]; exact List.length_filter_le _ _
        have n2 : j ≤ n := by rw [← e2, ← hlen.out]; exact List.length_filter_le _ _
        have r1 := (hO.but hB (Cells.lt R2.out)).row (by omega)
        have r2 := (hO2.but hB (Cells.lt R2.out)).row (by omega)
        have o1 := (hO.but hB (Cells.lt R2.out)).mono L2.out.size
        have o2 := (hO2.but hB (Cells.lt R2.out)).mono L2.out.size
        subst e1 e2
        exact ⟨Y, y, X, x, rfl, r2, r1, o2, o1, L3.out.trans (hB.below L3.out.size (by omega))⟩
      clear hb m0 m1 m2 q0 B2 N2 L2 R2 HP hO hO2
      obtain ⟨m0, m1, m2⟩ := TBox.cells B3.out
      have q0 := OneBox.cells N3.out
      obtain ⟨z0, z1, z2⟩ := TBox.cells R3.out
      obtain ⟨f0, f1, f2⟩ := TBox.frozen R3.out
      go_wp2_with fail
      refine bodyPost_ret_by (results_c2 rfl _ _ (w.heap.size + 2) _ _ _ _ rfl (Cells.set3 R3.out (.int .i64 last) (.int .i64 to_) (.slice Y j y)) Tryz.underlying27 rfl (by kernel_rfl)) rfl ?_
      exact FIN.out _ (But.set3 _ _ _ _ _)
    · go_enter Tryz.func72, Tryz.ntmps72
      go_upto_region 1 with fail
      generalize ((w.alloc (.cells #[.int .i64 last, .int .i64 now, .slice A n c] 27)).alloc (.cells #[.int .i64 to_] 3)).alloc (.cells #[.int .i64 0, .int .i64 0, .slice none 0 0] 27) = w1 at *
      obtain ⟨m0, m1, m2⟩ := TBox.cells B1.out
      go_wp2_with fail
      refine (HC w1 (HR.out.below L1.out)).out.mono ?_
      rintro e w2 ⟨rfl, hb⟩
      have L2 := Lib.hid (L1.out.trans (hb.mono L1.out.size))
      have R2 := Lib.hid (Cells.below R1.out hb)
      have N2 := Lib.hid (Cells.below N1.out hb)
      have B2 := Lib.hid (Cells.below B1.out hb)
      clear hb m0 m1 m2 B1 N1 L1 R1 HC
      obtain ⟨m0, m1, m2⟩ := TBox.cells B2.out
      have q0 := OneBox.cells N2.out
      obtain ⟨z0, z1, z2⟩ := TBox.cells R2.out
      obtain ⟨f0, f1, f2⟩ := TBox.frozen R2.out
      go_wp2_with fail
      refine bodyPost_ret_by (results_c2 rfl _ _ (w.heap.size + 2) _ _ _ _ rfl (Cells.set3 R2.out (.int .i64 0) (.int .i64 0) (.slice none 0 0)) Tryz.underlying27 rfl (by kernel_rfl)) rfl ?_
      exact BAD.out _ (below3 L2.out (by omega) _ _ _)
theorem tick_any {last now : Int} {A : Option Addr} {n c : Nat} {l : List Lv} {w : World} (to_ : Int) (h : RowL w A n c l) (hn : n ≤ 1000000) :
    Calls Tryz.prog 72 #[tv last now A n c, .int .i64 to_] w (GaveTL w (tickP ⟨last, now, l⟩ to_).1 (tickP ⟨last, now, l⟩ to_).2.1 (tickP ⟨last, now, l⟩ to_).2.2) := by
  exact (tick_own to_ h hn).mono fun _ _ h => h.gave
end Lea
end Go.Proofs.YtmflngclncidjaaGreat
