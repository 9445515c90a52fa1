/-
  SEVERAL TEXTS IN ONE FILE: CooGrant.
-/
import Derived.Test.YtmflngclncidjaaGreatJ10
/-
  WALKS OVER grant, join, elect. (Written by gen_coogrant.py.)
-/
namespace Go.Proofs.YtmflngclncidjaaGreat
open Go.RowKit Mem
namespace Coo
open Lea (Cells But OneBox Lv Tv)
open Spa (Sp)

set_option maxRecDepth 100000 in
set_option maxHeartbeats 12800000 in
theorem grant_act {base g N : Nat} {x : Cx} {w : World} (h : Desk base w g x) (hi : Inv x.p) (hb : Bd x.p N) (hN : N ≤ 100000) {key host : Int} (hk : 0 ≤ key) (hh : hostB host = true) :
    Calls Tryz.prog 61 #[.pointer (some ⟨g, 0, none⟩), .int .i64 key, .int .i64 host] w (Acted base g x w (grantC x.p key host)) := by
  have H0 := Lib.hid h
  have hn : x.n ≤ 100000 := by have h1 := h.l.2; have h2 := hb.len; omega
  have HPL := Lib.hid (grantC_eq hi hk hh)
  have HC := fun W (hW : Below w.heap.size w W) => Lib.hid (Lea.grant_own (last := x.p.t.last) (now := x.p.t.now) key host x.p.ttl (Lea.OwnsL.row (h.l.below hW) (by omega)) (by omega) (fun _ => wrap_last hi hb hN) (fun _ => wrap_ttl hi hb))
  rw [HPL.out]
  clear HPL hi hb
  generalize Lea.grantP ⟨x.p.t.last, x.p.t.now, x.p.t.l⟩ key host x.p.ttl = r at *
  unfold Lea.OwnedG at HC
  have L1 : Hid (Below w.heap.size w (w.alloc (.cells #[.int .i64 0, .int .i64 0, .slice none 0 0] 39))) := (Below.refl w.heap.size w).alloc (Nat.le_refl _) _
  have N1 : Hid (ABox (w.alloc (.cells #[.int .i64 0, .int .i64 0, .slice none 0 0] 39)) w.heap.size 0 0 none 0 0) := Cells.new w _ _
  have HRF := fun w => Lib.hid (refused_any r.2.2 w)
  go_enter Tryz.func61, Tryz.ntmps61
  go_upto_region 1 with fail
  generalize w.alloc (.cells #[.int .i64 0, .int .i64 0, .slice none 0 0] 39) = w1 at *
  have D1 := Lib.hid (H0.out.below L1.out)
  have HC := fun W (hW : Below w1.heap.size w1 W) => HC W (L1.out.trans (hW.mono L1.out.size))
  have HS := fun W (hW : Below w1.heap.size w1 W) => seven (D1.out.below hW).box
  go_cut [7, 8, 9] (fun s t u wx => ∃ pT pE A' a', s = .pointer (some ⟨pT, 0, none⟩) ∧ t = .pointer (some ⟨pE, 0, none⟩) ∧ u = .int .i64 r.2.2 ∧ Hid (Lea.TBox wx pT r.1.last r.1.now A' r.1.l.length a' ∧ Lea.LBox wx pE r.2.1 ∧ Lea.OwnsL w1.heap.size wx (.slice A' r.1.l.length a') r.1.l.length r.1.l ∧ Below w1.heap.size w1 wx))
  case first =>
    have L2 : Hid (Below w1.heap.size w1 w1.drew) := (Below.refl _ w1).drew
    refine wp_region_held_drew (S := fun W => W.cell? ⟨g, 0, none⟩ = some (.int .i64 x.p.t.last) ∧ W.cell? ⟨g, 1, none⟩ = some (.int .i64 x.p.t.now) ∧ W.cell? ⟨g, 2, none⟩ = some (.slice x.A x.n x.a) ∧ W.cell? ⟨g, 3, none⟩ = some (.slice x.S x.m x.s) ∧ W.cell? ⟨g, 4, none⟩ = some (.slice x.W x.q x.k) ∧ W.cell? ⟨g, 5, none⟩ = some (.int .i64 x.p.ttl) ∧ W.cell? ⟨g, 6, none⟩ = some (.int .i64 x.p.zones)) (by kernel_rfl) (HS _ L2.out) (fun hHeld => ?_)
    generalize w1.drew = w2 at *
    (first | (refine Reg.take 0 (v := ?_) rfl (by kernel_rfl) (by kernel_rfl) (by kernel_rfl) (fun _ _ _ h => h) (Or.inl ⟨by rfl, ?_⟩) (by assumption) ?_; rotate_left; (focus ((intro W hSW); (try dsimp only at hSW); (try go_split_ands); go_simp; (try (with_reducible rfl)); done))) | (refine Reg.take 0 (v := undef) rfl (by kernel_rfl) (by kernel_rfl) (by kernel_rfl) (fun _ _ _ h => h) (Or.inr ⟨by rfl, rfl⟩) (by assumption) ?_))
    (try simp only [Act.put, List.setIfInBounds_toArray, List.set_cons_zero, List.set_cons_succ])
    (first | (refine Reg.take 1 (v := ?_) rfl (by kernel_rfl) (by kernel_rfl) (by kernel_rfl) (fun _ _ _ h => h) (Or.inl ⟨by rfl, ?_⟩) (by assumption) ?_; rotate_left; (focus ((intro W hSW); (try dsimp only at hSW); (try go_split_ands); go_simp; (try (with_reducible rfl)); done))) | (refine Reg.take 1 (v := undef) rfl (by kernel_rfl) (by kernel_rfl) (by kernel_rfl) (fun _ _ _ h => h) (Or.inr ⟨by rfl, rfl⟩) (by assumption) ?_))
    (try simp only [Act.put, List.setIfInBounds_toArray, List.set_cons_zero, List.set_cons_succ])
    (first | (refine Reg.take 2 (v := ?_) rfl (by kernel_rfl) (by kernel_rfl) (by kernel_rfl) (fun _ _ _ h => h) (Or.inl ⟨by rfl, ?_⟩) (by assumption) ?_; rotate_left; (focus ((intro W hSW); (try dsimp only at hSW); (try go_split_ands); go_simp; (try (with_reducible rfl)); done))) | (refine Reg.take 2 (v := undef) rfl (by kernel_rfl) (by kernel_rfl) (by kernel_rfl) (fun _ _ _ h => h) (Or.inr ⟨by rfl, rfl⟩) (by assumption) ?_))
    (try simp only [Act.put, List.setIfInBounds_toArray, List.set_cons_zero, List.set_cons_succ])
    (first | (refine Reg.take 3 (v := ?_) rfl (by kernel_rfl) (by kernel_rfl) (by kernel_rfl) (fun _ _ _ h => h) (Or.inl ⟨by rfl, ?_⟩) (by assumption) ?_; rotate_left; (focus ((intro W hSW); (try dsimp only at hSW); (try go_split_ands); go_simp; (try (with_reducible rfl)); done))) | (refine Reg.take 3 (v := undef) rfl (by kernel_rfl) (by kernel_rfl) (by kernel_rfl) (fun _ _ _ h => h) (Or.inr ⟨by rfl, rfl⟩) (by assumption) ?_))
    (try simp only [Act.put, List.setIfInBounds_toArray, List.set_cons_zero, List.set_cons_succ])
    (first | (refine Reg.take 4 (v := ?_) rfl (by kernel_rfl) (by kernel_rfl) (by kernel_rfl) (fun _ _ _ h => h) (Or.inl ⟨by rfl, ?_⟩) (by assumption) ?_; rotate_left; (focus ((intro W hSW); (try dsimp only at hSW); (try go_split_ands); go_simp; (try (with_reducible rfl)); done))) | (refine Reg.take 4 (v := undef) rfl (by kernel_rfl) (by kernel_rfl) (by kernel_rfl) (fun _ _ _ h => h) (Or.inr ⟨by rfl, rfl⟩) (by assumption) ?_))
    (try simp only [Act.put, List.setIfInBounds_toArray, List.set_cons_zero, List.set_cons_succ])
    (first | (refine Reg.take 5 (v := ?_) rfl (by kernel_rfl) (by kernel_rfl) (by kernel_rfl) (fun _ _ _ h => h) (Or.inl ⟨by rfl, ?_⟩) (by assumption) ?_; rotate_left; (focus ((intro W hSW); (try dsimp only at hSW); (try go_split_ands); go_simp; (try (with_reducible rfl)); done))) | (refine Reg.take 5 (v := undef) rfl (by kernel_rfl) (by kernel_rfl) (by kernel_rfl) (fun _ _ _ h => h) (Or.inr ⟨by rfl, rfl⟩) (by assumption) ?_))
    (try simp only [Act.put, List.setIfInBounds_toArray, List.set_cons_zero, List.set_cons_succ])
    (first | (refine Reg.take 6 (v := ?_) rfl (by kernel_rfl) (by kernel_rfl) (by kernel_rfl) (fun _ _ _ h => h) (Or.inl ⟨by rfl, ?_⟩) (by assumption) ?_; rotate_left; (focus ((intro W hSW); (try dsimp only at hSW); (try go_split_ands); go_simp; (try (with_reducible rfl)); done))) | (refine Reg.take 6 (v := undef) rfl (by kernel_rfl) (by kernel_rfl) (by kernel_rfl) (fun _ _ _ h => h) (Or.inr ⟨by rfl, rfl⟩) (by assumption) ?_))
    (try simp only [Act.put, List.setIfInBounds_toArray, List.set_cons_zero, List.set_cons_succ])
    (first | (refine Reg.take 7 (v := ?_) rfl (by kernel_rfl) (by kernel_rfl) (by kernel_rfl) (fun _ _ _ h => h) (Or.inl ⟨by rfl, ?_⟩) (by assumption) ?_; rotate_left; (focus ((intro W hSW); (try dsimp only at hSW); (try go_split_ands); go_simp; (try (with_reducible rfl)); done))) | (refine Reg.take 7 (v := undef) rfl (by kernel_rfl) (by kernel_rfl) (by kernel_rfl) (fun _ _ _ h => h) (Or.inr ⟨by rfl, rfl⟩) (by assumption) ?_))
    (try simp only [Act.put, List.setIfInBounds_toArray, List.set_cons_zero, List.set_cons_succ])
    (first | (refine Reg.take 8 (v := ?_) rfl (by kernel_rfl) (by kernel_rfl) (by kernel_rfl) (fun _ _ _ h => h) (Or.inl ⟨by rfl, ?_⟩) (by assumption) ?_; rotate_left; (focus ((intro W hSW); (try dsimp only at hSW); (try go_split_ands); go_simp; (try (with_reducible rfl)); done))) | (refine Reg.take 8 (v := undef) rfl (by kernel_rfl) (by kernel_rfl) (by kernel_rfl) (fun _ _ _ h => h) (Or.inr ⟨by rfl, rfl⟩) (by assumption) ?_))
    (try simp only [Act.put, List.setIfInBounds_toArray, List.set_cons_zero, List.set_cons_succ])
    (first | (refine Reg.take 9 (v := ?_) rfl (by kernel_rfl) (by kernel_rfl) (by kernel_rfl) (fun _ _ _ h => h) (Or.inl ⟨by rfl, ?_⟩) (by assumption) ?_; rotate_left; (focus ((intro W hSW); (try dsimp only at hSW); (try go_split_ands); go_simp; (try (with_reducible rfl)); done))) | (refine Reg.take 9 (v := undef) rfl (by kernel_rfl) (by kernel_rfl) (by kernel_rfl) (fun _ _ _ h => h) (Or.inr ⟨by rfl, rfl⟩) (by assumption) ?_))
    (try simp only [Act.put, List.setIfInBounds_toArray, List.set_cons_zero, List.set_cons_succ])
    (first | (refine Reg.take 10 (v := ?_) rfl (by kernel_rfl) (by kernel_rfl) (by kernel_rfl) (fun _ _ _ h => h) (Or.inl ⟨by rfl, ?_⟩) (by assumption) ?_; rotate_left; (focus ((intro W hSW); (try dsimp only at hSW); (try go_split_ands); go_simp; (try (with_reducible rfl)); done))) | (refine Reg.take 10 (v := undef) rfl (by kernel_rfl) (by kernel_rfl) (by kernel_rfl) (fun _ _ _ h => h) (Or.inr ⟨by rfl, rfl⟩) (by assumption) ?_))
    (try simp only [Act.put, List.setIfInBounds_toArray, List.set_cons_zero, List.set_cons_succ])
    (first | (refine Reg.take 11 (v := ?_) rfl (by kernel_rfl) (by kernel_rfl) (by kernel_rfl) (fun _ _ _ h => h) (Or.inl ⟨by rfl, ?_⟩) (by assumption) ?_; rotate_left; (focus ((intro W hSW); (try dsimp only at hSW); (try go_split_ands); go_simp; (try (with_reducible rfl)); done))) | (refine Reg.take 11 (v := undef) rfl (by kernel_rfl) (by kernel_rfl) (by kernel_rfl) (fun _ _ _ h => h) (Or.inr ⟨by rfl, rfl⟩) (by assumption) ?_))
    (try simp only [Act.put, List.setIfInBounds_toArray, List.set_cons_zero, List.set_cons_succ])
    refine Reg.step3 12 17 18 rfl rfl rfl (by kernel_rfl) (by rfl) (by rfl) (by rfl) (fun K hK => ?_) (fun K hK => ?_) (fun K hK => ?_)
    · skip
      go_simp
      refine (HC w2 L2.out).out.mono ?_
      rintro e w3 ⟨A', a', rfl, hR, hO, hb⟩
      have L3 := Lib.hid (L2.out.trans (hb.mono L2.out.size))
      have OT3 := Lib.hid (Lea.OwnsL.mono hO L2.out.size)
      clear hb hR hO
      clear L2 
      refine hK.out _ _ (HS _ L3.out) (fun hHeld3 => ?_)
      clear hK K
      (try simp only [Act.put, List.setIfInBounds_toArray, List.set_cons_zero, List.set_cons_succ])
      (first | (refine Reg.take 13 (v := ?_) rfl (by kernel_rfl) (by kernel_rfl) (by kernel_rfl) (fun _ _ _ h => h) (Or.inl ⟨by rfl, ?_⟩) (by assumption) ?_; rotate_left; (focus ((intro W hSW); (try dsimp only at hSW); (try go_split_ands); go_simp; (try (with_reducible rfl)); done))) | (refine Reg.take 13 (v := undef) rfl (by kernel_rfl) (by kernel_rfl) (by kernel_rfl) (fun _ _ _ h => h) (Or.inr ⟨by rfl, rfl⟩) (by assumption) ?_))
      (try simp only [Act.put, List.setIfInBounds_toArray, List.set_cons_zero, List.set_cons_succ])
      (first | (refine Reg.take 14 (v := ?_) rfl (by kernel_rfl) (by kernel_rfl) (by kernel_rfl) (fun _ _ _ h => h) (Or.inl ⟨by rfl, ?_⟩) (by assumption) ?_; rotate_left; (focus ((intro W hSW); (try dsimp only at hSW); (try go_split_ands); go_simp; (try (with_reducible rfl)); done))) | (refine Reg.take 14 (v := undef) rfl (by kernel_rfl) (by kernel_rfl) (by kernel_rfl) (fun _ _ _ h => h) (Or.inr ⟨by rfl, rfl⟩) (by assumption) ?_))
      (try simp only [Act.put, List.setIfInBounds_toArray, List.set_cons_zero, List.set_cons_succ])
      (first | (refine Reg.take 15 (v := ?_) rfl (by kernel_rfl) (by kernel_rfl) (by kernel_rfl) (fun _ _ _ h => h) (Or.inl ⟨by rfl, ?_⟩) (by assumption) ?_; rotate_left; (focus ((intro W hSW); (try dsimp only at hSW); (try go_split_ands); go_simp; (try (with_reducible rfl)); done))) | (refine Reg.take 15 (v := undef) rfl (by kernel_rfl) (by kernel_rfl) (by kernel_rfl) (fun _ _ _ h => h) (Or.inr ⟨by rfl, rfl⟩) (by assumption) ?_))
      (try simp only [Act.put, List.setIfInBounds_toArray, List.set_cons_zero, List.set_cons_succ])
      (first | (refine Reg.take 16 (v := ?_) rfl (by kernel_rfl) (by kernel_rfl) (by kernel_rfl) (fun _ _ _ h => h) (Or.inl ⟨by rfl, ?_⟩) (by assumption) ?_; rotate_left; (focus ((intro W hSW); (try dsimp only at hSW); (try go_split_ands); go_simp; (try (with_reducible rfl)); done))) | (refine Reg.take 16 (v := undef) rfl (by kernel_rfl) (by kernel_rfl) (by kernel_rfl) (fun _ _ _ h => h) (Or.inr ⟨by rfl, rfl⟩) (by assumption) ?_))
      (try simp only [Act.put, List.setIfInBounds_toArray, List.set_cons_zero, List.set_cons_succ])
      refine Reg.step2 17 18 rfl rfl (by kernel_rfl) (by rfl) (by rfl) (fun K hK => ?_) (fun K hK => ?_)
      · skip
        go_simp
        have bb : Below w3.heap.size w3 (w3.alloc (.cells #[.int .i64 0, .int .i64 0, .slice none 0 0] 27)) := (Below.refl _ w3).alloc (Nat.le_refl _) _
        have L4 := Lib.hid (L3.out.trans (bb.mono L3.out.size))
        have XT4 : Hid (Cells (w3.alloc (.cells #[.int .i64 0, .int .i64 0, .slice none 0 0] 27)) w3.heap.size 27 #[.int .i64 0, .int .i64 0, .slice none 0 0]) := Cells.new w3 _ _
        have GT : Hid (w1.heap.size ≤ w3.heap.size) := L3.out.size
        have ZTT : Hid ((Value.slice A' r.1.l.length a').ownBlock ≠ some w3.heap.size) := fun e => by have h1 := (Lea.OwnsL.lt OT3.out _ e).2; omega
        have OT4 := Lib.hid (Lea.OwnsL.below OT3.out bb)
        clear bb
        clear L3 OT3
        refine hK.out _ _ (HS _ L4.out) (fun hHeld4 => ?_)
        clear hK K
        (try simp only [Act.put, List.setIfInBounds_toArray, List.set_cons_zero, List.set_cons_succ])
        generalize w3.alloc (.cells #[.int .i64 0, .int .i64 0, .slice none 0 0] 27) = w4 at *
        generalize w3.heap.size = pT at *
        refine Reg.step 18 rfl (by kernel_rfl) (by rfl) (fun K hK => ?_)
        go_simp
        have bb : Below w4.heap.size w4 (w4.alloc (.cells #[.int .i64 0, .int .i64 0, .int .i64 0, .int .i64 0] 65)) := (Below.refl _ w4).alloc (Nat.le_refl _) _
        have L5 := Lib.hid (L4.out.trans (bb.mono L4.out.size))
        have XE5 : Hid (Cells (w4.alloc (.cells #[.int .i64 0, .int .i64 0, .int .i64 0, .int .i64 0] 65)) w4.heap.size 65 #[.int .i64 0, .int .i64 0, .int .i64 0, .int .i64 0]) := Cells.new w4 _ _
        have GE : Hid (w1.heap.size ≤ w4.heap.size) := L4.out.size
        have ZTE : Hid ((Value.slice A' r.1.l.length a').ownBlock ≠ some w4.heap.size) := fun e => by have h1 := (Lea.OwnsL.lt OT4.out _ e).2; omega
        have XT5 := Lib.hid (Lea.Cells.below XT4.out bb)
        have OT5 := Lib.hid (Lea.OwnsL.below OT4.out bb)
        clear bb
        clear L4 XT4 OT4
        refine hK.out _ _ (HS _ L5.out) (fun hHeld5 => ?_)
        clear hK K
        (try simp only [Act.put, List.setIfInBounds_toArray, List.set_cons_zero, List.set_cons_succ])
        generalize w4.alloc (.cells #[.int .i64 0, .int .i64 0, .int .i64 0, .int .i64 0] 65) = w5 at *
        generalize w4.heap.size = pE at *
        refine Reg.step 19 rfl (by kernel_rfl) (by rfl) (fun K hK => ?_)
        have y0 : w5.cell? ⟨pT, 0, none⟩ = some _ := Lea.Cells.cell XT5.out 0
        have f0 : w5.frozen? ⟨pT, 0, none⟩ = false := Lea.Cells.frozen XT5.out 0
        have y1 : w5.cell? ⟨pT, 1, none⟩ = some _ := Lea.Cells.cell XT5.out 1
        have f1 : w5.frozen? ⟨pT, 1, none⟩ = false := Lea.Cells.frozen XT5.out 1
        have y2 : w5.cell? ⟨pT, 2, none⟩ = some _ := Lea.Cells.cell XT5.out 2
        have f2 : w5.frozen? ⟨pT, 2, none⟩ = false := Lea.Cells.frozen XT5.out 2
        go_simp
        clear y0 f0 y1 f1 y2 f2
        have bt := Lea.But.set3 w5 pT (.int .i64 r.1.last) (.int .i64 r.1.now) (.slice A' r.1.l.length a')
        have L6 := Lib.hid (L5.out.trans (bt.below L5.out.size GT.out))
        have XT6 := Lib.hid (Lea.Cells.set3 XT5.out (.int .i64 r.1.last) (.int .i64 r.1.now) (.slice A' r.1.l.length a'))
        have XE6 := Lib.hid (Lea.Cells.but XE5.out bt (cells_ne XE5.out XT5.out (by decide)))
        have OT6 := Lib.hid (Lea.OwnsL.kept OT5.out bt.by_ (.inr ZTT.out))
        clear bt
        clear L5 XT5 XE5 OT5
        refine hK.out _ _ (HS _ L6.out) (fun hHeld6 => ?_)
        clear hK K
        (try simp only [Act.put, List.setIfInBounds_toArray, List.set_cons_zero, List.set_cons_succ])
        generalize ((w5.setCell ⟨pT, 0, none⟩ (.int .i64 r.1.last)).setCell ⟨pT, 1, none⟩ (.int .i64 r.1.now)).setCell ⟨pT, 2, none⟩ (.slice A' r.1.l.length a') = w6 at *
        refine Reg.step 20 rfl (by kernel_rfl) (by rfl) (fun K hK => ?_)
        have y0 : w6.cell? ⟨pE, 0, none⟩ = some _ := Lea.Cells.cell XE6.out 0
        have f0 : w6.frozen? ⟨pE, 0, none⟩ = false := Lea.Cells.frozen XE6.out 0
        have y1 : w6.cell? ⟨pE, 1, none⟩ = some _ := Lea.Cells.cell XE6.out 1
        have f1 : w6.frozen? ⟨pE, 1, none⟩ = false := Lea.Cells.frozen XE6.out 1
        have y2 : w6.cell? ⟨pE, 2, none⟩ = some _ := Lea.Cells.cell XE6.out 2
        have f2 : w6.frozen? ⟨pE, 2, none⟩ = false := Lea.Cells.frozen XE6.out 2
        have y3 : w6.cell? ⟨pE, 3, none⟩ = some _ := Lea.Cells.cell XE6.out 3
        have f3 : w6.frozen? ⟨pE, 3, none⟩ = false := Lea.Cells.frozen XE6.out 3
        go_simp
        clear y0 f0 y1 f1 y2 f2 y3 f3
        have bt := Lea.But.set4 w6 pE (.int .i64 r.2.1.key) (.int .i64 r.2.1.host) (.int .i64 r.2.1.epoch) (.int .i64 r.2.1.til)
        have L7 := Lib.hid (L6.out.trans (bt.below L6.out.size GE.out))
        have XE7 := Lib.hid (Lea.Cells.set4 XE6.out (.int .i64 r.2.1.key) (.int .i64 r.2.1.host) (.int .i64 r.2.1.epoch) (.int .i64 r.2.1.til))
        have XT7 := Lib.hid (Lea.Cells.but XT6.out bt (cells_ne XT6.out XE6.out (by decide)))
        have OT7 := Lib.hid (Lea.OwnsL.kept OT6.out bt.by_ (.inr ZTE.out))
        clear bt
        clear L6 XT6 XE6 OT6
        refine hK.out _ _ (HS _ L7.out) (fun hHeld7 => ?_)
        clear hK K
        (try simp only [Act.put, List.setIfInBounds_toArray, List.set_cons_zero, List.set_cons_succ])
        generalize (((w6.setCell ⟨pE, 0, none⟩ (.int .i64 r.2.1.key)).setCell ⟨pE, 1, none⟩ (.int .i64 r.2.1.host)).setCell ⟨pE, 2, none⟩ (.int .i64 r.2.1.epoch)).setCell ⟨pE, 3, none⟩ (.int .i64 r.2.1.til) = w7 at *
        (first | (refine Reg.take 21 (v := ?_) rfl (by kernel_rfl) (by kernel_rfl) (by kernel_rfl) (fun _ _ _ h => h) (Or.inl ⟨by rfl, ?_⟩) (by assumption) ?_; rotate_left; (focus ((intro W hSW); (try dsimp only at hSW); (try go_split_ands); go_simp; (try (with_reducible rfl)); done))) | (refine Reg.take 21 (v := undef) rfl (by kernel_rfl) (by kernel_rfl) (by kernel_rfl) (fun _ _ _ h => h) (Or.inr ⟨by rfl, rfl⟩) (by assumption) ?_))
        (try simp only [Act.put, List.setIfInBounds_toArray, List.set_cons_zero, List.set_cons_succ])
        refine wpAnyH_done (by kernel_rfl) ?_ _
        go_wp2_with fail
        go_meet
        exact ⟨pT, pE, A', a', rfl, rfl, rfl, XT7.out, XE7.out, OT7.out, L7.out⟩
      · skip
        go_simp
        have bb : Below w3.heap.size w3 (w3.alloc (.cells #[.int .i64 0, .int .i64 0, .int .i64 0, .int .i64 0] 65)) := (Below.refl _ w3).alloc (Nat.le_refl _) _
        have L4 := Lib.hid (L3.out.trans (bb.mono L3.out.size))
        have XE4 : Hid (Cells (w3.alloc (.cells #[.int .i64 0, .int .i64 0, .int .i64 0, .int .i64 0] 65)) w3.heap.size 65 #[.int .i64 0, .int .i64 0, .int .i64 0, .int .i64 0]) := Cells.new w3 _ _
        have GE : Hid (w1.heap.size ≤ w3.heap.size) := L3.out.size
        have ZTE : Hid ((Value.slice A' r.1.l.length a').ownBlock ≠ some w3.heap.size) := fun e => by have h1 := (Lea.OwnsL.lt OT3.out _ e).2; omega
        have OT4 := Lib.hid (Lea.OwnsL.below OT3.out bb)
        clear bb
        clear L3 OT3
        refine hK.out _ _ (HS _ L4.out) (fun hHeld4 => ?_)
        clear hK K
        (try simp only [Act.put, List.setIfInBounds_toArray, List.set_cons_zero, List.set_cons_succ])
        generalize w3.alloc (.cells #[.int .i64 0, .int .i64 0, .int .i64 0, .int .i64 0] 65) = w4 at *
        generalize w3.heap.size = pE at *
        refine Reg.step 17 rfl (by kernel_rfl) (by rfl) (fun K hK => ?_)
        go_simp
        have bb : Below w4.heap.size w4 (w4.alloc (.cells #[.int .i64 0, .int .i64 0, .slice none 0 0] 27)) := (Below.refl _ w4).alloc (Nat.le_refl _) _
        have L5 := Lib.hid (L4.out.trans (bb.mono L4.out.size))
        have XT5 : Hid (Cells (w4.alloc (.cells #[.int .i64 0, .int .i64 0, .slice none 0 0] 27)) w4.heap.size 27 #[.int .i64 0, .int .i64 0, .slice none 0 0]) := Cells.new w4 _ _
        have GT : Hid (w1.heap.size ≤ w4.heap.size) := L4.out.size
        have ZTT : Hid ((Value.slice A' r.1.l.length a').ownBlock ≠ some w4.heap.size) := fun e => by have h1 := (Lea.OwnsL.lt OT4.out _ e).2; omega
        have XE5 := Lib.hid (Lea.Cells.below XE4.out bb)
        have OT5 := Lib.hid (Lea.OwnsL.below OT4.out bb)
        clear bb
        clear L4 XE4 OT4
        refine hK.out _ _ (HS _ L5.out) (fun hHeld5 => ?_)
        clear hK K
        (try simp only [Act.put, List.setIfInBounds_toArray, List.set_cons_zero, List.set_cons_succ])
        generalize w4.alloc (.cells #[.int .i64 0, .int .i64 0, .slice none 0 0] 27) = w5 at *
        generalize w4.heap.size = pT at *
        refine Reg.step 19 rfl (by kernel_rfl) (by rfl) (fun K hK => ?_)
        have y0 : w5.cell? ⟨pT, 0, none⟩ = some _ := Lea.Cells.cell XT5.out 0
        have f0 : w5.frozen? ⟨pT, 0, none⟩ = false := Lea.Cells.frozen XT5.out 0
        have y1 : w5.cell? ⟨pT, 1, none⟩ = some _ := Lea.Cells.cell XT5.out 1
        have f1 : w5.frozen? ⟨pT, 1, none⟩ = false := Lea.Cells.frozen XT5.out 1
        have y2 : w5.cell? ⟨pT, 2, none⟩ = some _ := Lea.Cells.cell XT5.out 2
        have f2 : w5.frozen? ⟨pT, 2, none⟩ = false := Lea.Cells.frozen XT5.out 2
        go_simp
        clear y0 f0 y1 f1 y2 f2
        have bt := Lea.But.set3 w5 pT (.int .i64 r.1.last) (.int .i64 r.1.now) (.slice A' r.1.l.length a')
        have L6 := Lib.hid (L5.out.trans (bt.below L5.out.size GT.out))
        have XT6 := Lib.hid (Lea.Cells.set3 XT5.out (.int .i64 r.1.last) (.int .i64 r.1.now) (.slice A' r.1.l.length a'))
        have XE6 := Lib.hid (Lea.Cells.but XE5.out bt (cells_ne XE5.out XT5.out (by decide)))
        have OT6 := Lib.hid (Lea.OwnsL.kept OT5.out bt.by_ (.inr ZTT.out))
        clear bt
        clear L5 XE5 XT5 OT5
        refine hK.out _ _ (HS _ L6.out) (fun hHeld6 => ?_)
        clear hK K
        (try simp only [Act.put, List.setIfInBounds_toArray, List.set_cons_zero, List.set_cons_succ])
        generalize ((w5.setCell ⟨pT, 0, none⟩ (.int .i64 r.1.last)).setCell ⟨pT, 1, none⟩ (.int .i64 r.1.now)).setCell ⟨pT, 2, none⟩ (.slice A' r.1.l.length a') = w6 at *
        refine Reg.step 20 rfl (by kernel_rfl) (by rfl) (fun K hK => ?_)
        have y0 : w6.cell? ⟨pE, 0, none⟩ = some _ := Lea.Cells.cell XE6.out 0
        have f0 : w6.frozen? ⟨pE, 0, none⟩ = false := Lea.Cells.frozen XE6.out 0
        have y1 : w6.cell? ⟨pE, 1, none⟩ = some _ := Lea.Cells.cell XE6.out 1
        have f1 : w6.frozen? ⟨pE, 1, none⟩ = false := Lea.Cells.frozen XE6.out 1
        have y2 : w6.cell? ⟨pE, 2, none⟩ = some _ := Lea.Cells.cell XE6.out 2
        have f2 : w6.frozen? ⟨pE, 2, none⟩ = false := Lea.Cells.frozen XE6.out 2
        have y3 : w6.cell? ⟨pE, 3, none⟩ = some _ := Lea.Cells.cell XE6.out 3
        have f3 : w6.frozen? ⟨pE, 3, none⟩ = false := Lea.Cells.frozen XE6.out 3
        go_simp
        clear y0 f0 y1 f1 y2 f2 y3 f3
        have bt := Lea.But.set4 w6 pE (.int .i64 r.2.1.key) (.int .i64 r.2.1.host) (.int .i64 r.2.1.epoch) (.int .i64 r.2.1.til)
        have L7 := Lib.hid (L6.out.trans (bt.below L6.out.size GE.out))
        have XE7 := Lib.hid (Lea.Cells.set4 XE6.out (.int .i64 r.2.1.key) (.int .i64 r.2.1.host) (.int .i64 r.2.1.epoch) (.int .i64 r.2.1.til))
        have XT7 := Lib.hid (Lea.Cells.but XT6.out bt (cells_ne XT6.out XE6.out (by decide)))
        have OT7 := Lib.hid (Lea.OwnsL.kept OT6.out bt.by_ (.inr ZTE.out))
        clear bt
        clear L6 XE6 XT6 OT6
        refine hK.out _ _ (HS _ L7.out) (fun hHeld7 => ?_)
        clear hK K
        (try simp only [Act.put, List.setIfInBounds_toArray, List.set_cons_zero, List.set_cons_succ])
        generalize (((w6.setCell ⟨pE, 0, none⟩ (.int .i64 r.2.1.key)).setCell ⟨pE, 1, none⟩ (.int .i64 r.2.1.host)).setCell ⟨pE, 2, none⟩ (.int .i64 r.2.1.epoch)).setCell ⟨pE, 3, none⟩ (.int .i64 r.2.1.til) = w7 at *
        (first | (refine Reg.take 21 (v := ?_) rfl (by kernel_rfl) (by kernel_rfl) (by kernel_rfl) (fun _ _ _ h => h) (Or.inl ⟨by rfl, ?_⟩) (by assumption) ?_; rotate_left; (focus ((intro W hSW); (try dsimp only at hSW); (try go_split_ands); go_simp; (try (with_reducible rfl)); done))) | (refine Reg.take 21 (v := undef) rfl (by kernel_rfl) (by kernel_rfl) (by kernel_rfl) (fun _ _ _ h => h) (Or.inr ⟨by rfl, rfl⟩) (by assumption) ?_))
        (try simp only [Act.put, List.setIfInBounds_toArray, List.set_cons_zero, List.set_cons_succ])
        refine wpAnyH_done (by kernel_rfl) ?_ _
        go_wp2_with fail
        go_meet
        exact ⟨pT, pE, A', a', rfl, rfl, rfl, XT7.out, XE7.out, OT7.out, L7.out⟩
    · skip
      go_simp
      have bb : Below w2.heap.size w2 (w2.alloc (.cells #[.int .i64 0, .int .i64 0, .slice none 0 0] 27)) := (Below.refl _ w2).alloc (Nat.le_refl _) _
      have L3 := Lib.hid (L2.out.trans (bb.mono L2.out.size))
      have XT3 : Hid (Cells (w2.alloc (.cells #[.int .i64 0, .int .i64 0, .slice none 0 0] 27)) w2.heap.size 27 #[.int .i64 0, .int .i64 0, .slice none 0 0]) := Cells.new w2 _ _
      have GT : Hid (w1.heap.size ≤ w2.heap.size) := L2.out.size
      clear bb
      clear L2 
      refine hK.out _ _ (HS _ L3.out) (fun hHeld3 => ?_)
      clear hK K
      (try simp only [Act.put, List.setIfInBounds_toArray, List.set_cons_zero, List.set_cons_succ])
      generalize w2.alloc (.cells #[.int .i64 0, .int .i64 0, .slice none 0 0] 27) = w3 at *
      generalize w2.heap.size = pT at *
      refine Reg.step2 12 18 rfl rfl (by kernel_rfl) (by rfl) (by rfl) (fun K hK => ?_) (fun K hK => ?_)
      · skip
        go_simp
        refine (HC w3 L3.out).out.mono ?_
        rintro e w4 ⟨A', a', rfl, hR, hO, hb⟩
        have L4 := Lib.hid (L3.out.trans (hb.mono L3.out.size))
        have XT4 := Lib.hid (Lea.Cells.below XT3.out hb)
        have OT4 := Lib.hid (Lea.OwnsL.mono hO L3.out.size)
        have ZTT : Hid ((Value.slice A' r.1.l.length a').ownBlock ≠ some pT) := fun e => by have h1 := (Lea.OwnsL.lt hO _ e).1; have h2 := Lea.Cells.lt XT3.out; omega
        clear hb hR hO
        clear L3 XT3
        refine hK.out _ _ (HS _ L4.out) (fun hHeld4 => ?_)
        clear hK K
        (try simp only [Act.put, List.setIfInBounds_toArray, List.set_cons_zero, List.set_cons_succ])
        (first | (refine Reg.take 13 (v := ?_) rfl (by kernel_rfl) (by kernel_rfl) (by kernel_rfl) (fun _ _ _ h => h) (Or.inl ⟨by rfl, ?_⟩) (by assumption) ?_; rotate_left; (focus ((intro W hSW); (try dsimp only at hSW); (try go_split_ands); go_simp; (try (with_reducible rfl)); done))) | (refine Reg.take 13 (v := undef) rfl (by kernel_rfl) (by kernel_rfl) (by kernel_rfl) (fun _ _ _ h => h) (Or.inr ⟨by rfl, rfl⟩) (by assumption) ?_))
        (try simp only [Act.put, List.setIfInBounds_toArray, List.set_cons_zero, List.set_cons_succ])
        (first | (refine Reg.take 14 (v := ?_) rfl (by kernel_rfl) (by kernel_rfl) (by kernel_rfl) (fun _ _ _ h => h) (Or.inl ⟨by rfl, ?_⟩) (by assumption) ?_; rotate_left; (focus ((intro W hSW); (try dsimp only at hSW); (try go_split_ands); go_simp; (try (with_reducible rfl)); done))) | (refine Reg.take 14 (v := undef) rfl (by kernel_rfl) (by kernel_rfl) (by kernel_rfl) (fun _ _ _ h => h) (Or.inr ⟨by rfl, rfl⟩) (by assumption) ?_))
        (try simp only [Act.put, List.setIfInBounds_toArray, List.set_cons_zero, List.set_cons_succ])
        (first | (refine Reg.take 15 (v := ?_) rfl (by kernel_rfl) (by kernel_rfl) (by kernel_rfl) (fun _ _ _ h => h) (Or.inl ⟨by rfl, ?_⟩) (by assumption) ?_; rotate_left; (focus ((intro W hSW); (try dsimp only at hSW); (try go_split_ands); go_simp; (try (with_reducible rfl)); done))) | (refine Reg.take 15 (v := undef) rfl (by kernel_rfl) (by kernel_rfl) (by kernel_rfl) (fun _ _ _ h => h) (Or.inr ⟨by rfl, rfl⟩) (by assumption) ?_))
        (try simp only [Act.put, List.setIfInBounds_toArray, List.set_cons_zero, List.set_cons_succ])
        (first | (refine Reg.take 16 (v := ?_) rfl (by kernel_rfl) (by kernel_rfl) (by kernel_rfl) (fun _ _ _ h => h) (Or.inl ⟨by rfl, ?_⟩) (by assumption) ?_; rotate_left; (focus ((intro W hSW); (try dsimp only at hSW); (try go_split_ands); go_simp; (try (with_reducible rfl)); done))) | (refine Reg.take 16 (v := undef) rfl (by kernel_rfl) (by kernel_rfl) (by kernel_rfl) (fun _ _ _ h => h) (Or.inr ⟨by rfl, rfl⟩) (by assumption) ?_))
        (try simp only [Act.put, List.setIfInBounds_toArray, List.set_cons_zero, List.set_cons_succ])
        refine Reg.step 18 rfl (by kernel_rfl) (by rfl) (fun K hK => ?_)
        go_simp
        have bb : Below w4.heap.size w4 (w4.alloc (.cells #[.int .i64 0, .int .i64 0, .int .i64 0, .int .i64 0] 65)) := (Below.refl _ w4).alloc (Nat.le_refl _) _
        have L5 := Lib.hid (L4.out.trans (bb.mono L4.out.size))
        have XE5 : Hid (Cells (w4.alloc (.cells #[.int .i64 0, .int .i64 0, .int .i64 0, .int .i64 0] 65)) w4.heap.size 65 #[.int .i64 0, .int .i64 0, .int .i64 0, .int .i64 0]) := Cells.new w4 _ _
        have GE : Hid (w1.heap.size ≤ w4.heap.size) := L4.out.size
        have ZTE : Hid ((Value.slice A' r.1.l.length a').ownBlock ≠ some w4.heap.size) := fun e => by have h1 := (Lea.OwnsL.lt OT4.out _ e).2; omega
        have XT5 := Lib.hid (Lea.Cells.below XT4.out bb)
        have OT5 := Lib.hid (Lea.OwnsL.below OT4.out bb)
        clear bb
        clear L4 XT4 OT4
        refine hK.out _ _ (HS _ L5.out) (fun hHeld5 => ?_)
        clear hK K
        (try simp only [Act.put, List.setIfInBounds_toArray, List.set_cons_zero, List.set_cons_succ])
        generalize w4.alloc (.cells #[.int .i64 0, .int .i64 0, .int .i64 0, .int .i64 0] 65) = w5 at *
        generalize w4.heap.size = pE at *
        refine Reg.step 19 rfl (by kernel_rfl) (by rfl) (fun K hK => ?_)
        have y0 : w5.cell? ⟨pT, 0, none⟩ = some _ := Lea.Cells.cell XT5.out 0
        have f0 : w5.frozen? ⟨pT, 0, none⟩ = false := Lea.Cells.frozen XT5.out 0
        have y1 : w5.cell? ⟨pT, 1, none⟩ = some _ := Lea.Cells.cell XT5.out 1
        have f1 : w5.frozen? ⟨pT, 1, none⟩ = false := Lea.Cells.frozen XT5.out 1
        have y2 : w5.cell? ⟨pT, 2, none⟩ = some _ := Lea.Cells.cell XT5.out 2
        have f2 : w5.frozen? ⟨pT, 2, none⟩ = false := Lea.Cells.frozen XT5.out 2
        go_simp
        clear y0 f0 y1 f1 y2 f2
        have bt := Lea.But.set3 w5 pT (.int .i64 r.1.last) (.int .i64 r.1.now) (.slice A' r.1.l.length a')
        have L6 := Lib.hid (L5.out.trans (bt.below L5.out.size GT.out))
        have XT6 := Lib.hid (Lea.Cells.set3 XT5.out (.int .i64 r.1.last) (.int .i64 r.1.now) (.slice A' r.1.l.length a'))
        have XE6 := Lib.hid (Lea.Cells.but XE5.out bt (cells_ne XE5.out XT5.out (by decide)))
        have OT6 := Lib.hid (Lea.OwnsL.kept OT5.out bt.by_ (.inr ZTT.out))
        clear bt
        clear L5 XT5 XE5 OT5
        refine hK.out _ _ (HS _ L6.out) (fun hHeld6 => ?_)
        clear hK K
        (try simp only [Act.put, List.setIfInBounds_toArray, List.set_cons_zero, List.set_cons_succ])
        generalize ((w5.setCell ⟨pT, 0, none⟩ (.int .i64 r.1.last)).setCell ⟨pT, 1, none⟩ (.int .i64 r.1.now)).setCell ⟨pT, 2, none⟩ (.slice A' r.1.l.length a') = w6 at *
        refine Reg.step 20 rfl (by kernel_rfl) (by rfl) (fun K hK => ?_)
        have y0 : w6.cell? ⟨pE, 0, none⟩ = some _ := Lea.Cells.cell XE6.out 0
        have f0 : w6.frozen? ⟨pE, 0, none⟩ = false := Lea.Cells.frozen XE6.out 0
        have y1 : w6.cell? ⟨pE, 1, none⟩ = some _ := Lea.Cells.cell XE6.out 1
        have f1 : w6.frozen? ⟨pE, 1, none⟩ = false := Lea.Cells.frozen XE6.out 1
        have y2 : w6.cell? ⟨pE, 2, none⟩ = some _ := Lea.Cells.cell XE6.out 2
        have f2 : w6.frozen? ⟨pE, 2, none⟩ = false := Lea.Cells.frozen XE6.out 2
        have y3 : w6.cell? ⟨pE, 3, none⟩ = some _ := Lea.Cells.cell XE6.out 3
        have f3 : w6.frozen? ⟨pE, 3, none⟩ = false := Lea.Cells.frozen XE6.out 3
        go_simp
        clear y0 f0 y1 f1 y2 f2 y3 f3
        have bt := Lea.But.set4 w6 pE (.int .i64 r.2.1.key) (.int .i64 r.2.1.host) (.int .i64 r.2.1.epoch) (.int .i64 r.2.1.til)
        have L7 := Lib.hid (L6.out.trans (bt.below L6.out.size GE.out))
        have XE7 := Lib.hid (Lea.Cells.set4 XE6.out (.int .i64 r.2.1.key) (.int .i64 r.2.1.host) (.int .i64 r.2.1.epoch) (.int .i64 r.2.1.til))
        have XT7 := Lib.hid (Lea.Cells.but XT6.out bt (cells_ne XT6.out XE6.out (by decide)))
        have OT7 := Lib.hid (Lea.OwnsL.kept OT6.out bt.by_ (.inr ZTE.out))
        clear bt
        clear L6 XT6 XE6 OT6
        refine hK.out _ _ (HS _ L7.out) (fun hHeld7 => ?_)
        clear hK K
        (try simp only [Act.put, List.setIfInBounds_toArray, List.set_cons_zero, List.set_cons_succ])
        generalize (((w6.setCell ⟨pE, 0, none⟩ (.int .i64 r.2.1.key)).setCell ⟨pE, 1, none⟩ (.int .i64 r.2.1.host)).setCell ⟨pE, 2, none⟩ (.int .i64 r.2.1.epoch)).setCell ⟨pE, 3, none⟩ (.int .i64 r.2.1.til) = w7 at *
        (first | (refine Reg.take 21 (v := ?_) rfl (by kernel_rfl) (by kernel_rfl) (by kernel_rfl) (fun _ _ _ h => h) (Or.inl ⟨by rfl, ?_⟩) (by assumption) ?_; rotate_left; (focus ((intro W hSW); (try dsimp only at hSW); (try go_split_ands); go_simp; (try (with_reducible rfl)); done))) | (refine Reg.take 21 (v := undef) rfl (by kernel_rfl) (by kernel_rfl) (by kernel_rfl) (fun _ _ _ h => h) (Or.inr ⟨by rfl, rfl⟩) (by assumption) ?_))
        (try simp only [Act.put, List.setIfInBounds_toArray, List.set_cons_zero, List.set_cons_succ])
        refine wpAnyH_done (by kernel_rfl) ?_ _
        go_wp2_with fail
        go_meet
        exact ⟨pT, pE, A', a', rfl, rfl, rfl, XT7.out, XE7.out, OT7.out, L7.out⟩
      · skip
        go_simp
        have bb : Below w3.heap.size w3 (w3.alloc (.cells #[.int .i64 0, .int .i64 0, .int .i64 0, .int .i64 0] 65)) := (Below.refl _ w3).alloc (Nat.le_refl _) _
        have L4 := Lib.hid (L3.out.trans (bb.mono L3.out.size))
        have XE4 : Hid (Cells (w3.alloc (.cells #[.int .i64 0, .int .i64 0, .int .i64 0, .int .i64 0] 65)) w3.heap.size 65 #[.int .i64 0, .int .i64 0, .int .i64 0, .int .i64 0]) := Cells.new w3 _ _
        have GE : Hid (w1.heap.size ≤ w3.heap.size) := L3.out.size
        have XT4 := Lib.hid (Lea.Cells.below XT3.out bb)
        clear bb
        clear L3 XT3
        refine hK.out _ _ (HS _ L4.out) (fun hHeld4 => ?_)
        clear hK K
        (try simp only [Act.put, List.setIfInBounds_toArray, List.set_cons_zero, List.set_cons_succ])
        generalize w3.alloc (.cells #[.int .i64 0, .int .i64 0, .int .i64 0, .int .i64 0] 65) = w4 at *
        generalize w3.heap.size = pE at *
        refine Reg.step 12 rfl (by kernel_rfl) (by rfl) (fun K hK => ?_)
        go_simp
        refine (HC w4 L4.out).out.mono ?_
        rintro e w5 ⟨A', a', rfl, hR, hO, hb⟩
        have L5 := Lib.hid (L4.out.trans (hb.mono L4.out.size))
        have XT5 := Lib.hid (Lea.Cells.below XT4.out hb)
        have XE5 := Lib.hid (Lea.Cells.below XE4.out hb)
        have OT5 := Lib.hid (Lea.OwnsL.mono hO L4.out.size)
        have ZTT : Hid ((Value.slice A' r.1.l.length a').ownBlock ≠ some pT) := fun e => by have h1 := (Lea.OwnsL.lt hO _ e).1; have h2 := Lea.Cells.lt XT4.out; omega
        have ZTE : Hid ((Value.slice A' r.1.l.length a').ownBlock ≠ some pE) := fun e => by have h1 := (Lea.OwnsL.lt hO _ e).1; have h2 := Lea.Cells.lt XE4.out; omega
        clear hb hR hO
        clear L4 XT4 XE4
        refine hK.out _ _ (HS _ L5.out) (fun hHeld5 => ?_)
        clear hK K
        (try simp only [Act.put, List.setIfInBounds_toArray, List.set_cons_zero, List.set_cons_succ])
        (first | (refine Reg.take 13 (v := ?_) rfl (by kernel_rfl) (by kernel_rfl) (by kernel_rfl) (fun _ _ _ h => h) (Or.inl ⟨by rfl, ?_⟩) (by assumption) ?_; rotate_left; (focus ((intro W hSW); (try dsimp only at hSW); (try go_split_ands); go_simp; (try (with_reducible rfl)); done))) | (refine Reg.take 13 (v := undef) rfl (by kernel_rfl) (by kernel_rfl) (by kernel_rfl) (fun _ _ _ h => h) (Or.inr ⟨by rfl, rfl⟩) (by assumption) ?_))
        (try simp only [Act.put, List.setIfInBounds_toArray, List.set_cons_zero, List.set_cons_succ])
        (first | (refine Reg.take 14 (v := ?_) rfl (by kernel_rfl) (by kernel_rfl) (by kernel_rfl) (fun _ _ _ h => h) (Or.inl ⟨by rfl, ?_⟩) (by assumption) ?_; rotate_left; (focus ((intro W hSW); (try dsimp only at hSW); (try go_split_ands); go_simp; (try (with_reducible rfl)); done))) | (refine Reg.take 14 (v := undef) rfl (by kernel_rfl) (by kernel_rfl) (by kernel_rfl) (fun _ _ _ h => h) (Or.inr ⟨by rfl, rfl⟩) (by assumption) ?_))
        (try simp only [Act.put, List.setIfInBounds_toArray, List.set_cons_zero, List.set_cons_succ])
        (first | (refine Reg.take 15 (v := ?_) rfl (by kernel_rfl) (by kernel_rfl) (by kernel_rfl) (fun _ _ _ h => h) (Or.inl ⟨by rfl, ?_⟩) (by assumption) ?_; rotate_left; (focus ((intro W hSW); (try dsimp only at hSW); (try go_split_ands); go_simp; (try (with_reducible rfl)); done))) | (refine Reg.take 15 (v := undef) rfl (by kernel_rfl) (by kernel_rfl) (by kernel_rfl) (fun _ _ _ h => h) (Or.inr ⟨by rfl, rfl⟩) (by assumption) ?_))
        (try simp only [Act.put, List.setIfInBounds_toArray, List.set_cons_zero, List.set_cons_succ])
        (first | (refine Reg.take 16 (v := ?_) rfl (by kernel_rfl) (by kernel_rfl) (by kernel_rfl) (fun _ _ _ h => h) (Or.inl ⟨by rfl, ?_⟩) (by assumption) ?_; rotate_left; (focus ((intro W hSW); (try dsimp only at hSW); (try go_split_ands); go_simp; (try (with_reducible rfl)); done))) | (refine Reg.take 16 (v := undef) rfl (by kernel_rfl) (by kernel_rfl) (by kernel_rfl) (fun _ _ _ h => h) (Or.inr ⟨by rfl, rfl⟩) (by assumption) ?_))
        (try simp only [Act.put, List.setIfInBounds_toArray, List.set_cons_zero, List.set_cons_succ])
        refine Reg.step 19 rfl (by kernel_rfl) (by rfl) (fun K hK => ?_)
        have y0 : w5.cell? ⟨pT, 0, none⟩ = some _ := Lea.Cells.cell XT5.out 0
        have f0 : w5.frozen? ⟨pT, 0, none⟩ = false := Lea.Cells.frozen XT5.out 0
        have y1 : w5.cell? ⟨pT, 1, none⟩ = some _ := Lea.Cells.cell XT5.out 1
        have f1 : w5.frozen? ⟨pT, 1, none⟩ = false := Lea.Cells.frozen XT5.out 1
        have y2 : w5.cell? ⟨pT, 2, none⟩ = some _ := Lea.Cells.cell XT5.out 2
        have f2 : w5.frozen? ⟨pT, 2, none⟩ = false := Lea.Cells.frozen XT5.out 2
        go_simp
        clear y0 f0 y1 f1 y2 f2
        have bt := Lea.But.set3 w5 pT (.int .i64 r.1.last) (.int .i64 r.1.now) (.slice A' r.1.l.length a')
        have L6 := Lib.hid (L5.out.trans (bt.below L5.out.size GT.out))
        have XT6 := Lib.hid (Lea.Cells.set3 XT5.out (.int .i64 r.1.last) (.int .i64 r.1.now) (.slice A' r.1.l.length a'))
        have XE6 := Lib.hid (Lea.Cells.but XE5.out bt (cells_ne XE5.out XT5.out (by decide)))
        have OT6 := Lib.hid (Lea.OwnsL.kept OT5.out bt.by_ (.inr ZTT.out))
        clear bt
        clear L5 XT5 XE5 OT5
        refine hK.out _ _ (HS _ L6.out) (fun hHeld6 => ?_)
        clear hK K
        (try simp only [Act.put, List.setIfInBounds_toArray, List.set_cons_zero, List.set_cons_succ])
        generalize ((w5.setCell ⟨pT, 0, none⟩ (.int .i64 r.1.last)).setCell ⟨pT, 1, none⟩ (.int .i64 r.1.now)).setCell ⟨pT, 2, none⟩ (.slice A' r.1.l.length a') = w6 at *
        refine Reg.step 20 rfl (by kernel_rfl) (by rfl) (fun K hK => ?_)
        have y0 : w6.cell? ⟨pE, 0, none⟩ = some _ := Lea.Cells.cell XE6.out 0
        have f0 : w6.frozen? ⟨pE, 0, none⟩ = false := Lea.Cells.frozen XE6.out 0
        have y1 : w6.cell? ⟨pE, 1, none⟩ = some _ := Lea.Cells.cell XE6.out 1
        have f1 : w6.frozen? ⟨pE, 1, none⟩ = false := Lea.Cells.frozen XE6.out 1
        have y2 : w6.cell? ⟨pE, 2, none⟩ = some _ := Lea.Cells.cell XE6.out 2
        have f2 : w6.frozen? ⟨pE, 2, none⟩ = false := Lea.Cells.frozen XE6.out 2
        have y3 : w6.cell? ⟨pE, 3, none⟩ = some _ := Lea.Cells.cell XE6.out 3
        have f3 : w6.frozen? ⟨pE, 3, none⟩ = false := Lea.Cells.frozen XE6.out 3
        go_simp
        clear y0 f0 y1 f1 y2 f2 y3 f3
        have bt := Lea.But.set4 w6 pE (.int .i64 r.2.1.key) (.int .i64 r.2.1.host) (.int .i64 r.2.1.epoch) (.int .i64 r.2.1.til)
        have L7 := Lib.hid (L6.out.trans (bt.below L6.out.size GE.out))
        have XE7 := Lib.hid (Lea.Cells.set4 XE6.out (.int .i64 r.2.1.key) (.int .i64 r.2.1.host) (.int .i64 r.2.1.epoch) (.int .i64 r.2.1.til))
        have XT7 := Lib.hid (Lea.Cells.but XT6.out bt (cells_ne XT6.out XE6.out (by decide)))
        have OT7 := Lib.hid (Lea.OwnsL.kept OT6.out bt.by_ (.inr ZTE.out))
        clear bt
        clear L6 XT6 XE6 OT6
        refine hK.out _ _ (HS _ L7.out) (fun hHeld7 => ?_)
        clear hK K
        (try simp only [Act.put, List.setIfInBounds_toArray, List.set_cons_zero, List.set_cons_succ])
        generalize (((w6.setCell ⟨pE, 0, none⟩ (.int .i64 r.2.1.key)).setCell ⟨pE, 1, none⟩ (.int .i64 r.2.1.host)).setCell ⟨pE, 2, none⟩ (.int .i64 r.2.1.epoch)).setCell ⟨pE, 3, none⟩ (.int .i64 r.2.1.til) = w7 at *
        (first | (refine Reg.take 21 (v := ?_) rfl (by kernel_rfl) (by kernel_rfl) (by kernel_rfl) (fun _ _ _ h => h) (Or.inl ⟨by rfl, ?_⟩) (by assumption) ?_; rotate_left; (focus ((intro W hSW); (try dsimp only at hSW); (try go_split_ands); go_simp; (try (with_reducible rfl)); done))) | (refine Reg.take 21 (v := undef) rfl (by kernel_rfl) (by kernel_rfl) (by kernel_rfl) (fun _ _ _ h => h) (Or.inr ⟨by rfl, rfl⟩) (by assumption) ?_))
        (try simp only [Act.put, List.setIfInBounds_toArray, List.set_cons_zero, List.set_cons_succ])
        refine wpAnyH_done (by kernel_rfl) ?_ _
        go_wp2_with fail
        go_meet
        exact ⟨pT, pE, A', a', rfl, rfl, rfl, XT7.out, XE7.out, OT7.out, L7.out⟩
    · skip
      go_simp
      have bb : Below w2.heap.size w2 (w2.alloc (.cells #[.int .i64 0, .int .i64 0, .int .i64 0, .int .i64 0] 65)) := (Below.refl _ w2).alloc (Nat.le_refl _) _
      have L3 := Lib.hid (L2.out.trans (bb.mono L2.out.size))
      have XE3 : Hid (Cells (w2.alloc (.cells #[.int .i64 0, .int .i64 0, .int .i64 0, .int .i64 0] 65)) w2.heap.size 65 #[.int .i64 0, .int .i64 0, .int .i64 0, .int .i64 0]) := Cells.new w2 _ _
      have GE : Hid (w1.heap.size ≤ w2.heap.size) := L2.out.size
      clear bb
      clear L2 
      refine hK.out _ _ (HS _ L3.out) (fun hHeld3 => ?_)
      clear hK K
      (try simp only [Act.put, List.setIfInBounds_toArray, List.set_cons_zero, List.set_cons_succ])
      generalize w2.alloc (.cells #[.int .i64 0, .int .i64 0, .int .i64 0, .int .i64 0] 65) = w3 at *
      generalize w2.heap.size = pE at *
      refine Reg.step2 12 17 rfl rfl (by kernel_rfl) (by rfl) (by rfl) (fun K hK => ?_) (fun K hK => ?_)
      · skip
        go_simp
        refine (HC w3 L3.out).out.mono ?_
        rintro e w4 ⟨A', a', rfl, hR, hO, hb⟩
        have L4 := Lib.hid (L3.out.trans (hb.mono L3.out.size))
        have XE4 := Lib.hid (Lea.Cells.below XE3.out hb)
        have OT4 := Lib.hid (Lea.OwnsL.mono hO L3.out.size)
        have ZTE : Hid ((Value.slice A' r.1.l.length a').ownBlock ≠ some pE) := fun e => by have h1 := (Lea.OwnsL.lt hO _ e).1; have h2 := Lea.Cells.lt XE3.out; omega
        clear hb hR hO
        clear L3 XE3
        refine hK.out _ _ (HS _ L4.out) (fun hHeld4 => ?_)
        clear hK K
        (try simp only [Act.put, List.setIfInBounds_toArray, List.set_cons_zero, List.set_cons_succ])
        (first | (refine Reg.take 13 (v := ?_) rfl (by kernel_rfl) (by kernel_rfl) (by kernel_rfl) (fun _ _ _ h => h) (Or.inl ⟨by rfl, ?_⟩) (by assumption) ?_; rotate_left; (focus ((intro W hSW); (try dsimp only at hSW); (try go_split_ands); go_simp; (try (with_reducible rfl)); done))) | (refine Reg.take 13 (v := undef) rfl (by kernel_rfl) (by kernel_rfl) (by kernel_rfl) (fun _ _ _ h => h) (Or.inr ⟨by rfl, rfl⟩) (by assumption) ?_))
        (try simp only [Act.put, List.setIfInBounds_toArray, List.set_cons_zero, List.set_cons_succ])
        (first | (refine Reg.take 14 (v := ?_) rfl (by kernel_rfl) (by kernel_rfl) (by kernel_rfl) (fun _ _ _ h => h) (Or.inl ⟨by rfl, ?_⟩) (by assumption) ?_; rotate_left; (focus ((intro W hSW); (try dsimp only at hSW); (try go_split_ands); go_simp; (try (with_reducible rfl)); done))) | (refine Reg.take 14 (v := undef) rfl (by kernel_rfl) (by kernel_rfl) (by kernel_rfl) (fun _ _ _ h => h) (Or.inr ⟨by rfl, rfl⟩) (by assumption) ?_))
        (try simp only [Act.put, List.setIfInBounds_toArray, List.set_cons_zero, List.set_cons_succ])
        (first | (refine Reg.take 15 (v := ?_) rfl (by kernel_rfl) (by kernel_rfl) (by kernel_rfl) (fun _ _ _ h => h) (Or.inl ⟨by rfl, ?_⟩) (by assumption) ?_; rotate_left; (focus ((intro W hSW); (try dsimp only at hSW); (try go_split_ands); go_simp; (try (with_reducible rfl)); done))) | (refine Reg.take 15 (v := undef) rfl (by kernel_rfl) (by kernel_rfl) (by kernel_rfl) (fun _ _ _ h => h) (Or.inr ⟨by rfl, rfl⟩) (by assumption) ?_))
        (try simp only [Act.put, List.setIfInBounds_toArray, List.set_cons_zero, List.set_cons_succ])
        (first | (refine Reg.take 16 (v := ?_) rfl (by kernel_rfl) (by kernel_rfl) (by kernel_rfl) (fun _ _ _ h => h) (Or.inl ⟨by rfl, ?_⟩) (by assumption) ?_; rotate_left; (focus ((intro W hSW); (try dsimp only at hSW); (try go_split_ands); go_simp; (try (with_reducible rfl)); done))) | (refine Reg.take 16 (v := undef) rfl (by kernel_rfl) (by kernel_rfl) (by kernel_rfl) (fun _ _ _ h => h) (Or.inr ⟨by rfl, rfl⟩) (by assumption) ?_))
        (try simp only [Act.put, List.setIfInBounds_toArray, List.set_cons_zero, List.set_cons_succ])
        refine Reg.step 17 rfl (by kernel_rfl) (by rfl) (fun K hK => ?_)
        go_simp
        have bb : Below w4.heap.size w4 (w4.alloc (.cells #[.int .i64 0, .int .i64 0, .slice none 0 0] 27)) := (Below.refl _ w4).alloc (Nat.le_refl _) _
        have L5 := Lib.hid (L4.out.trans (bb.mono L4.out.size))
        have XT5 : Hid (Cells (w4.alloc (.cells #[.int .i64 0, .int .i64 0, .slice none 0 0] 27)) w4.heap.size 27 #[.int .i64 0, .int .i64 0, .slice none 0 0]) := Cells.new w4 _ _
        have GT : Hid (w1.heap.size ≤ w4.heap.size) := L4.out.size
        have ZTT : Hid ((Value.slice A' r.1.l.length a').ownBlock ≠ some w4.heap.size) := fun e => by have h1 := (Lea.OwnsL.lt OT4.out _ e).2; omega
        have XE5 := Lib.hid (Lea.Cells.below XE4.out bb)
        have OT5 := Lib.hid (Lea.OwnsL.below OT4.out bb)
        clear bb
        clear L4 XE4 OT4
        refine hK.out _ _ (HS _ L5.out) (fun hHeld5 => ?_)
        clear hK K
        (try simp only [Act.put, List.setIfInBounds_toArray, List.set_cons_zero, List.set_cons_succ])
        generalize w4.alloc (.cells #[.int .i64 0, .int .i64 0, .slice none 0 0] 27) = w5 at *
        generalize w4.heap.size = pT at *
        refine Reg.step 19 rfl (by kernel_rfl) (by rfl) (fun K hK => ?_)
        have y0 : w5.cell? ⟨pT, 0, none⟩ = some _ := Lea.Cells.cell XT5.out 0
        have f0 : w5.frozen? ⟨pT, 0, none⟩ = false := Lea.Cells.frozen XT5.out 0
        have y1 : w5.cell? ⟨pT, 1, none⟩ = some _ := Lea.Cells.cell XT5.out 1
        have f1 : w5.frozen? ⟨pT, 1, none⟩ = false := Lea.Cells.frozen XT5.out 1
        have y2 : w5.cell? ⟨pT, 2, none⟩ = some _ := Lea.Cells.cell XT5.out 2
        have f2 : w5.frozen? ⟨pT, 2, none⟩ = false := Lea.Cells.frozen XT5.out 2
        go_simp
        clear y0 f0 y1 f1 y2 f2
        have bt := Lea.But.set3 w5 pT (.int .i64 r.1.last) (.int .i64 r.1.now) (.slice A' r.1.l.length a')
        have L6 := Lib.hid (L5.out.trans (bt.below L5.out.size GT.out))
        have XT6 := Lib.hid (Lea.Cells.set3 XT5.out (.int .i64 r.1.last) (.int .i64 r.1.now) (.slice A' r.1.l.length a'))
        have XE6 := Lib.hid (Lea.Cells.but XE5.out bt (cells_ne XE5.out XT5.out (by decide)))
        have OT6 := Lib.hid (Lea.OwnsL.kept OT5.out bt.by_ (.inr ZTT.out))
        clear bt
        clear L5 XE5 XT5 OT5
        refine hK.out _ _ (HS _ L6.out) (fun hHeld6 => ?_)
        clear hK K
        (try simp only [Act.put, List.setIfInBounds_toArray, List.set_cons_zero, List.set_cons_succ])
        generalize ((w5.setCell ⟨pT, 0, none⟩ (.int .i64 r.1.last)).setCell ⟨pT, 1, none⟩ (.int .i64 r.1.now)).setCell ⟨pT, 2, none⟩ (.slice A' r.1.l.length a') = w6 at *
        refine Reg.step 20 rfl (by kernel_rfl) (by rfl) (fun K hK => ?_)
        have y0 : w6.cell? ⟨pE, 0, none⟩ = some _ := Lea.Cells.cell XE6.out 0
        have f0 : w6.frozen? ⟨pE, 0, none⟩ = false := Lea.Cells.frozen XE6.out 0
        have y1 : w6.cell? ⟨pE, 1, none⟩ = some _ := Lea.Cells.cell XE6.out 1
        have f1 : w6.frozen? ⟨pE, 1, none⟩ = false := Lea.Cells.frozen XE6.out 1
        have y2 : w6.cell? ⟨pE, 2, none⟩ = some _ := Lea.Cells.cell XE6.out 2
        have f2 : w6.frozen? ⟨pE, 2, none⟩ = false := Lea.Cells.frozen XE6.out 2
        have y3 : w6.cell? ⟨pE, 3, none⟩ = some _ := Lea.Cells.cell XE6.out 3
        have f3 : w6.frozen? ⟨pE, 3, none⟩ = false := Lea.Cells.frozen XE6.out 3
        go_simp
        clear y0 f0 y1 f1 y2 f2 y3 f3
        have bt := Lea.But.set4 w6 pE (.int .i64 r.2.1.key) (.int .i64 r.2.1.host) (.int .i64 r.2.1.epoch) (.int .i64 r.2.1.til)
        have L7 := Lib.hid (L6.out.trans (bt.below L6.out.size GE.out))
        have XE7 := Lib.hid (Lea.Cells.set4 XE6.out (.int .i64 r.2.1.key) (.int .i64 r.2.1.host) (.int .i64 r.2.1.epoch) (.int .i64 r.2.1.til))
        have XT7 := Lib.hid (Lea.Cells.but XT6.out bt (cells_ne XT6.out XE6.out (by decide)))
        have OT7 := Lib.hid (Lea.OwnsL.kept OT6.out bt.by_ (.inr ZTE.out))
        clear bt
        clear L6 XE6 XT6 OT6
        refine hK.out _ _ (HS _ L7.out) (fun hHeld7 => ?_)
        clear hK K
        (try simp only [Act.put, List.setIfInBounds_toArray, List.set_cons_zero, List.set_cons_succ])
        generalize (((w6.setCell ⟨pE, 0, none⟩ (.int .i64 r.2.1.key)).setCell ⟨pE, 1, none⟩ (.int .i64 r.2.1.host)).setCell ⟨pE, 2, none⟩ (.int .i64 r.2.1.epoch)).setCell ⟨pE, 3, none⟩ (.int .i64 r.2.1.til) = w7 at *
        (first | (refine Reg.take 21 (v := ?_) rfl (by kernel_rfl) (by kernel_rfl) (by kernel_rfl) (fun _ _ _ h => h) (Or.inl ⟨by rfl, ?_⟩) (by assumption) ?_; rotate_left; (focus ((intro W hSW); (try dsimp only at hSW); (try go_split_ands); go_simp; (try (with_reducible rfl)); done))) | (refine Reg.take 21 (v := undef) rfl (by kernel_rfl) (by kernel_rfl) (by kernel_rfl) (fun _ _ _ h => h) (Or.inr ⟨by rfl, rfl⟩) (by assumption) ?_))
        (try simp only [Act.put, List.setIfInBounds_toArray, List.set_cons_zero, List.set_cons_succ])
        refine wpAnyH_done (by kernel_rfl) ?_ _
        go_wp2_with fail
        go_meet
        exact ⟨pT, pE, A', a', rfl, rfl, rfl, XT7.out, XE7.out, OT7.out, L7.out⟩
      · skip
        go_simp
        have bb : Below w3.heap.size w3 (w3.alloc (.cells #[.int .i64 0, .int .i64 0, .slice none 0 0] 27)) := (Below.refl _ w3).alloc (Nat.le_refl _) _
        have L4 := Lib.hid (L3.out.trans (bb.mono L3.out.size))
        have XT4 : Hid (Cells (w3.alloc (.cells #[.int .i64 0, .int .i64 0, .slice none 0 0] 27)) w3.heap.size 27 #[.int .i64 0, .int .i64 0, .slice none 0 0]) := Cells.new w3 _ _
        have GT : Hid (w1.heap.size ≤ w3.heap.size) := L3.out.size
        have XE4 := Lib.hid (Lea.Cells.below XE3.out bb)
        clear bb
        clear L3 XE3
        refine hK.out _ _ (HS _ L4.out) (fun hHeld4 => ?_)
        clear hK K
        (try simp only [Act.put, List.setIfInBounds_toArray, List.set_cons_zero, List.set_cons_succ])
        generalize w3.alloc (.cells #[.int .i64 0, .int .i64 0, .slice none 0 0] 27) = w4 at *
        generalize w3.heap.size = pT at *
        refine Reg.step 12 rfl (by kernel_rfl) (by rfl) (fun K hK => ?_)
        go_simp
        refine (HC w4 L4.out).out.mono ?_
        rintro e w5 ⟨A', a', rfl, hR, hO, hb⟩
        have L5 := Lib.hid (L4.out.trans (hb.mono L4.out.size))
        have XE5 := Lib.hid (Lea.Cells.below XE4.out hb)
        have XT5 := Lib.hid (Lea.Cells.below XT4.out hb)
        have OT5 := Lib.hid (Lea.OwnsL.mono hO L4.out.size)
        have ZTE : Hid ((Value.slice A' r.1.l.length a').ownBlock ≠ some pE) := fun e => by have h1 := (Lea.OwnsL.lt hO _ e).1; have h2 := Lea.Cells.lt XE4.out; omega
        have ZTT : Hid ((Value.slice A' r.1.l.length a').ownBlock ≠ some pT) := fun e => by have h1 := (Lea.OwnsL.lt hO _ e).1; have h2 := Lea.Cells.lt XT4.out; omega
        clear hb hR hO
        clear L4 XE4 XT4
        refine hK.out _ _ (HS _ L5.out) (fun hHeld5 => ?_)
        clear hK K
        (try simp only [Act.put, List.setIfInBounds_toArray, List.set_cons_zero, List.set_cons_succ])
        (first | (refine Reg.take 13 (v := ?_) rfl (by kernel_rfl) (by kernel_rfl) (by kernel_rfl) (fun _ _ _ h => h) (Or.inl ⟨by rfl, ?_⟩) (by assumption) ?_; rotate_left; (focus ((intro W hSW); (try dsimp only at hSW); (try go_split_ands); go_simp; (try (with_reducible rfl)); done))) | (refine Reg.take 13 (v := undef) rfl (by kernel_rfl) (by kernel_rfl) (by kernel_rfl) (fun _ _ _ h => h) (Or.inr ⟨by rfl, rfl⟩) (by assumption) ?_))
        (try simp only [Act.put, List.setIfInBounds_toArray, List.set_cons_zero, List.set_cons_succ])
        (first | (refine Reg.take 14 (v := ?_) rfl (by kernel_rfl) (by kernel_rfl) (by kernel_rfl) (fun _ _ _ h => h) (Or.inl ⟨by rfl, ?_⟩) (by assumption) ?_; rotate_left; (focus ((intro W hSW); (try dsimp only at hSW); (try go_split_ands); go_simp; (try (with_reducible rfl)); done))) | (refine Reg.take 14 (v := undef) rfl (by kernel_rfl) (by kernel_rfl) (by kernel_rfl) (fun _ _ _ h => h) (Or.inr ⟨by rfl, rfl⟩) (by assumption) ?_))
        (try simp only [Act.put, List.setIfInBounds_toArray, List.set_cons_zero, List.set_cons_succ])
        (first | (refine Reg.take 15 (v := ?_) rfl (by kernel_rfl) (by kernel_rfl) (by kernel_rfl) (fun _ _ _ h => h) (Or.inl ⟨by rfl, ?_⟩) (by assumption) ?_; rotate_left; (focus ((intro W hSW); (try dsimp only at hSW); (try go_split_ands); go_simp; (try (with_reducible rfl)); done))) | (refine Reg.take 15 (v := undef) rfl (by kernel_rfl) (by kernel_rfl) (by kernel_rfl) (fun _ _ _ h => h) (Or.inr ⟨by rfl, rfl⟩) (by assumption) ?_))
        (try simp only [Act.put, List.setIfInBounds_toArray, List.set_cons_zero, List.set_cons_succ])
        (first | (refine Reg.take 16 (v := ?_) rfl (by kernel_rfl) (by kernel_rfl) (by kernel_rfl) (fun _ _ _ h => h) (Or.inl ⟨by rfl, ?_⟩) (by assumption) ?_; rotate_left; (focus ((intro W hSW); (try dsimp only at hSW); (try go_split_ands); go_simp; (try (with_reducible rfl)); done))) | (refine Reg.take 16 (v := undef) rfl (by kernel_rfl) (by kernel_rfl) (by kernel_rfl) (fun _ _ _ h => h) (Or.inr ⟨by rfl, rfl⟩) (by assumption) ?_))
        (try simp only [Act.put, List.setIfInBounds_toArray, List.set_cons_zero, List.set_cons_succ])
        refine Reg.step 19 rfl (by kernel_rfl) (by rfl) (fun K hK => ?_)
        have y0 : w5.cell? ⟨pT, 0, none⟩ = some _ := Lea.Cells.cell XT5.out 0
        have f0 : w5.frozen? ⟨pT, 0, none⟩ = false := Lea.Cells.frozen XT5.out 0
        have y1 : w5.cell? ⟨pT, 1, none⟩ = some _ := Lea.Cells.cell XT5.out 1
        have f1 : w5.frozen? ⟨pT, 1, none⟩ = false := Lea.Cells.frozen XT5.out 1
        have y2 : w5.cell? ⟨pT, 2, none⟩ = some _ := Lea.Cells.cell XT5.out 2
        have f2 : w5.frozen? ⟨pT, 2, none⟩ = false := Lea.Cells.frozen XT5.out 2
        go_simp
        clear y0 f0 y1 f1 y2 f2
        have bt := Lea.But.set3 w5 pT (.int .i64 r.1.last) (.int .i64 r.1.now) (.slice A' r.1.l.length a')
        have L6 := Lib.hid (L5.out.trans (bt.below L5.out.size GT.out))
        have XT6 := Lib.hid (Lea.Cells.set3 XT5.out (.int .i64 r.1.last) (.int .i64 r.1.now) (.slice A' r.1.l.length a'))
        have XE6 := Lib.hid (Lea.Cells.but XE5.out bt (cells_ne XE5.out XT5.out (by decide)))
        have OT6 := Lib.hid (Lea.OwnsL.kept OT5.out bt.by_ (.inr ZTT.out))
        clear bt
        clear L5 XE5 XT5 OT5
        refine hK.out _ _ (HS _ L6.out) (fun hHeld6 => ?_)
        clear hK K
        (try simp only [Act.put, List.setIfInBounds_toArray, List.set_cons_zero, List.set_cons_succ])
        generalize ((w5.setCell ⟨pT, 0, none⟩ (.int .i64 r.1.last)).setCell ⟨pT, 1, none⟩ (.int .i64 r.1.now)).setCell ⟨pT, 2, none⟩ (.slice A' r.1.l.length a') = w6 at *
        refine Reg.step 20 rfl (by kernel_rfl) (by rfl) (fun K hK => ?_)
        have y0 : w6.cell? ⟨pE, 0, none⟩ = some _ := Lea.Cells.cell XE6.out 0
        have f0 : w6.frozen? ⟨pE, 0, none⟩ = false := Lea.Cells.frozen XE6.out 0
        have y1 : w6.cell? ⟨pE, 1, none⟩ = some _ := Lea.Cells.cell XE6.out 1
        have f1 : w6.frozen? ⟨pE, 1, none⟩ = false := Lea.Cells.frozen XE6.out 1
        have y2 : w6.cell? ⟨pE, 2, none⟩ = some _ := Lea.Cells.cell XE6.out 2
        have f2 : w6.frozen? ⟨pE, 2, none⟩ = false := Lea.Cells.frozen XE6.out 2
        have y3 : w6.cell? ⟨pE, 3, none⟩ = some _ := Lea.Cells.cell XE6.out 3
        have f3 : w6.frozen? ⟨pE, 3, none⟩ = false := Lea.Cells.frozen XE6.out 3
        go_simp
        clear y0 f0 y1 f1 y2 f2 y3 f3
        have bt := Lea.But.set4 w6 pE (.int .i64 r.2.1.key) (.int .i64 r.2.1.host) (.int .i64 r.2.1.epoch) (.int .i64 r.2.1.til)
        have L7 := Lib.hid (L6.out.trans (bt.below L6.out.size GE.out))
        have XE7 := Lib.hid (Lea.Cells.set4 XE6.out (.int .i64 r.2.1.key) (.int .i64 r.2.1.host) (.int .i64 r.2.1.epoch) (.int .i64 r.2.1.til))
        have XT7 := Lib.hid (Lea.Cells.but XT6.out bt (cells_ne XT6.out XE6.out (by decide)))
        have OT7 := Lib.hid (Lea.OwnsL.kept OT6.out bt.by_ (.inr ZTE.out))
        clear bt
        clear L6 XE6 XT6 OT6
        refine hK.out _ _ (HS _ L7.out) (fun hHeld7 => ?_)
        clear hK K
        (try simp only [Act.put, List.setIfInBounds_toArray, List.set_cons_zero, List.set_cons_succ])
        generalize (((w6.setCell ⟨pE, 0, none⟩ (.int .i64 r.2.1.key)).setCell ⟨pE, 1, none⟩ (.int .i64 r.2.1.host)).setCell ⟨pE, 2, none⟩ (.int .i64 r.2.1.epoch)).setCell ⟨pE, 3, none⟩ (.int .i64 r.2.1.til) = w7 at *
        (first | (refine Reg.take 21 (v := ?_) rfl (by kernel_rfl) (by kernel_rfl) (by kernel_rfl) (fun _ _ _ h => h) (Or.inl ⟨by rfl, ?_⟩) (by assumption) ?_; rotate_left; (focus ((intro W hSW); (try dsimp only at hSW); (try go_split_ands); go_simp; (try (with_reducible rfl)); done))) | (refine Reg.take 21 (v := undef) rfl (by kernel_rfl) (by kernel_rfl) (by kernel_rfl) (fun _ _ _ h => h) (Or.inr ⟨by rfl, rfl⟩) (by assumption) ?_))
        (try simp only [Act.put, List.setIfInBounds_toArray, List.set_cons_zero, List.set_cons_succ])
        refine wpAnyH_done (by kernel_rfl) ?_ _
        go_wp2_with fail
        go_meet
        exact ⟨pT, pE, A', a', rfl, rfl, rfl, XT7.out, XE7.out, OT7.out, L7.out⟩
  case rest =>
    obtain ⟨pT, pE, A', a', rfl, rfl, rfl, hP⟩ := hcut
    have XT := Lib.hid hP.out.1
    have XE := Lib.hid hP.out.2.1
    have OT := Lib.hid hP.out.2.2.1
    have L3 := Lib.hid (L1.out.trans (hP.out.2.2.2.mono L1.out.size))
    have D3 := Lib.hid (D1.out.below hP.out.2.2.2)
    have N3 := Lib.hid (Lea.Cells.below N1.out hP.out.2.2.2)
    have G1 : Hid (w.heap.size ≤ w1.heap.size) := L1.out.size
    clear hP HC HS D1 N1 L1
    generalize wc = w3 at *
    obtain ⟨t0, t1, t2⟩ := Lea.TBox.cells XT.out
    rcases hz : (r.2.2 != 0)
    · obtain ⟨m0, m1, m2, m3, m4, m5, m6⟩ := seven D3.out.box
      obtain ⟨f0, f1, f2, -⟩ := seven_frozen D3.out.box
      have D4 := Lib.hid (D3.out.setT (last := r.1.last) (now := r.1.now) (OT.out.mono (Nat.le_trans H0.out.low G1.out)))
      have bt := Lea.But.set3 w3 g (.int .i64 r.1.last) (.int .i64 r.1.now) (.slice A' r.1.l.length a')
      have XE4 := Lib.hid (Lea.Cells.but XE.out bt (cells_ne XE.out D3.out.box (by decide)))
      have N4 := Lib.hid (Lea.Cells.but N3.out bt (cells_ne N3.out D3.out.box (by decide)))
      have M4 : Hid (Move base g (oL x) (oW x) (Value.slice A' r.1.l.length a').ownBlock (oW x) w (((w3.setCell ⟨g, 0, none⟩ (.int .i64 r.1.last)).setCell ⟨g, 1, none⟩ (.int .i64 r.1.now)).setCell ⟨g, 2, none⟩ (.slice A' r.1.l.length a'))) := by
        refine Move.new ((Move.of_below L3.out H0.out.low).trans (Move.box bt H0.out.le D3.out.low)) (.inr fun k e => ?_) (.inl rfl)
        have h1 := (Lea.OwnsL.lt OT.out k e).1
        have h2 := G1.out
        omega
      have HZ : Hid (r.2.2 = 0) := by show _ = _; simpa using hz
      clear bt D3 N3 XE OT L3
      go_upto_region 5 with fail
      clear m0 m1 m2 m3 m4 m5 m6 f0 f1 f2 t0 t1 t2 XT
      generalize ((w3.setCell ⟨g, 0, none⟩ (.int .i64 r.1.last)).setCell ⟨g, 1, none⟩ (.int .i64 r.1.now)).setCell ⟨g, 2, none⟩ (.slice A' r.1.l.length a') = w4 at *
      obtain ⟨y0, y1, y2, y3⟩ := Lea.LBox.cells XE4.out
      obtain ⟨n0, n1, n2⟩ := ABox.cells N4.out
      obtain ⟨f0, f1, f2⟩ := ABox.frozen N4.out
      go_wp2_with fail
      refine bodyPost_ret_by (results_cell_row rfl _ _ w.heap.size _ _ _ _ rfl (ABox.store N4.out 0 r.2.1.epoch none 0 0) Tryz.underlying39 rfl (by kernel_rfl)) rfl ?_
      rw [hz]
      exact acted_end (Nat.le_refl _) H0.out.low rfl D4.out N4.out M4.out (RowS.nil _ _ _) (fun k o e => by cases e) rfl rfl
    · go_wp2_with fail
      refine (HRF w3).out.mono ?_
      rintro e w4 ⟨rfl, hb⟩
      have L4 := Lib.hid (L3.out.trans (hb.mono L3.out.size))
      have D4 := Lib.hid (D3.out.below hb)
      have N4 := Lib.hid (Lea.Cells.below N3.out hb)
      clear hb D3 N3 L3 t0 t1 t2 XT XE OT
      obtain ⟨n0, n1, n2⟩ := ABox.cells N4.out
      obtain ⟨f0, f1, f2⟩ := ABox.frozen N4.out
      go_wp2_with fail
      refine bodyPost_ret_by (results_cell_row rfl _ _ w.heap.size _ _ _ _ rfl (ABox.store N4.out r.2.2 0 none 0 0) Tryz.underlying39 rfl (by kernel_rfl)) rfl ?_
      rw [hz]
      exact acted_bad (Nat.le_refl _) H0.out.low D4.out N4.out L4.out r.2.2
end Coo
end Go.Proofs.YtmflngclncidjaaGreat
