/-
  SEVERAL TEXTS IN ONE FILE: CooRenewW, CooDo, CooClone, CooDesk, CooAns.
-/
import Derived.Test.YtmflngclncidjaaGreatJ10
import Derived.Test.YtmflngclncidjaaGreatJ23
import Derived.Test.YtmflngclncidjaaGreatJ06
import Derived.Test.YtmflngclncidjaaGreatJ12
import Derived.Test.YtmflngclncidjaaGreatJ13
import Derived.Test.YtmflngclncidjaaGreatJ15
import Derived.Test.YtmflngclncidjaaGreatJ20
import Derived.Test.YtmflngclncidjaaGreatJ22
import Derived.Test.YtmflngclncidjaaGreatJ05
import Derived.Test.YtmflngclncidjaaGreatJ07
import Derived.Laws.MakeOwn
/-
  A WALK OVER renew. (Written by gen_coorenew.py.)
-/
namespace Go.Proofs.YtmflngclncidjaaGreat
open Go.RowKit Mem
namespace Coo
open Lea (Cells But OneBox Lv Tv)
open Spa (Sp)

theorem renewC_eq {c : Cv} (h : Inv c) (e : Ev) : renewC c e = bif (Lea.renewP ⟨c.t.last, c.t.now, c.t.l⟩ e.key e.host e.epoch c.ttl).2 != 0 then bad c (Lea.renewP ⟨c.t.last, c.t.now, c.t.l⟩ e.key e.host e.epoch c.ttl).2 else (setT c (Lea.renewP ⟨c.t.last, c.t.now, c.t.l⟩ e.key e.host e.epoch c.ttl).1, ⟨0, 0, []⟩) := by
  unfold Lea.renewP renewC hasNot
  rw [show Lea.okT ⟨c.t.last, c.t.now, c.t.l⟩ = true from h.tok, ttl_ok h]
  simp only [Bool.and_self, cond_true]
  rcases Lea.heldB c.t.l e.key
  · rfl
  · simp only [cond_true]
    rcases ((Lea.getL c.t.l e.key).host != e.host || (Lea.getL c.t.l e.key).epoch != e.epoch) <;> rfl

set_option maxRecDepth 100000 in
set_option maxHeartbeats 12800000 in
theorem renew_act {base g N : Nat} {x : Cx} {w : World} {e : Ev} (h : Desk base w g x) (hi : Inv x.p) (hbd : Bd x.p N) (hN : N ≤ 100000) (_hh : hostB e.host = true) :
    Calls Tryz.prog 49 #[.pointer (some ⟨g, 0, none⟩), evv e] w (Acted base g x w (renewC x.p e)) := by
  have hn : x.n ≤ 100000 := by have h1 := h.l.2; have h2 := hbd.len; omega
  have hm : x.m ≤ 400000 := by have h1 := h.s.2; have h2 := hi.slen hbd; omega
  have hq : x.q ≤ 100000 := by have h1 := h.f.2; have h2 := hbd.wlen; omega
  have HPL := Lib.hid (renewC_eq hi e)
  have HC0 := fun W (hW : Below w.heap.size w W) => Lib.hid (Lea.renew_own (last := x.p.t.last) (now := x.p.t.now) e.key e.host e.epoch x.p.ttl (Lea.OwnsL.row (h.l.below hW) (by omega)) (by omega) (fun _ _ => wrap_ttl hi hbd))
  generalize Lea.renewP ⟨x.p.t.last, x.p.t.now, x.p.t.l⟩ e.key e.host e.epoch x.p.ttl = r at *
  unfold Lea.OwnedT at HC0
  have H0 := Lib.hid h
  obtain ⟨L1, E1, N1⟩ := two_new w e
  have HRF := fun er w => Lib.hid (refused_any er w)

  go_enter Tryz.func49, Tryz.ntmps49
  go_upto_region 1 with fail
  generalize (w.alloc (.cells #[.int .i64 e.d, .int .i64 e.host, .int .i64 e.zone, .int .i64 e.epoch, .int .i64 e.fr, .int .i64 e.to, .int .i64 e.now, .int .i64 e.key] 36)).alloc (.cells #[.int .i64 0, .int .i64 0, .slice none 0 0] 39) = w1 at *
  have D1 := Lib.hid (H0.out.below L1.out)
  have HS := fun W (hW : Below w1.heap.size w1 W) => And.intro (seven (D1.out.below hW).box) (EBox.cells (Lea.Cells.below E1.out hW))
  have LL1 : Hid (Below w1.heap.size w1 w1) := Below.refl _ _
  have HP : Hid (w.heap.size + 1 < w1.heap.size) := Lea.Cells.lt N1.out
  have HC := fun W (hW : Below w1.heap.size w1 W) => HC0 W (L1.out.trans (hW.mono L1.out.size))
  clear HC0
  go_cut [5, 6] (fun s u wx => ∃ pT A' a', s = .pointer (some ⟨pT, 0, none⟩) ∧ u = .int .i64 r.2 ∧ Hid (Lea.TBox wx pT r.1.last r.1.now A' r.1.l.length a' ∧ Lea.OwnsL w1.heap.size wx (.slice A' r.1.l.length a') r.1.l.length r.1.l ∧ Below w1.heap.size w1 wx))
  case first =>
    have L2 : Hid (Below w1.heap.size w1 w1.drew) := (Below.refl _ w1).drew
    refine wp_region_held_drew (S := fun W => (W.cell? ⟨g, 0, none⟩ = some (.int .i64 x.p.t.last) ∧ W.cell? ⟨g, 1, none⟩ = some (.int .i64 x.p.t.now) ∧ W.cell? ⟨g, 2, none⟩ = some (.slice x.A x.n x.a) ∧ W.cell? ⟨g, 3, none⟩ = some (.slice x.S x.m x.s) ∧ W.cell? ⟨g, 4, none⟩ = some (.slice x.W x.q x.k) ∧ W.cell? ⟨g, 5, none⟩ = some (.int .i64 x.p.ttl) ∧ W.cell? ⟨g, 6, none⟩ = some (.int .i64 x.p.zones)) ∧ (W.cell? ⟨w.heap.size, 0, none⟩ = some (.int .i64 e.d) ∧ W.cell? ⟨w.heap.size, 1, none⟩ = some (.int .i64 e.host) ∧ W.cell? ⟨w.heap.size, 2, none⟩ = some (.int .i64 e.zone) ∧ W.cell? ⟨w.heap.size, 3, none⟩ = some (.int .i64 e.epoch) ∧ W.cell? ⟨w.heap.size, 4, none⟩ = some (.int .i64 e.fr) ∧ W.cell? ⟨w.heap.size, 5, none⟩ = some (.int .i64 e.to) ∧ W.cell? ⟨w.heap.size, 6, none⟩ = some (.int .i64 e.now) ∧ W.cell? ⟨w.heap.size, 7, none⟩ = some (.int .i64 e.key))) (by kernel_rfl) (HS _ L2.out) (fun hHeld => ?_)
    generalize w1.drew = w2 at *
    (first | (refine Reg.take 0 (v := ?_) rfl (by kernel_rfl) (by kernel_rfl) (by kernel_rfl) (fun _ _ _ h => h) (Or.inl ⟨by rfl, ?_⟩) (by assumption) ?_; rotate_left; (focus ((intro W hSW); (try dsimp only at hSW); (try go_split_ands); go_simp; (try (with_reducible rfl)); done))) | (refine Reg.take 0 (v := undef) rfl (by kernel_rfl) (by kernel_rfl) (by kernel_rfl) (fun _ _ _ h => h) (Or.inr ⟨by rfl, rfl⟩) (by assumption) ?_))
    (try simp only [Act.put, List.setIfInBounds_toArray, List.set_cons_zero, List.set_cons_succ])
    (first | (refine Reg.take 1 (v := ?_) rfl (by kernel_rfl) (by kernel_rfl) (by kernel_rfl) (fun _ _ _ h => h) (Or.inl ⟨by rfl, ?_⟩) (by assumption) ?_; rotate_left; (focus ((intro W hSW); (try dsimp only at hSW); (try go_split_ands); go_simp; (try (with_reducible rfl)); done))) | (refine Reg.take 1 (v := undef) rfl (by kernel_rfl) (by kernel_rfl) (by kernel_rfl) (fun _ _ _ h => h) (Or.inr ⟨by rfl, rfl⟩) (by assumption) ?_))
    (try simp only [Act.put, List.setIfInBounds_toArray, List.set_cons_zero, List.set_cons_succ])
    (first | (refine Reg.take 2 (v := ?_) rfl (by kernel_rfl) (by kernel_rfl) (by kernel_rfl) (fun _ _ _ h => h) (Or.inl ⟨by rfl, ?_⟩) (by assumption) ?_; rotate_left; (focus ((intro W hSW); (try dsimp only at hSW); (try go_split_ands); go_simp; (try (with_reducible rfl)); done))) | (refine Reg.take 2 (v := undef) rfl (by kernel_rfl) (by kernel_rfl) (by kernel_rfl) (fun _ _ _ h => h) (Or.inr ⟨by rfl, rfl⟩) (by assumption) ?_))
    (try simp only [Act.put, List.setIfInBounds_toArray, List.set_cons_zero, List.set_cons_succ])
    (first | (refine Reg.take 3 (v := ?_) rfl (by kernel_rfl) (by kernel_rfl) (by kernel_rfl) (fun _ _ _ h => h) (Or.inl ⟨by rfl, ?_⟩) (by assumption) ?_; rotate_left; (focus ((intro W hSW); (try dsimp only at hSW); (try go_split_ands); go_simp; (try (with_reducible rfl)); done))) | (refine Reg.take 3 (v := undef) rfl (by kernel_rfl) (by kernel_rfl) (by kernel_rfl) (fun _ _ _ h => h) (Or.inr ⟨by rfl, rfl⟩) (by assumption) ?_))
    (try simp only [Act.put, List.setIfInBounds_toArray, List.set_cons_zero, List.set_cons_succ])
    (first | (refine Reg.take 4 (v := ?_) rfl (by kernel_rfl) (by kernel_rfl) (by kernel_rfl) (fun _ _ _ h => h) (Or.inl ⟨by rfl, ?_⟩) (by assumption) ?_; rotate_left; (focus ((intro W hSW); (try dsimp only at hSW); (try go_split_ands); go_simp; (try (with_reducible rfl)); done))) | (refine Reg.take 4 (v := undef) rfl (by kernel_rfl) (by kernel_rfl) (by kernel_rfl) (fun _ _ _ h => h) (Or.inr ⟨by rfl, rfl⟩) (by assumption) ?_))
    (try simp only [Act.put, List.setIfInBounds_toArray, List.set_cons_zero, List.set_cons_succ])
    (first | (refine Reg.take 5 (v := ?_) rfl (by kernel_rfl) (by kernel_rfl) (by kernel_rfl) (fun _ _ _ h => h) (Or.inl ⟨by rfl, ?_⟩) (by assumption) ?_; rotate_left; (focus ((intro W hSW); (try dsimp only at hSW); (try go_split_ands); go_simp; (try (with_reducible rfl)); done))) | (refine Reg.take 5 (v := undef) rfl (by kernel_rfl) (by kernel_rfl) (by kernel_rfl) (fun _ _ _ h => h) (Or.inr ⟨by rfl, rfl⟩) (by assumption) ?_))
    (try simp only [Act.put, List.setIfInBounds_toArray, List.set_cons_zero, List.set_cons_succ])
    (first | (refine Reg.take 6 (v := ?_) rfl (by kernel_rfl) (by kernel_rfl) (by kernel_rfl) (fun _ _ _ h => h) (Or.inl ⟨by rfl, ?_⟩) (by assumption) ?_; rotate_left; (focus ((intro W hSW); (try dsimp only at hSW); (try go_split_ands); go_simp; (try (with_reducible rfl)); done))) | (refine Reg.take 6 (v := undef) rfl (by kernel_rfl) (by kernel_rfl) (by kernel_rfl) (fun _ _ _ h => h) (Or.inr ⟨by rfl, rfl⟩) (by assumption) ?_))
    (try simp only [Act.put, List.setIfInBounds_toArray, List.set_cons_zero, List.set_cons_succ])
    (first | (refine Reg.take 7 (v := ?_) rfl (by kernel_rfl) (by kernel_rfl) (by kernel_rfl) (fun _ _ _ h => h) (Or.inl ⟨by rfl, ?_⟩) (by assumption) ?_; rotate_left; (focus ((intro W hSW); (try dsimp only at hSW); (try go_split_ands); go_simp; (try (with_reducible rfl)); done))) | (refine Reg.take 7 (v := undef) rfl (by kernel_rfl) (by kernel_rfl) (by kernel_rfl) (fun _ _ _ h => h) (Or.inr ⟨by rfl, rfl⟩) (by assumption) ?_))
    (try simp only [Act.put, List.setIfInBounds_toArray, List.set_cons_zero, List.set_cons_succ])
    (first | (refine Reg.take 8 (v := ?_) rfl (by kernel_rfl) (by kernel_rfl) (by kernel_rfl) (fun _ _ _ h => h) (Or.inl ⟨by rfl, ?_⟩) (by assumption) ?_; rotate_left; (focus ((intro W hSW); (try dsimp only at hSW); (try go_split_ands); go_simp; (try (with_reducible rfl)); done))) | (refine Reg.take 8 (v := undef) rfl (by kernel_rfl) (by kernel_rfl) (by kernel_rfl) (fun _ _ _ h => h) (Or.inr ⟨by rfl, rfl⟩) (by assumption) ?_))
    (try simp only [Act.put, List.setIfInBounds_toArray, List.set_cons_zero, List.set_cons_succ])
    (first | (refine Reg.take 9 (v := ?_) rfl (by kernel_rfl) (by kernel_rfl) (by kernel_rfl) (fun _ _ _ h => h) (Or.inl ⟨by rfl, ?_⟩) (by assumption) ?_; rotate_left; (focus ((intro W hSW); (try dsimp only at hSW); (try go_split_ands); go_simp; (try (with_reducible rfl)); done))) | (refine Reg.take 9 (v := undef) rfl (by kernel_rfl) (by kernel_rfl) (by kernel_rfl) (fun _ _ _ h => h) (Or.inr ⟨by rfl, rfl⟩) (by assumption) ?_))
    (try simp only [Act.put, List.setIfInBounds_toArray, List.set_cons_zero, List.set_cons_succ])
    (first | (refine Reg.take 10 (v := ?_) rfl (by kernel_rfl) (by kernel_rfl) (by kernel_rfl) (fun _ _ _ h => h) (Or.inl ⟨by rfl, ?_⟩) (by assumption) ?_; rotate_left; (focus ((intro W hSW); (try dsimp only at hSW); (try go_split_ands); go_simp; (try (with_reducible rfl)); done))) | (refine Reg.take 10 (v := undef) rfl (by kernel_rfl) (by kernel_rfl) (by kernel_rfl) (fun _ _ _ h => h) (Or.inr ⟨by rfl, rfl⟩) (by assumption) ?_))
    (try simp only [Act.put, List.setIfInBounds_toArray, List.set_cons_zero, List.set_cons_succ])
    (first | (refine Reg.take 11 (v := ?_) rfl (by kernel_rfl) (by kernel_rfl) (by kernel_rfl) (fun _ _ _ h => h) (Or.inl ⟨by rfl, ?_⟩) (by assumption) ?_; rotate_left; (focus ((intro W hSW); (try dsimp only at hSW); (try go_split_ands); go_simp; (try (with_reducible rfl)); done))) | (refine Reg.take 11 (v := undef) rfl (by kernel_rfl) (by kernel_rfl) (by kernel_rfl) (fun _ _ _ h => h) (Or.inr ⟨by rfl, rfl⟩) (by assumption) ?_))
    (try simp only [Act.put, List.setIfInBounds_toArray, List.set_cons_zero, List.set_cons_succ])
    (first | (refine Reg.take 12 (v := ?_) rfl (by kernel_rfl) (by kernel_rfl) (by kernel_rfl) (fun _ _ _ h => h) (Or.inl ⟨by rfl, ?_⟩) (by assumption) ?_; rotate_left; (focus ((intro W hSW); (try dsimp only at hSW); (try go_split_ands); go_simp; (try (with_reducible rfl)); done))) | (refine Reg.take 12 (v := undef) rfl (by kernel_rfl) (by kernel_rfl) (by kernel_rfl) (fun _ _ _ h => h) (Or.inr ⟨by rfl, rfl⟩) (by assumption) ?_))
    (try simp only [Act.put, List.setIfInBounds_toArray, List.set_cons_zero, List.set_cons_succ])
    (first | (refine Reg.take 13 (v := ?_) rfl (by kernel_rfl) (by kernel_rfl) (by kernel_rfl) (fun _ _ _ h => h) (Or.inl ⟨by rfl, ?_⟩) (by assumption) ?_; rotate_left; (focus ((intro W hSW); (try dsimp only at hSW); (try go_split_ands); go_simp; (try (with_reducible rfl)); done))) | (refine Reg.take 13 (v := undef) rfl (by kernel_rfl) (by kernel_rfl) (by kernel_rfl) (fun _ _ _ h => h) (Or.inr ⟨by rfl, rfl⟩) (by assumption) ?_))
    (try simp only [Act.put, List.setIfInBounds_toArray, List.set_cons_zero, List.set_cons_succ])
    (first | (refine Reg.take 14 (v := ?_) rfl (by kernel_rfl) (by kernel_rfl) (by kernel_rfl) (fun _ _ _ h => h) (Or.inl ⟨by rfl, ?_⟩) (by assumption) ?_; rotate_left; (focus ((intro W hSW); (try dsimp only at hSW); (try go_split_ands); go_simp; (try (with_reducible rfl)); done))) | (refine Reg.take 14 (v := undef) rfl (by kernel_rfl) (by kernel_rfl) (by kernel_rfl) (fun _ _ _ h => h) (Or.inr ⟨by rfl, rfl⟩) (by assumption) ?_))
    (try simp only [Act.put, List.setIfInBounds_toArray, List.set_cons_zero, List.set_cons_succ])
    (first | (refine Reg.take 15 (v := ?_) rfl (by kernel_rfl) (by kernel_rfl) (by kernel_rfl) (fun _ _ _ h => h) (Or.inl ⟨by rfl, ?_⟩) (by assumption) ?_; rotate_left; (focus ((intro W hSW); (try dsimp only at hSW); (try go_split_ands); go_simp; (try (with_reducible rfl)); done))) | (refine Reg.take 15 (v := undef) rfl (by kernel_rfl) (by kernel_rfl) (by kernel_rfl) (fun _ _ _ h => h) (Or.inr ⟨by rfl, rfl⟩) (by assumption) ?_))
    (try simp only [Act.put, List.setIfInBounds_toArray, List.set_cons_zero, List.set_cons_succ])
    refine Reg.step2 16 20 rfl rfl (by kernel_rfl) (by rfl) (by rfl) (fun K hK => ?_) (fun K hK => ?_)
    · skip
      go_simp
      refine (HC w2 L2.out).out.mono ?_
      rintro e w3 ⟨A', a', rfl, hR, hO, hb⟩
      have L3 := Lib.hid (L2.out.trans (hb.mono L2.out.size))
      have OT3 := Lib.hid (Lea.OwnsL.mono hO L2.out.size)
      clear hb hR hO
      clear L2 
      refine hK.out _ _ (HS _ L3.out) (fun hHeld3 => ?_)
      clear hK K
      (try simp only [Act.put, List.setIfInBounds_toArray, List.set_cons_zero, List.set_cons_succ])
      (first | (refine Reg.take 17 (v := ?_) rfl (by kernel_rfl) (by kernel_rfl) (by kernel_rfl) (fun _ _ _ h => h) (Or.inl ⟨by rfl, ?_⟩) (by assumption) ?_; rotate_left; (focus ((intro W hSW); (try dsimp only at hSW); (try go_split_ands); go_simp; (try (with_reducible rfl)); done))) | (refine Reg.take 17 (v := undef) rfl (by kernel_rfl) (by kernel_rfl) (by kernel_rfl) (fun _ _ _ h => h) (Or.inr ⟨by rfl, rfl⟩) (by assumption) ?_))
      (try simp only [Act.put, List.setIfInBounds_toArray, List.set_cons_zero, List.set_cons_succ])
      (first | (refine Reg.take 18 (v := ?_) rfl (by kernel_rfl) (by kernel_rfl) (by kernel_rfl) (fun _ _ _ h => h) (Or.inl ⟨by rfl, ?_⟩) (by assumption) ?_; rotate_left; (focus ((intro W hSW); (try dsimp only at hSW); (try go_split_ands); go_simp; (try (with_reducible rfl)); done))) | (refine Reg.take 18 (v := undef) rfl (by kernel_rfl) (by kernel_rfl) (by kernel_rfl) (fun _ _ _ h => h) (Or.inr ⟨by rfl, rfl⟩) (by assumption) ?_))
      (try simp only [Act.put, List.setIfInBounds_toArray, List.set_cons_zero, List.set_cons_succ])
      (first | (refine Reg.take 19 (v := ?_) rfl (by kernel_rfl) (by kernel_rfl) (by kernel_rfl) (fun _ _ _ h => h) (Or.inl ⟨by rfl, ?_⟩) (by assumption) ?_; rotate_left; (focus ((intro W hSW); (try dsimp only at hSW); (try go_split_ands); go_simp; (try (with_reducible rfl)); done))) | (refine Reg.take 19 (v := undef) rfl (by kernel_rfl) (by kernel_rfl) (by kernel_rfl) (fun _ _ _ h => h) (Or.inr ⟨by rfl, rfl⟩) (by assumption) ?_))
      (try simp only [Act.put, List.setIfInBounds_toArray, List.set_cons_zero, List.set_cons_succ])
      refine Reg.step 20 rfl (by kernel_rfl) (by rfl) (fun K hK => ?_)
      go_simp
      have bb : Below w3.heap.size w3 (w3.alloc (.cells #[.int .i64 0, .int .i64 0, .slice none 0 0] 27)) := (Below.refl _ w3).alloc (Nat.le_refl _) _
      have L4 := Lib.hid (L3.out.trans (bb.mono L3.out.size))
      have XT4 : Hid (Cells (w3.alloc (.cells #[.int .i64 0, .int .i64 0, .slice none 0 0] 27)) w3.heap.size 27 #[.int .i64 0, .int .i64 0, .slice none 0 0]) := Cells.new w3 _ _
      have GT : Hid (w1.heap.size ≤ w3.heap.size) := L3.out.size
      have ZTT : Hid ((Value.slice A' r.1.l.length a').ownBlock ≠ some w3.heap.size) := fun e => by have h1 := (Lea.OwnsL.lt OT3.out _ e).2; omega
      have OT4 := Lib.hid (Lea.OwnsL.below OT3.out bb)
      clear bb
      clear L3 OT3
      refine hK.out _ _ (HS _ L4.out) (fun hHeld4 => ?_)
      clear hK K
      (try simp only [Act.put, List.setIfInBounds_toArray, List.set_cons_zero, List.set_cons_succ])
      generalize w3.alloc (.cells #[.int .i64 0, .int .i64 0, .slice none 0 0] 27) = w4 at *
      generalize w3.heap.size = pT at *
      refine Reg.step 21 rfl (by kernel_rfl) (by rfl) (fun K hK => ?_)
      have y0 : w4.cell? ⟨pT, 0, none⟩ = some _ := Lea.Cells.cell XT4.out 0
      have f0 : w4.frozen? ⟨pT, 0, none⟩ = false := Lea.Cells.frozen XT4.out 0
      have y1 : w4.cell? ⟨pT, 1, none⟩ = some _ := Lea.Cells.cell XT4.out 1
      have f1 : w4.frozen? ⟨pT, 1, none⟩ = false := Lea.Cells.frozen XT4.out 1
      have y2 : w4.cell? ⟨pT, 2, none⟩ = some _ := Lea.Cells.cell XT4.out 2
      have f2 : w4.frozen? ⟨pT, 2, none⟩ = false := Lea.Cells.frozen XT4.out 2
      go_simp
      clear y0 f0 y1 f1 y2 f2
      have bt := Lea.But.set3 w4 pT (.int .i64 r.1.last) (.int .i64 r.1.now) (.slice A' r.1.l.length a')
      have L5 := Lib.hid (L4.out.trans (bt.below L4.out.size GT.out))
      have XT5 := Lib.hid (Lea.Cells.set3 XT4.out (.int .i64 r.1.last) (.int .i64 r.1.now) (.slice A' r.1.l.length a'))
      have OT5 := Lib.hid (Lea.OwnsL.kept OT4.out bt.by_ (.inr ZTT.out))
      clear bt
      clear L4 XT4 OT4
      refine hK.out _ _ (HS _ L5.out) (fun hHeld5 => ?_)
      clear hK K
      (try simp only [Act.put, List.setIfInBounds_toArray, List.set_cons_zero, List.set_cons_succ])
      generalize ((w4.setCell ⟨pT, 0, none⟩ (.int .i64 r.1.last)).setCell ⟨pT, 1, none⟩ (.int .i64 r.1.now)).setCell ⟨pT, 2, none⟩ (.slice A' r.1.l.length a') = w5 at *
      (first | (refine Reg.take 22 (v := ?_) rfl (by kernel_rfl) (by kernel_rfl) (by kernel_rfl) (fun _ _ _ h => h) (Or.inl ⟨by rfl, ?_⟩) (by assumption) ?_; rotate_left; (focus ((intro W hSW); (try dsimp only at hSW); (try go_split_ands); go_simp; (try (with_reducible rfl)); done))) | (refine Reg.take 22 (v := undef) rfl (by kernel_rfl) (by kernel_rfl) (by kernel_rfl) (fun _ _ _ h => h) (Or.inr ⟨by rfl, rfl⟩) (by assumption) ?_))
      (try simp only [Act.put, List.setIfInBounds_toArray, List.set_cons_zero, List.set_cons_succ])
      refine wpAnyH_done (by kernel_rfl) ?_ _
      go_wp2_with fail
      go_meet
      exact ⟨pT, A', a', rfl, rfl, XT5.out, OT5.out, L5.out⟩
    · skip
      go_simp
      have bb : Below w2.heap.size w2 (w2.alloc (.cells #[.int .i64 0, .int .i64 0, .slice none 0 0] 27)) := (Below.refl _ w2).alloc (Nat.le_refl _) _
      have L3 := Lib.hid (L2.out.trans (bb.mono L2.out.size))
      have XT3 : Hid (Cells (w2.alloc (.cells #[.int .i64 0, .int .i64 0, .slice none 0 0] 27)) w2.heap.size 27 #[.int .i64 0, .int .i64 0, .slice none 0 0]) := Cells.new w2 _ _
      have GT : Hid (w1.heap.size ≤ w2.heap.size) := L2.out.size
      clear bb
      clear L2 
      refine hK.out _ _ (HS _ L3.out) (fun hHeld3 => ?_)
      clear hK K
      (try simp only [Act.put, List.setIfInBounds_toArray, List.set_cons_zero, List.set_cons_succ])
      generalize w2.alloc (.cells #[.int .i64 0, .int .i64 0, .slice none 0 0] 27) = w3 at *
      generalize w2.heap.size = pT at *
      refine Reg.step 16 rfl (by kernel_rfl) (by rfl) (fun K hK => ?_)
      go_simp
      refine (HC w3 L3.out).out.mono ?_
      rintro e w4 ⟨A', a', rfl, hR, hO, hb⟩
      have L4 := Lib.hid (L3.out.trans (hb.mono L3.out.size))
      have XT4 := Lib.hid (Lea.Cells.below XT3.out hb)
      have OT4 := Lib.hid (Lea.OwnsL.mono hO L3.out.size)
      have ZTT : Hid ((Value.slice A' r.1.l.length a').ownBlock ≠ some pT) := fun e => by have h1 := (Lea.OwnsL.lt hO _ e).1; have h2 := Lea.Cells.lt XT3.out; omega
      clear hb hR hO
      clear L3 XT3
      refine hK.out _ _ (HS _ L4.out) (fun hHeld4 => ?_)
      clear hK K
      (try simp only [Act.put, List.setIfInBounds_toArray, List.set_cons_zero, List.set_cons_succ])
      (first | (refine Reg.take 17 (v := ?_) rfl (by kernel_rfl) (by kernel_rfl) (by kernel_rfl) (fun _ _ _ h => h) (Or.inl ⟨by rfl, ?_⟩) (by assumption) ?_; rotate_left; (focus ((intro W hSW); (try dsimp only at hSW); (try go_split_ands); go_simp; (try (with_reducible rfl)); done))) | (refine Reg.take 17 (v := undef) rfl (by kernel_rfl) (by kernel_rfl) (by kernel_rfl) (fun _ _ _ h => h) (Or.inr ⟨by rfl, rfl⟩) (by assumption) ?_))
      (try simp only [Act.put, List.setIfInBounds_toArray, List.set_cons_zero, List.set_cons_succ])
      (first | (refine Reg.take 18 (v := ?_) rfl (by kernel_rfl) (by kernel_rfl) (by kernel_rfl) (fun _ _ _ h => h) (Or.inl ⟨by rfl, ?_⟩) (by assumption) ?_; rotate_left; (focus ((intro W hSW); (try dsimp only at hSW); (try go_split_ands); go_simp; (try (with_reducible rfl)); done))) | (refine Reg.take 18 (v := undef) rfl (by kernel_rfl) (by kernel_rfl) (by kernel_rfl) (fun _ _ _ h => h) (Or.inr ⟨by rfl, rfl⟩) (by assumption) ?_))
      (try simp only [Act.put, List.setIfInBounds_toArray, List.set_cons_zero, List.set_cons_succ])
      (first | (refine Reg.take 19 (v := ?_) rfl (by kernel_rfl) (by kernel_rfl) (by kernel_rfl) (fun _ _ _ h => h) (Or.inl ⟨by rfl, ?_⟩) (by assumption) ?_; rotate_left; (focus ((intro W hSW); (try dsimp only at hSW); (try go_split_ands); go_simp; (try (with_reducible rfl)); done))) | (refine Reg.take 19 (v := undef) rfl (by kernel_rfl) (by kernel_rfl) (by kernel_rfl) (fun _ _ _ h => h) (Or.inr ⟨by rfl, rfl⟩) (by assumption) ?_))
      (try simp only [Act.put, List.setIfInBounds_toArray, List.set_cons_zero, List.set_cons_succ])
      refine Reg.step 21 rfl (by kernel_rfl) (by rfl) (fun K hK => ?_)
      have y0 : w4.cell? ⟨pT, 0, none⟩ = some _ := Lea.Cells.cell XT4.out 0
      have f0 : w4.frozen? ⟨pT, 0, none⟩ = false := Lea.Cells.frozen XT4.out 0
      have y1 : w4.cell? ⟨pT, 1, none⟩ = some _ := Lea.Cells.cell XT4.out 1
      have f1 : w4.frozen? ⟨pT, 1, none⟩ = false := Lea.Cells.frozen XT4.out 1
      have y2 : w4.cell? ⟨pT, 2, none⟩ = some _ := Lea.Cells.cell XT4.out 2
      have f2 : w4.frozen? ⟨pT, 2, none⟩ = false := Lea.Cells.frozen XT4.out 2
      go_simp
      clear y0 f0 y1 f1 y2 f2
      have bt := Lea.But.set3 w4 pT (.int .i64 r.1.last) (.int .i64 r.1.now) (.slice A' r.1.l.length a')
      have L5 := Lib.hid (L4.out.trans (bt.below L4.out.size GT.out))
      have XT5 := Lib.hid (Lea.Cells.set3 XT4.out (.int .i64 r.1.last) (.int .i64 r.1.now) (.slice A' r.1.l.length a'))
      have OT5 := Lib.hid (Lea.OwnsL.kept OT4.out bt.by_ (.inr ZTT.out))
      clear bt
      clear L4 XT4 OT4
      refine hK.out _ _ (HS _ L5.out) (fun hHeld5 => ?_)
      clear hK K
      (try simp only [Act.put, List.setIfInBounds_toArray, List.set_cons_zero, List.set_cons_succ])
      generalize ((w4.setCell ⟨pT, 0, none⟩ (.int .i64 r.1.last)).setCell ⟨pT, 1, none⟩ (.int .i64 r.1.now)).setCell ⟨pT, 2, none⟩ (.slice A' r.1.l.length a') = w5 at *
      (first | (refine Reg.take 22 (v := ?_) rfl (by kernel_rfl) (by kernel_rfl) (by kernel_rfl) (fun _ _ _ h => h) (Or.inl ⟨by rfl, ?_⟩) (by assumption) ?_; rotate_left; (focus ((intro W hSW); (try dsimp only at hSW); (try go_split_ands); go_simp; (try (with_reducible rfl)); done))) | (refine Reg.take 22 (v := undef) rfl (by kernel_rfl) (by kernel_rfl) (by kernel_rfl) (fun _ _ _ h => h) (Or.inr ⟨by rfl, rfl⟩) (by assumption) ?_))
      (try simp only [Act.put, List.setIfInBounds_toArray, List.set_cons_zero, List.set_cons_succ])
      refine wpAnyH_done (by kernel_rfl) ?_ _
      go_wp2_with fail
      go_meet
      exact ⟨pT, A', a', rfl, rfl, XT5.out, OT5.out, L5.out⟩
  case rest =>
    obtain ⟨pT, A', a', rfl, rfl, hP⟩ := hcut
    have XT := Lib.hid hP.out.1
    have OT := Lib.hid hP.out.2.1
    have LL3 := Lib.hid hP.out.2.2
    have G1 : Hid (w.heap.size ≤ w1.heap.size) := L1.out.size
    clear hP HC
    generalize wc = w3 at *
    obtain ⟨t0, t1, t2⟩ := Lea.TBox.cells XT.out
    rcases hz : (r.2 != 0)
    · have D3 := Lib.hid (D1.out.below LL3.out)
      have N3 := Lib.hid (Lea.Cells.below N1.out LL3.out)
      obtain ⟨m0, m1, m2, m3, m4, m5, m6⟩ := seven D3.out.box
      obtain ⟨f0, f1, f2, -⟩ := seven_frozen D3.out.box
      have D4 := Lib.hid (D3.out.setT (last := r.1.last) (now := r.1.now) (OT.out.mono (Nat.le_trans H0.out.low G1.out)))
      have bt := Lea.But.set3 w3 g (.int .i64 r.1.last) (.int .i64 r.1.now) (.slice A' r.1.l.length a')
      have N4 := Lib.hid (Lea.Cells.but N3.out bt (cells_ne N3.out D3.out.box (by decide)))
      have M4 : Hid (Move base g (oL x) (oW x) (Value.slice A' r.1.l.length a').ownBlock (oW x) w (((w3.setCell ⟨g, 0, none⟩ (.int .i64 r.1.last)).setCell ⟨g, 1, none⟩ (.int .i64 r.1.now)).setCell ⟨g, 2, none⟩ (.slice A' r.1.l.length a'))) := by
        refine Move.new ((Move.of_below (L1.out.trans (LL3.out.mono L1.out.size)) H0.out.low).trans (Move.box bt H0.out.le D3.out.low)) (.inr fun k e => ?_) (.inl rfl)
        have h1 := (Lea.OwnsL.lt OT.out k e).1
        have h2 := G1.out
        omega
      clear bt D3 N3 OT
      go_upto_region 5 with fail
      clear m0 m1 m2 m3 m4 m5 m6 f0 f1 f2 t0 t1 t2 XT
      generalize ((w3.setCell ⟨g, 0, none⟩ (.int .i64 r.1.last)).setCell ⟨g, 1, none⟩ (.int .i64 r.1.now)).setCell ⟨g, 2, none⟩ (.slice A' r.1.l.length a') = w4 at *
      obtain ⟨n0, n1, n2⟩ := ABox.cells N4.out
      obtain ⟨f0, f1, f2⟩ := ABox.frozen N4.out
      go_wp2_with fail
      refine bodyPost_ret_by (results_cell_row rfl _ _ (w.heap.size + 1) _ _ _ _ rfl (ABox.store N4.out 0 0 none 0 0) Tryz.underlying39 rfl (by kernel_rfl)) rfl ?_
      rw [HPL.out, hz]
      exact acted_end (by omega) H0.out.low rfl D4.out N4.out M4.out (RowS.nil _ _ _) (fun k o e => by cases e) rfl rfl
    · skip
      go_wp2_with fail
      refine (HRF r.2 w3).out.mono ?_
      rintro e' w4 ⟨rfl, hb⟩
      have LL4 := Lib.hid (LL3.out.trans (hb.mono LL3.out.size))
      have D4 := Lib.hid (D1.out.below LL4.out)
      have N4 := Lib.hid (Lea.Cells.below N1.out LL4.out)
      clear hb
      obtain ⟨n0, n1, n2⟩ := ABox.cells N4.out
      obtain ⟨f0, f1, f2⟩ := ABox.frozen N4.out
      go_wp2_with fail
      refine bodyPost_ret_by (results_cell_row rfl _ _ (w.heap.size + 1) _ _ _ _ rfl (ABox.store N4.out r.2 0 none 0 0) Tryz.underlying39 rfl (by kernel_rfl)) rfl ?_
      rw [HPL.out, hz]
      exact acted_bad (by omega) H0.out.low D4.out N4.out (L1.out.trans (LL4.out.mono L1.out.size)) r.2
end Coo
end Go.Proofs.YtmflngclncidjaaGreat
/-
  A WALK OVER do: an event by the act of its kind. (Written by gen_coodo.py.)
-/
namespace Go.Proofs.YtmflngclncidjaaGreat
open Go.RowKit Mem
namespace Coo
open Lea (Cells But OneBox Lv Tv)
open Spa (Sp)

set_option maxRecDepth 100000 in
set_option maxHeartbeats 12800000 in
theorem do_new {base g r N : Nat} {x : Cx} {w : World} {e : Ev} (h : Desk base w g x) (ha : Acts w r g) (hi : Inv x.p) (hbd : Bd x.p N) (hN : N ≤ 100000) (hk : knownB e.d = false) :
    Calls Tryz.prog 34 #[.pointer (some ⟨g, 0, none⟩), evv e, .map (some r)] w (Acted base g x w (doC x.p e)) := by
  have hn : x.n ≤ 100000 := by have h1 := h.l.2; have h2 := hbd.len; omega
  have hm : x.m ≤ 400000 := by have h1 := h.s.2; have h2 := hi.slen hbd; omega
  have hq : x.q ≤ 100000 := by have h1 := h.f.2; have h2 := hbd.wlen; omega
  have HK := fun w (ha : Acts w r g) (hk : knownB e.d = true) => run_lookup_act ha hk
  have HNK := fun w (ha : Acts w r g) (hk : knownB e.d = false) => run_lookup_new ha hk
  have H0 := Lib.hid h
  have A0 := Lib.hid ha
  obtain ⟨L1, E1, N1⟩ := two_new w e
  have HRF := fun er w => Lib.hid (refused_any er w)
  have HH := fun w => Lib.hid (host_any e.host w)
  have HPL : Hid (doC x.p e = bad x.p 1) := by show _ = _; unfold doC mayE; rw [hk]; rfl
  go_enter Tryz.func34, Tryz.ntmps34
  go_upto_region 1 with fail
  generalize (w.alloc (.cells #[.int .i64 e.d, .int .i64 e.host, .int .i64 e.zone, .int .i64 e.epoch, .int .i64 e.fr, .int .i64 e.to, .int .i64 e.now, .int .i64 e.key] 36)).alloc (.cells #[.int .i64 0, .int .i64 0, .slice none 0 0] 39) = w1 at *
  have D1 := Lib.hid (H0.out.below L1.out)
  have A1 := Lib.hid (A0.out.below L1.out)
  have LL1 : Hid (Below w1.heap.size w1 w1) := Below.refl _ _
  have HP : Hid (w.heap.size + 1 < w1.heap.size) := Lea.Cells.lt N1.out
  obtain ⟨y0, y1, y2, y3, y4, y5, y6, y7⟩ := EBox.cells E1.out
  have hlk := HNK w1 A1.out hk
  clear HNK HK
  go_wp2_with fail
  refine (HRF 1 w1).out.mono ?_
  rintro e' w2 ⟨rfl, hb⟩
  have LL2 := Lib.hid (LL1.out.trans (hb.mono LL1.out.size))
  have D2 := Lib.hid (D1.out.below LL2.out)
  have N2 := Lib.hid (Lea.Cells.below N1.out LL2.out)
  clear hb
  obtain ⟨n0, n1, n2⟩ := ABox.cells N2.out
  obtain ⟨f0, f1, f2⟩ := ABox.frozen N2.out
  go_wp2_with fail
  refine bodyPost_ret_by (results_cell_row rfl _ _ (w.heap.size + 1) _ _ _ _ rfl (ABox.store N2.out 1 0 none 0 0) Tryz.underlying39 rfl (by kernel_rfl)) rfl ?_
  rw [HPL.out]
  exact acted_bad (by omega) H0.out.low D2.out N2.out (L1.out.trans (LL2.out.mono L1.out.size)) 1

set_option maxRecDepth 100000 in
set_option maxHeartbeats 12800000 in
theorem do_host {base g r N : Nat} {x : Cx} {w : World} {e : Ev} (h : Desk base w g x) (ha : Acts w r g) (hi : Inv x.p) (hbd : Bd x.p N) (hN : N ≤ 100000) (hk : knownB e.d = true) (h6 : e.d ≠ 6) (hh : hostB e.host = false) :
    Calls Tryz.prog 34 #[.pointer (some ⟨g, 0, none⟩), evv e, .map (some r)] w (Acted base g x w (doC x.p e)) := by
  have hn : x.n ≤ 100000 := by have h1 := h.l.2; have h2 := hbd.len; omega
  have hm : x.m ≤ 400000 := by have h1 := h.s.2; have h2 := hi.slen hbd; omega
  have hq : x.q ≤ 100000 := by have h1 := h.f.2; have h2 := hbd.wlen; omega
  have HK := fun w (ha : Acts w r g) (hk : knownB e.d = true) => run_lookup_act ha hk
  have HNK := fun w (ha : Acts w r g) (hk : knownB e.d = false) => run_lookup_new ha hk
  have H0 := Lib.hid h
  have A0 := Lib.hid ha
  obtain ⟨L1, E1, N1⟩ := two_new w e
  have HRF := fun er w => Lib.hid (refused_any er w)
  have HH := fun w => Lib.hid (host_any e.host w)
  have HPL : Hid (doC x.p e = bad x.p 1) := by
    show _ = _
    unfold doC mayE
    rw [hk, hh, beq_eq_false_iff_ne.2 h6]; rfl
  have e6 : (e.d != 6) = true := bne_iff_ne.2 h6
  rw [hh] at HH
  go_enter Tryz.func34, Tryz.ntmps34
  go_upto_region 1 with fail
  generalize (w.alloc (.cells #[.int .i64 e.d, .int .i64 e.host, .int .i64 e.zone, .int .i64 e.epoch, .int .i64 e.fr, .int .i64 e.to, .int .i64 e.now, .int .i64 e.key] 36)).alloc (.cells #[.int .i64 0, .int .i64 0, .slice none 0 0] 39) = w1 at *
  have D1 := Lib.hid (H0.out.below L1.out)
  have A1 := Lib.hid (A0.out.below L1.out)
  have LL1 : Hid (Below w1.heap.size w1 w1) := Below.refl _ _
  have HP : Hid (w.heap.size + 1 < w1.heap.size) := Lea.Cells.lt N1.out
  obtain ⟨y0, y1, y2, y3, y4, y5, y6, y7⟩ := EBox.cells E1.out
  have hlk := HK w1 A1.out hk
  clear HNK HK h6
  generalize actF e.d = fa at *
  go_wp2_with fail
  refine (HH w1).out.mono ?_
  rintro e' w2 ⟨rfl, hw2⟩
  obtain rfl := hw2.symm
  go_wp2_with fail
  refine (HRF 1 w1).out.mono ?_
  rintro e' w2 ⟨rfl, hb⟩
  have LL2 := Lib.hid (LL1.out.trans (hb.mono LL1.out.size))
  have D2 := Lib.hid (D1.out.below LL2.out)
  have N2 := Lib.hid (Lea.Cells.below N1.out LL2.out)
  clear hb
  obtain ⟨n0, n1, n2⟩ := ABox.cells N2.out
  obtain ⟨f0, f1, f2⟩ := ABox.frozen N2.out
  go_wp2_with fail
  refine bodyPost_ret_by (results_cell_row rfl _ _ (w.heap.size + 1) _ _ _ _ rfl (ABox.store N2.out 1 0 none 0 0) Tryz.underlying39 rfl (by kernel_rfl)) rfl ?_
  rw [HPL.out]
  exact acted_bad (by omega) H0.out.low D2.out N2.out (L1.out.trans (LL2.out.mono L1.out.size)) 1

set_option maxRecDepth 100000 in
set_option maxHeartbeats 12800000 in
theorem do_known {base g r N : Nat} {x : Cx} {w : World} {e : Ev} (h : Desk base w g x) (ha : Acts w r g) (hi : Inv x.p) (hbd : Bd x.p N) (hN : N ≤ 100000) (hk : knownB e.d = true) (h6 : e.d ≠ 6) (hh : hostB e.host = true) {fa : Nat} (hfa : actF e.d = fa) (eg : ∀ args w, (callFunc fa args).run Tryz.prog w = .ok (.enter fa args) w) (HX0 : ∀ W, Desk base W g x → Calls Tryz.prog fa #[.pointer (some ⟨g, 0, none⟩), evv e] W (Acted base g x W (actC x.p e))) :
    Calls Tryz.prog 34 #[.pointer (some ⟨g, 0, none⟩), evv e, .map (some r)] w (Acted base g x w (doC x.p e)) := by
  have hn : x.n ≤ 100000 := by have h1 := h.l.2; have h2 := hbd.len; omega
  have hm : x.m ≤ 400000 := by have h1 := h.s.2; have h2 := hi.slen hbd; omega
  have hq : x.q ≤ 100000 := by have h1 := h.f.2; have h2 := hbd.wlen; omega
  have HK := fun w (ha : Acts w r g) (hk : knownB e.d = true) => run_lookup_act ha hk
  have HNK := fun w (ha : Acts w r g) (hk : knownB e.d = false) => run_lookup_new ha hk
  have H0 := Lib.hid h
  have A0 := Lib.hid ha
  obtain ⟨L1, E1, N1⟩ := two_new w e
  have HRF := fun er w => Lib.hid (refused_any er w)
  have HH := fun w => Lib.hid (host_any e.host w)
  have HPL : Hid (doC x.p e = actC x.p e) := by
    show _ = _
    unfold doC mayE
    rw [hk, hh]; simp
  have e6 : (e.d != 6) = true := bne_iff_ne.2 h6
  rw [hh] at HH
  go_enter Tryz.func34, Tryz.ntmps34
  go_upto_region 1 with fail
  generalize (w.alloc (.cells #[.int .i64 e.d, .int .i64 e.host, .int .i64 e.zone, .int .i64 e.epoch, .int .i64 e.fr, .int .i64 e.to, .int .i64 e.now, .int .i64 e.key] 36)).alloc (.cells #[.int .i64 0, .int .i64 0, .slice none 0 0] 39) = w1 at *
  have D1 := Lib.hid (H0.out.below L1.out)
  have A1 := Lib.hid (A0.out.below L1.out)
  have LL1 : Hid (Below w1.heap.size w1 w1) := Below.refl _ _
  have HP : Hid (w.heap.size + 1 < w1.heap.size) := Lea.Cells.lt N1.out
  obtain ⟨y0, y1, y2, y3, y4, y5, y6, y7⟩ := EBox.cells E1.out
  have hlk := HK w1 A1.out hk
  rw [hfa] at hlk
  have HX := fun W (hW : Below w1.heap.size w1 W) => Lib.hid (HX0 W (D1.out.below hW))
  unfold Acted at HX
  clear HNK HK h6 HX0 hfa
  go_wp2_with fail
  refine (HH w1).out.mono ?_
  rintro e' w2 ⟨rfl, hw2⟩
  obtain rfl := hw2.symm
  go_wp2_with (go_at_fn fa; refine (HX w1 LL1.out).out.mono ?_; rintro e' w2 ⟨x', B, n, d, rfl, hx, hd, hr, hB, hm⟩; have NO : Off g (oL x) (oW x) (w.heap.size + 1) := Off.new H0.out (by omega); have N2 : Hid (ABox w2 (w.heap.size + 1) 0 0 none 0 0) := (hm.keep _ HP.out NO).1.trans N1.out; have HXX := Lib.hid hx; have HDD := Lib.hid hd; have HR := Lib.hid hr; have HB := Lib.hid hB; have HM := Lib.hid ((Move.of_below (g := g) (a := oL x) (b := oW x) L1.out H0.out.low).trans hm); clear hx hd hr hB hm NO; obtain ⟨n0, n1, n2⟩ := ABox.cells N2.out; obtain ⟨f0, f1, f2⟩ := ABox.frozen N2.out)
  refine bodyPost_ret_by (results_cell_row rfl _ _ (w.heap.size + 1) _ _ _ _ rfl (ABox.store N2.out _ _ B n d) Tryz.underlying39 rfl (by kernel_rfl)) rfl ?_
  rw [HPL.out]
  exact acted_end (by omega) H0.out.low HXX.out HDD.out N2.out HM.out HR.out (fun k o e => ⟨by have := (HB.out k o e).1; have := HP.out; omega, by have := (HB.out k o e).1; have := HP.out; omega, (HB.out k o e).2⟩) rfl rfl

set_option maxRecDepth 100000 in
set_option maxHeartbeats 12800000 in
theorem do_tick {base g r N : Nat} {x : Cx} {w : World} {e : Ev} (h : Desk base w g x) (ha : Acts w r g) (hi : Inv x.p) (hbd : Bd x.p N) (hN : N ≤ 100000) (h6 : e.d = 6) {fa : Nat} (hfa : actF e.d = fa) (eg : ∀ args w, (callFunc fa args).run Tryz.prog w = .ok (.enter fa args) w) (HX0 : ∀ W, Desk base W g x → Calls Tryz.prog fa #[.pointer (some ⟨g, 0, none⟩), evv e] W (Acted base g x W (actC x.p e))) :
    Calls Tryz.prog 34 #[.pointer (some ⟨g, 0, none⟩), evv e, .map (some r)] w (Acted base g x w (doC x.p e)) := by
  have hn : x.n ≤ 100000 := by have h1 := h.l.2; have h2 := hbd.len; omega
  have hm : x.m ≤ 400000 := by have h1 := h.s.2; have h2 := hi.slen hbd; omega
  have hq : x.q ≤ 100000 := by have h1 := h.f.2; have h2 := hbd.wlen; omega
  have HK := fun w (ha : Acts w r g) (hk : knownB e.d = true) => run_lookup_act ha hk
  have HNK := fun w (ha : Acts w r g) (hk : knownB e.d = false) => run_lookup_new ha hk
  have H0 := Lib.hid h
  have A0 := Lib.hid ha
  obtain ⟨L1, E1, N1⟩ := two_new w e
  have HRF := fun er w => Lib.hid (refused_any er w)
  have HH := fun w => Lib.hid (host_any e.host w)
  have hk : knownB e.d = true := by rw [h6]; rfl
  have HPL : Hid (doC x.p e = actC x.p e) := by
    show _ = _
    unfold doC mayE
    rw [hk, h6]; rfl
  have e6 : (e.d != 6) = false := by rw [h6]; rfl
  clear h6
  go_enter Tryz.func34, Tryz.ntmps34
  go_upto_region 1 with fail
  generalize (w.alloc (.cells #[.int .i64 e.d, .int .i64 e.host, .int .i64 e.zone, .int .i64 e.epoch, .int .i64 e.fr, .int .i64 e.to, .int .i64 e.now, .int .i64 e.key] 36)).alloc (.cells #[.int .i64 0, .int .i64 0, .slice none 0 0] 39) = w1 at *
  have D1 := Lib.hid (H0.out.below L1.out)
  have A1 := Lib.hid (A0.out.below L1.out)
  have LL1 : Hid (Below w1.heap.size w1 w1) := Below.refl _ _
  have HP : Hid (w.heap.size + 1 < w1.heap.size) := Lea.Cells.lt N1.out
  obtain ⟨y0, y1, y2, y3, y4, y5, y6, y7⟩ := EBox.cells E1.out
  have hlk := HK w1 A1.out hk
  rw [hfa] at hlk
  have HX := fun W (hW : Below w1.heap.size w1 W) => Lib.hid (HX0 W (D1.out.below hW))
  unfold Acted at HX
  clear HNK HK HX0 hfa
  go_wp2_with (go_at_fn fa; refine (HX w1 LL1.out).out.mono ?_; rintro e' w2 ⟨x', B, n, d, rfl, hx, hd, hr, hB, hm⟩; have NO : Off g (oL x) (oW x) (w.heap.size + 1) := Off.new H0.out (by omega); have N2 : Hid (ABox w2 (w.heap.size + 1) 0 0 none 0 0) := (hm.keep _ HP.out NO).1.trans N1.out; have HXX := Lib.hid hx; have HDD := Lib.hid hd; have HR := Lib.hid hr; have HB := Lib.hid hB; have HM := Lib.hid ((Move.of_below (g := g) (a := oL x) (b := oW x) L1.out H0.out.low).trans hm); clear hx hd hr hB hm NO; obtain ⟨n0, n1, n2⟩ := ABox.cells N2.out; obtain ⟨f0, f1, f2⟩ := ABox.frozen N2.out)
  refine bodyPost_ret_by (results_cell_row rfl _ _ (w.heap.size + 1) _ _ _ _ rfl (ABox.store N2.out _ _ B n d) Tryz.underlying39 rfl (by kernel_rfl)) rfl ?_
  rw [HPL.out]
  exact acted_end (by omega) H0.out.low HXX.out HDD.out N2.out HM.out HR.out (fun k o e => ⟨by have := (HB.out k o e).1; have := HP.out; omega, by have := (HB.out k o e).1; have := HP.out; omega, (HB.out k o e).2⟩) rfl rfl

set_option maxRecDepth 100000 in
set_option maxHeartbeats 3200000 in
/-- An event, whatever it is. -/
theorem do_any {base g r N : Nat} {x : Cx} {w : World} {e : Ev} (h : Desk base w g x) (ha : Acts w r g) (hi : Inv x.p) (hbd : Bd x.p N) (hN : N ≤ 100000) :
    Calls Tryz.prog 34 #[.pointer (some ⟨g, 0, none⟩), evv e, .map (some r)] w (Acted base g x w (doC x.p e)) := by
  rcases hk : knownB e.d
  · exact do_new h ha hi hbd hN hk
  by_cases h6 : e.d = 6
  · exact (fun hd => do_tick h ha hi hbd hN hd (fa := 48) (by rw [hd]; rfl) (enters_of Tryz.func48 (by kernel_rfl) rfl) (fun W hW => by
      have : actC x.p e = tickC x.p e := by unfold actC; rw [hd]; rfl
      rw [this]
      exact tick_act hW hi hbd hN)) h6
  rcases hh : hostB e.host
  · exact do_host h ha hi hbd hN hk h6 hh
  rcases known_of hk with hd | hd | hd | hd | hd | hd | hd | hd
  · exact (fun hd => do_known h ha hi hbd hN (by rw [hd]; rfl) (by omega) hh (fa := 43) (by rw [hd]; rfl) (enters_of Tryz.func43 (by kernel_rfl) rfl) (fun W hW => by
      have : actC x.p e = joinC x.p e := by unfold actC; rw [hd]; rfl
      rw [this]
      exact join_act hW hi hbd hN hh)) hd
  · exact (fun hd => do_known h ha hi hbd hN (by rw [hd]; rfl) (by omega) hh (fa := 44) (by rw [hd]; rfl) (enters_of Tryz.func44 (by kernel_rfl) rfl) (fun W hW => by
      have : actC x.p e = askC x.p e := by unfold actC; rw [hd]; rfl
      rw [this]
      exact ask_act hW hi hbd hN hh)) hd
  · exact (fun hd => do_known h ha hi hbd hN (by rw [hd]; rfl) (by omega) hh (fa := 45) (by rw [hd]; rfl) (enters_of Tryz.func45 (by kernel_rfl) rfl) (fun W hW => by
      have : actC x.p e = ackC x.p e := by unfold actC; rw [hd]; rfl
      rw [this]
      exact ack_act hW hi hbd hN hh)) hd
  · exact (fun hd => do_known h ha hi hbd hN (by rw [hd]; rfl) (by omega) hh (fa := 46) (by rw [hd]; rfl) (enters_of Tryz.func46 (by kernel_rfl) rfl) (fun W hW => by
      have : actC x.p e = giveC x.p e := by unfold actC; rw [hd]; rfl
      rw [this]
      exact give_act hW hi hbd hN hh)) hd
  · exact (fun hd => do_known h ha hi hbd hN (by rw [hd]; rfl) (by omega) hh (fa := 47) (by rw [hd]; rfl) (enters_of Tryz.func47 (by kernel_rfl) rfl) (fun W hW => by
      have : actC x.p e = electC x.p e := by unfold actC; rw [hd]; rfl
      rw [this]
      exact elect_act hW hi hbd hN hh)) hd
  · exact absurd hd h6
  · exact (fun hd => do_known h ha hi hbd hN (by rw [hd]; rfl) (by omega) hh (fa := 49) (by rw [hd]; rfl) (enters_of Tryz.func49 (by kernel_rfl) rfl) (fun W hW => by
      have : actC x.p e = renewC x.p e := by unfold actC; rw [hd]; rfl
      rw [this]
      exact renew_act hW hi hbd hN hh)) hd
  · exact (fun hd => do_known h ha hi hbd hN (by rw [hd]; rfl) (by omega) hh (fa := 50) (by rw [hd]; rfl) (enters_of Tryz.func50 (by kernel_rfl) rfl) (fun W hW => by
      have : actC x.p e = leaveC x.p e := by unfold actC; rw [hd]; rfl
      rw [this]
      exact leave_act hW hi hbd hN hh)) hd
end Coo
end Go.Proofs.YtmflngclncidjaaGreat
/-
  WALKS slices.Clone over fences. (Written by gen_coocopy.py.)
-/
namespace Go.Proofs.YtmflngclncidjaaGreat
open Go.RowKit Mem
namespace Coo
open Lea (Cells But OneBox)
theorem run_eql_nil (w : World) (A : Option Addr) (n c : Nat) : (binOp .eql 29 (.slice A n c) (.slice none 0 0)).run Tryz.prog w = .ok (.bool A.isNone) w :=
  Go.run_eql_slice_nil w _ _ A n c Tryz.underlying29

set_option maxRecDepth 100000 in
set_option maxHeartbeats 1600000 in
theorem clone_any {A : Option Addr} {n c : Nat} {l : List Fv} {w : World} (h : RowF w A n c l) (hn : n ≤ 1000000) :
    Calls Tryz.prog 42 #[.slice A n c] w fun e w' => (∃ B d, e = .returned (.slice B n d) ∧ OwnsF w.heap.size w' (.slice B n d) n l) ∧ Below w.heap.size w w' := by
  have HR := Lib.hid h
  have hb := h.big
  clear h
  have hq := fun w => run_eql_nil w A n c
  rcases A with _ | a
  · have hn : n = 0 := by
      rcases Nat.eq_zero_or_pos n with h0 | h0
      · exact h0
      · obtain ⟨b, o, e, -⟩ := HR.out.at_ h0
        cases e
    have hl : l = [] := List.eq_nil_of_length_eq_zero (by rw [HR.out.len, hn])
    subst hn hl
    have hd : (none : Option Addr).isNone = true := rfl
    rw [hd] at hq
    go_enter Tryz.func42, Tryz.ntmps42
    go_wp2
    go_ret
    exact ⟨⟨_, _, rfl, OwnsF.nil _ _⟩, Below.refl _ _⟩
  · have hd : (some a).isNone = false := rfl
    rw [hd] at hq
    have hmade : Hid (OwnsF w.heap.size (w.alloc (.cells #[] 51)) (.slice (some ⟨w.heap.size, 0, none⟩) 0 0) 0 []) := ⟨World.ownsRow_made w #[] 0 (Nat.le_refl _) (Nat.zero_le _) (by simp), rfl⟩
    go_enter Tryz.func42, Tryz.ntmps42
    go_wp2_with (at_builtin
                 refine wpList_append_f rfl (.tmp 5) (.tmp 6) rfl rfl w.heap.size _ 0 [] rfl hmade.out (some a) n c l rfl (RowS.alloc HR.out _) (by omega) (by simp) ?_
                 intro A' c' w' hown' hg' hb5
                 have O := Lib.hid (show OwnsF w.heap.size w' (.slice A' n c') n l by simpa using hown')
                 have B := Lib.hid (below_row hmade.out hg' (by simp))
                 clear hown' hg' hb5)
    go_ret
    exact ⟨⟨_, _, rfl, O.out⟩, ((Below.refl _ w).alloc (Nat.le_refl _) _).trans B.out⟩
end Coo
end Go.Proofs.YtmflngclncidjaaGreat
/-
  A WALK OVER newDesk. (Written by gen_cooall.py.)
-/
namespace Go.Proofs.YtmflngclncidjaaGreat
open Go.RowKit Mem
namespace Coo
open Lea (Cells But OneBox Lv Tv)
open Spa (Sp)

theorem cells_ne0 {w : World} {p p' : Nat} {t t' : TypeId} {cs cs' : Array Value} (h : Cells w p t cs) (h' : Cells w p' t' cs') (ht : t ≠ t') : p ≠ p' := by
  intro e
  subst e
  unfold Cells at h h'
  rw [h] at h'
  injection h' with h'
  injection h' with _ h'
  exact ht h'

set_option maxRecDepth 100000 in
set_option maxHeartbeats 6400000 in
theorem newDesk_any {x : Cx} {w : World} (h : CoordAt w x) (h1 : x.n ≤ 1000000) (h2 : x.m ≤ 1000000) (h3 : x.q ≤ 1000000) :
    Calls Tryz.prog 31 #[cxv x] w fun en w' => ∃ g x', en = .returned (.pointer (some ⟨g, 0, none⟩)) ∧ x'.p = x.p ∧ Desk w.heap.size w' g x' ∧ Below w.heap.size w w' := by
  have HR := Lib.hid h
  have HC1 := fun w (h : CoordAt w x) => Lib.hid (Lea.clone_any h.l h1)
  have HC2 := fun w (h : CoordAt w x) => Lib.hid (Spa.clone_any h.s h2)
  have HC3 := fun w (h : CoordAt w x) => Lib.hid (clone_any h.f h3)
  have L1 : Hid (Below w.heap.size w (w.alloc (.cells #[.int .i64 x.p.t.last, .int .i64 x.p.t.now, .slice x.A x.n x.a, .slice x.S x.m x.s, .slice x.W x.q x.k, .int .i64 x.p.ttl, .int .i64 x.p.zones] 31))) := (Below.refl w.heap.size w).alloc (Nat.le_refl _) _
  have B1 : Hid (CBox (w.alloc (.cells #[.int .i64 x.p.t.last, .int .i64 x.p.t.now, .slice x.A x.n x.a, .slice x.S x.m x.s, .slice x.W x.q x.k, .int .i64 x.p.ttl, .int .i64 x.p.zones] 31)) w.heap.size x) := Cells.new w _ _
  clear h
  go_enter Tryz.func31, Tryz.ntmps31
  go_upto_region 1 with fail
  have U1 : Hid (w.heap.size < (w.alloc (.cells #[.int .i64 x.p.t.last, .int .i64 x.p.t.now, .slice x.A x.n x.a, .slice x.S x.m x.s, .slice x.W x.q x.k, .int .i64 x.p.ttl, .int .i64 x.p.zones] 31)).heap.size) := by show _ < _; simp
  generalize w.alloc (.cells #[.int .i64 x.p.t.last, .int .i64 x.p.t.now, .slice x.A x.n x.a, .slice x.S x.m x.s, .slice x.W x.q x.k, .int .i64 x.p.ttl, .int .i64 x.p.zones] 31) = w1 at *
  have b2 : Below w1.heap.size w1 (w1.alloc (.cells #[.int .i64 x.p.t.last, .int .i64 x.p.t.now, .slice x.A x.n x.a, .slice x.S x.m x.s, .slice x.W x.q x.k, .int .i64 x.p.ttl, .int .i64 x.p.zones] 86)) := (Below.refl _ w1).alloc (Nat.le_refl _) _
  have K2 : Hid (KBox (w1.alloc (.cells #[.int .i64 x.p.t.last, .int .i64 x.p.t.now, .slice x.A x.n x.a, .slice x.S x.m x.s, .slice x.W x.q x.k, .int .i64 x.p.ttl, .int .i64 x.p.zones] 86)) w1.heap.size x) := Cells.new w1 _ _
  have B2 := Lib.hid (Lea.Cells.below B1.out b2)
  have L2 := Lib.hid (L1.out.trans (b2.mono L1.out.size))
  have HG : Hid (w.heap.size < w1.heap.size) := U1.out
  clear b2 U1
  obtain ⟨m0, m1, m2, m3, m4, m5, m6⟩ := seven B1.out
  go_upto_region 2 with fail
  clear m0 m1 m2 m3 m4 m5 m6
  generalize w1.alloc (.cells #[.int .i64 x.p.t.last, .int .i64 x.p.t.now, .slice x.A x.n x.a, .slice x.S x.m x.s, .slice x.W x.q x.k, .int .i64 x.p.ttl, .int .i64 x.p.zones] 86) = w2 at *
  generalize w1.heap.size = g at *
  obtain ⟨m0, m1, m2, m3, m4, m5, m6⟩ := seven B2.out
  go_wp2_with fail
  refine (HC1 w2 (HR.out.below L2.out)).out.mono ?_
  rintro e w3 ⟨⟨A', a', rfl, hO⟩, hb⟩
  have O3 := Lib.hid hO
  have K3 := Lib.hid (Lea.Cells.below K2.out hb)
  have B3 := Lib.hid (Lea.Cells.below B2.out hb)
  have L3 := Lib.hid (L2.out.trans (hb.mono L2.out.size))
  have G2 : Hid (g < w2.heap.size) := Lea.Cells.lt K2.out
  clear hb hO m0 m1 m2 m3 m4 m5 m6 K2 B2 L2
  have k2 := (seven K3.out).2.2.1
  have f2 := (seven_frozen K3.out).2.2.1
  have bt := Lea.But.set1 w3 g 2 (.slice A' x.n a')
  have K4 : Hid (Cells (w3.setCell ⟨g, 2, none⟩ (.slice A' x.n a')) g 86 #[.int .i64 x.p.t.last, .int .i64 x.p.t.now, .slice A' x.n a', .slice x.S x.m x.s, .slice x.W x.q x.k, .int .i64 x.p.ttl, .int .i64 x.p.zones]) := Lea.Cells.set_ K3.out 2 _
  have B4 := Lib.hid (Lea.Cells.but B3.out bt (cells_ne0 B3.out K3.out (by decide)))
  have O4 := Lib.hid (Lea.OwnsL.but O3.out bt G2.out)
  have L4 := Lib.hid (L3.out.trans (bt.below L3.out.size (Nat.le_of_lt HG.out)))
  clear bt
  go_upto_region 3 with fail
  clear k2 f2 K3 B3 O3 L3
  generalize w3.setCell ⟨g, 2, none⟩ (.slice A' x.n a') = w4 at *
  obtain ⟨m0, m1, m2, m3, m4, m5, m6⟩ := seven B4.out
  go_wp2_with fail
  refine (HC2 w4 (HR.out.below L4.out)).out.mono ?_
  rintro e w5 ⟨⟨S', s', rfl, hO⟩, hb⟩
  have P5 := Lib.hid hO
  have K5 := Lib.hid (Lea.Cells.below K4.out hb)
  have B5 := Lib.hid (Lea.Cells.below B4.out hb)
  have L5 := Lib.hid (L4.out.trans (hb.mono L4.out.size))
  have O5 := Lib.hid (Lea.OwnsL.below O4.out hb)
  have G4 : Hid (g < w4.heap.size) := Lea.Cells.lt K4.out
  clear hb hO m0 m1 m2 m3 m4 m5 m6 K4 B4 L4 O4
  have k3 : w5.cell? ⟨g, 3, none⟩ = some (.slice x.S x.m x.s) := Lea.Cells.cell K5.out 3
  have f3 : w5.frozen? ⟨g, 3, none⟩ = false := Lea.Cells.frozen K5.out 3
  have bt := Lea.But.set1 w5 g 3 (.slice S' x.m s')
  have K6 : Hid (Cells (w5.setCell ⟨g, 3, none⟩ (.slice S' x.m s')) g 86 #[.int .i64 x.p.t.last, .int .i64 x.p.t.now, .slice A' x.n a', .slice S' x.m s', .slice x.W x.q x.k, .int .i64 x.p.ttl, .int .i64 x.p.zones]) := Lea.Cells.set_ K5.out 3 _
  have B6 := Lib.hid (Lea.Cells.but B5.out bt (cells_ne0 B5.out K5.out (by decide)))
  have O6 := Lib.hid (Lea.OwnsL.but O5.out bt G2.out)
  have P6 := Lib.hid (Spa.OwnsL.but P5.out ⟨bt.by_⟩ G4.out)
  have L6 := Lib.hid (L5.out.trans (bt.below L5.out.size (Nat.le_of_lt HG.out)))
  clear bt
  go_upto_region 4 with fail
  clear k3 f3 K5 B5 O5 P5 L5
  generalize w5.setCell ⟨g, 3, none⟩ (.slice S' x.m s') = w6 at *
  obtain ⟨m0, m1, m2, m3, m4, m5, m6⟩ := seven B6.out
  go_wp2_with fail
  refine (HC3 w6 (HR.out.below L6.out)).out.mono ?_
  rintro e w7 ⟨⟨W', k', rfl, hO⟩, hb⟩
  have Q7 := Lib.hid hO
  have K7 := Lib.hid (Lea.Cells.below K6.out hb)
  have L7 := Lib.hid (L6.out.trans (hb.mono L6.out.size))
  have O7 := Lib.hid (Lea.OwnsL.below O6.out hb)
  have P7 := Lib.hid (Spa.OwnsL.below P6.out hb)
  have G6 : Hid (g < w6.heap.size) := Lea.Cells.lt K6.out
  have G24 : Hid (w.heap.size ≤ w2.heap.size ∧ w.heap.size ≤ w4.heap.size ∧ w.heap.size ≤ w6.heap.size) := ⟨by have := HG.out; have := G2.out; omega, by have := HG.out; have := G4.out; omega, by have := HG.out; have := G6.out; omega⟩
  clear hb hO m0 m1 m2 m3 m4 m5 m6 K6 L6 O6 P6
  have k4 : w7.cell? ⟨g, 4, none⟩ = some (.slice x.W x.q x.k) := Lea.Cells.cell K7.out 4
  have f4 : w7.frozen? ⟨g, 4, none⟩ = false := Lea.Cells.frozen K7.out 4
  have bt := Lea.But.set1 w7 g 4 (.slice W' x.q k')
  have K8 : Hid (KBox (w7.setCell ⟨g, 4, none⟩ (.slice W' x.q k')) g ⟨x.p, A', x.n, a', S', x.m, s', W', x.q, k'⟩) := Lea.Cells.set_ K7.out 4 _
  have O8 := Lib.hid ((Lea.OwnsL.but O7.out bt G2.out).mono G24.out.1)
  have P8 := Lib.hid ((Spa.OwnsL.but P7.out ⟨bt.by_⟩ G4.out).mono G24.out.2.1)
  have Q8 := Lib.hid ((OwnsF.but Q7.out bt G6.out).mono G24.out.2.2)
  have L8 := Lib.hid (L7.out.trans (bt.below L7.out.size (Nat.le_of_lt HG.out)))
  clear bt
  go_wp2_with fail
  go_ret
  exact ⟨g, ⟨x.p, A', x.n, a', S', x.m, s', W', x.q, k'⟩, rfl, rfl, ⟨K8.out, O8.out, P8.out, Q8.out, Nat.le_of_lt HG.out⟩, L8.out⟩
end Coo
end Go.Proofs.YtmflngclncidjaaGreat
/-
  ANSWERS: a row of them of one's own. (Written by gen_cooall.py out of the text on a device's answers.)
-/
namespace Go.Proofs.YtmflngclncidjaaGreat
open Go.RowKit Mem
namespace Coo
open Lea (Cells But OneBox Lv Tv)
open Spa (Sp)
/-- An answer as it lies. -/
structure Ax where
  p : An
  B : Option Addr
  n : Nat
  k : Nat
def cellsA (x : Ax) : List Value := [.int .i64 x.p.e, .int .i64 x.p.epoch, .slice x.B x.n x.k]
def OwnA (w : World) (q o : Nat) (es : List Ax) : Prop := ∃ cs, Cells w q 39 cs ∧ ∀ i x, es[i]? = some x → ∀ j u, (cellsA x)[j]? = some u → cs[o + i * 3 + j]? = some u
section
variable {w w' : World} {q o : Nat} {es : List Ax}
theorem OwnA.lt (h : OwnA w q o es) : q < w.heap.size := by obtain ⟨cs, h, -⟩ := h; exact Lea.Cells.lt h
theorem OwnA.heap (h : OwnA w q o es) (e : w'.heap[q]? = w.heap[q]?) : OwnA w' q o es := by obtain ⟨cs, h1, h2⟩ := h; exact ⟨cs, e.trans h1, h2⟩
theorem OwnA.below (h : OwnA w q o es) (hb : Below w.heap.size w w') : OwnA w' q o es := h.heap (hb.block q h.lt)
theorem OwnA.but {p : Nat} (h : OwnA w q o es) (hb : But p w w') (hn : q ≠ p) : OwnA w' q o es := h.heap (hb.block h.lt hn)
theorem OwnA.frozen (h : OwnA w q o es) (i : Nat) : w.frozen? ⟨q, i, none⟩ = false := by obtain ⟨cs, h1, -⟩ := h; exact Lea.Cells.frozen h1 i
theorem OwnA.cell (h : OwnA w q o es) {i : Nat} {x : Ax} (hx : es[i]? = some x) {j : Nat} {u : Value} (hu : (cellsA x)[j]? = some u) : w.cell? ⟨q, o + i * 3 + j, none⟩ = some u := by
  obtain ⟨cs, h1, h2⟩ := h
  rw [Lea.Cells.cell h1]
  exact h2 i x hx j u hu
theorem OwnA.set1 (h : OwnA w q o es) {i j : Nat} {x x' : Ax} {v : Value} (hx : es[i]? = some x) (hj : j < 3) (hc : cellsA x' = (cellsA x).set j v) : OwnA (w.setCell ⟨q, o + i * 3 + j, none⟩ v) q o (es.set i x') := by
  obtain ⟨cs, h1, h2⟩ := h
  refine ⟨_, Lea.heap_set h1 _ _, fun i2 y hy j2 u hu => ?_⟩
  have hj2 : j2 < 3 := by have := (List.getElem?_eq_some_iff.1 hu).1; simpa [cellsA] using this
  rw [List.getElem?_set] at hy
  by_cases hi : i = i2
  · subst hi
    have hil : i < es.length := (List.getElem?_eq_some_iff.1 hx).1
    rw [if_pos rfl, if_pos hil] at hy
    injection hy with hy
    subst hy
    rw [hc, List.getElem?_set] at hu
    by_cases hjj : j = j2
    · subst hjj
      rw [if_pos rfl, if_pos (by simpa [cellsA] using hj)] at hu
      injection hu with hu
      subst hu
      obtain ⟨u0, hu0⟩ : ∃ u, (cellsA x)[j]? = some u := ⟨_, List.getElem?_eq_getElem (by simpa [cellsA] using hj)⟩
      have hb := (Array.getElem?_eq_some_iff.1 (h2 i x hx j u0 hu0)).1
      simp [hb]
    · rw [if_neg hjj] at hu
      rw [Array.getElem?_setIfInBounds, if_neg (by omega)]
      exact h2 i x hx j2 u hu
  · rw [if_neg hi] at hy
    rw [Array.getElem?_setIfInBounds, if_neg (by omega)]
    exact h2 i2 y hy j2 u hu
theorem OwnA.row (h : OwnA w q o es) {n c : Nat} (hl : es.length = n) (hn : n ≤ c) (hb : n ≤ 1000) : RowS cellsA 3 w (some ⟨q, o, none⟩) n c es :=
  ⟨hl, hn, by omega, fun _ => ⟨_, _, rfl, h.lt, fun _ _ hx _ _ hu => h.cell hx hu⟩⟩
/-- One answer is written; bytes elsewhere stay. -/
theorem OwnA.store (h : OwnA w q o es) {i : Nat} {x : Ax} (x' : Ax) (hx : es[i]? = some x) :
    OwnA (((w.setCell ⟨q, o + i * 3, none⟩ (.int .i64 x'.p.e)).setCell ⟨q, o + i * 3 + 1, none⟩ (.int .i64 x'.p.epoch)).setCell ⟨q, o + i * 3 + 2, none⟩ (.slice x'.B x'.n x'.k)) q o (es.set i x') := by
  have hil : i < es.length := (List.getElem?_eq_some_iff.1 hx).1
  have s1 := h.set1 (x' := ⟨⟨x'.p.e, x.p.epoch, x.p.todo⟩, x.B, x.n, x.k⟩) (v := .int .i64 x'.p.e) hx (j := 0) (by omega) rfl
  have g1 : (es.set i (⟨⟨x'.p.e, x.p.epoch, x.p.todo⟩, x.B, x.n, x.k⟩ : Ax))[i]? = some (⟨⟨x'.p.e, x.p.epoch, x.p.todo⟩, x.B, x.n, x.k⟩ : Ax) := by simp [hil]
  have s2 := s1.set1 (x' := ⟨⟨x'.p.e, x'.p.epoch, x.p.todo⟩, x.B, x.n, x.k⟩) (v := .int .i64 x'.p.epoch) g1 (j := 1) (by omega) rfl
  rw [List.set_set] at s2
  have g2 : (es.set i (⟨⟨x'.p.e, x'.p.epoch, x.p.todo⟩, x.B, x.n, x.k⟩ : Ax))[i]? = some (⟨⟨x'.p.e, x'.p.epoch, x.p.todo⟩, x.B, x.n, x.k⟩ : Ax) := by simp [hil]
  have s3 := s2.set1 (x' := x') (v := .slice x'.B x'.n x'.k) g2 (j := 2) (by omega) rfl
  rw [List.set_set] at s3
  exact s3
theorem heap3 (w : World) (q a b c : Nat) (x y z : Value) (k : Nat) (hk : k ≠ q) : (((w.setCell ⟨q, a, none⟩ x).setCell ⟨q, b, none⟩ y).setCell ⟨q, c, none⟩ z).heap[k]? = w.heap[k]? :=
  ((Below.heap_setCell _ _ _ _ hk).trans (Below.heap_setCell _ _ _ _ hk)).trans (Below.heap_setCell _ _ _ _ hk)
end

theorem info_answer : (Tryz.prog.info? 39).map (fun i => (i.zero, i.size, i.bytes)) = some (some (.agg #[.int .i64 0, .int .i64 0, .slice none 0 0]), 3, 40) := by kernel_rfl
def zeroA : Ax := ⟨⟨0, 0, []⟩, none, 0, 0⟩
theorem made_get (v0 v1 v2 : Value) (n i j : Nat) (hi : i < n) (hj : j < 3) : (madeCells #[v0, v1, v2] (n * 3))[i * 3 + j]? = #[v0, v1, v2][j]? := by
  have hp : i * 3 + j < n * 3 := by omega
  have hm : (i * 3 + j) % 3 = j := by omega
  unfold madeCells
  rw [Array.getElem?_map, Array.getElem?_range, if_pos hp]
  show some _ = _
  match j, hj with
  | 0, _ => simp
  | 1, _ => simp [hm]
  | 2, _ => simp [hm]
theorem made_ans {w : World} (n : Nat) : OwnA (w.alloc (.cells (madeCells #[.int .i64 0, .int .i64 0, .slice none 0 0] (n * 3)) 39)) w.heap.size 0 (List.replicate n zeroA) := by
  refine ⟨_, Lea.Cells.new w _ _, fun i x hx j u hu => ?_⟩
  have hj : j < 3 := by have := (List.getElem?_eq_some_iff.1 hu).1; simpa [cellsA] using this
  rw [List.getElem?_replicate] at hx
  split at hx
  · rename_i hi
    injection hx with hx
    subst hx
    rw [Nat.zero_add, made_get _ _ _ _ _ _ hi hj]
    simpa [cellsA, zeroA] using hu
  · cases hx
theorem run_make_ans (w : World) (n : Nat) (hn : n ≤ 1000) : (Instr.makeSlice 61 (.int .i64 (n : Int)) (.int .i64 (n : Int))).run Tryz.prog w = .ok (.slice (some ⟨w.heap.size, 0, none⟩) n n) (w.alloc (.cells (madeCells #[.int .i64 0, .int .i64 0, .slice none 0 0] (n * 3)) 39)) := by
  obtain ⟨i, hi, hz0, hz1, hz2⟩ := info_parts info_answer
  have h := run_make (P := Tryz.prog) w 61 39 i _ Tryz.underlying61 hi hz0 .i64 .i64 (n : Int) (n : Int) (by omega) (by omega) (by rw [hz2]; omega) (by omega)
  rw [hz1] at h
  exact h
end Coo
end Go.Proofs.YtmflngclncidjaaGreat
