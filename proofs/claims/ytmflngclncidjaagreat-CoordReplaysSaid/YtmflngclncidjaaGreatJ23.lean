/-
  SEVERAL TEXTS IN ONE FILE: CooTickW, LeaRenew.
-/
import Derived.Test.YtmflngclncidjaaGreatJ22
import Derived.Test.YtmflngclncidjaaGreatJ08
import Derived.StillTailTactics
/-
  A WALK OVER tick. (Written by gen_cootick.py.)
-/
namespace Go.Proofs.YtmflngclncidjaaGreat
open Go.RowKit Mem
namespace Coo
open Lea (Cells But OneBox Lv Tv)
open Spa (Sp)

theorem tickC_eq {c : Cv} (h : Inv c) (e : Ev) : tickC c e = bif (Lea.tickP ⟨c.t.last, c.t.now, c.t.l⟩ e.now).2.2 != 0 then bad c (Lea.tickP ⟨c.t.last, c.t.now, c.t.l⟩ e.now).2.2 else (endsC (setT c (Lea.tickP ⟨c.t.last, c.t.now, c.t.l⟩ e.now).1) (Lea.tickP ⟨c.t.last, c.t.now, c.t.l⟩ e.now).2.1, ⟨0, 0, []⟩) := by
  unfold Lea.tickP tickC
  rw [show Lea.okT ⟨c.t.last, c.t.now, c.t.l⟩ = true from h.tok]
  simp only [Bool.true_and]
  rcases decide (e.now < c.t.now) <;> rfl
theorem tick_over {c : Cv} (h : Inv c) (now : Int) : ∀ y ∈ (Lea.tickP ⟨c.t.last, c.t.now, c.t.l⟩ now).2.1, 0 ≤ y.key ∧ y.key ≤ 2007 := by
  intro y hy
  unfold Lea.tickP at hy
  rcases e : (Lea.okT ⟨c.t.last, c.t.now, c.t.l⟩ && !decide (now < c.t.now))
  · simp only [e, cond_false] at hy; cases hy
  · simp only [e, cond_true] at hy
    exact key_le h (List.mem_filter.1 hy).1
theorem tick_lens {c : Cv} (_h : Inv c) (now : Int) : (Lea.tickP ⟨c.t.last, c.t.now, c.t.l⟩ now).2.1.length ≤ c.t.l.length := by
  unfold Lea.tickP
  rcases (Lea.okT ⟨c.t.last, c.t.now, c.t.l⟩ && !decide (now < c.t.now))
  · exact Nat.zero_le _
  · exact List.length_filter_le _ _
theorem ends_snoc (c : Cv) (l : List Lv) (x : Lv) : endsC c (l ++ [x]) = endC (endsC c l) x.key := by unfold endsC; rw [List.foldl_append]; rfl
/-- Where tick's loop stands. -/
structure TickI (base g : Nat) (x : Cx) (c : Cv) (w wr : World) (B : Option Addr) (b : Nat) (ov : List Lv) (j : Nat) (x1 : Cx) : Prop where
  p : x1.p = endsC c (ov.take j)
  d : Desk base wr g x1
  m : Move base g (oL x) (oW x) (oL x1) (oW x1) w wr
  a : ABox wr (w.heap.size + 1) 0 0 none 0 0
  v : Lea.OwnsL (w.heap.size + 2) wr (.slice B ov.length b) ov.length ov
theorem TickI.to {base g : Nat} {x : Cx} {c : Cv} {w wr w' : World} {B : Option Addr} {b : Nat} {ov : List Lv} {j : Nat} {x1 : Cx} (h : TickI base g x c w wr B b ov j x1) (hb : Below wr.heap.size wr w') : TickI base g x c w w' B b ov j x1 :=
  ⟨h.p, h.d.below hb, h.m.trans (Move.of_below hb h.d.low), Lea.Cells.below h.a hb, Lea.OwnsL.below h.v hb⟩
theorem TickI.next {base g : Nat} {x : Cx} {c : Cv} {w wr w' : World} {B : Option Addr} {b : Nat} {ov : List Lv} {j : Nat} {x1 x2 : Cx} {y : Lv} (h : TickI base g x c w wr B b ov j x1) (hy : ov[j]? = some y)
    (hp : x2.p = endC x1.p y.key) (hd : Desk base w' g x2) (hl : oL x2 = oL x1) (hm : ∀ a, Move base g a (oW x1) a (oW x2) wr w') : TickI base g x c w w' B b ov (j + 1) x2 := by
  have hm0 := hm none
  refine ⟨?_, hd, h.m.trans (by rw [hl]; exact hm _), ?_, ?_⟩
  · obtain ⟨hj, rfl⟩ := List.getElem?_eq_some_iff.1 hy
    rw [hp, h.p, List.take_add_one, List.getElem?_eq_getElem hj, Option.toList_some, ends_snoc]
  · exact (hm0.keep _ (Lea.Cells.lt h.a) ⟨cells_ne h.a h.d.box (by decide), (by intro e; cases e), own_ne h.d.f.1 h.a (by decide)⟩).1.trans h.a
  · have hbig := h.v
    refine ⟨⟨hbig.1.1, ?_⟩, hbig.2⟩
    rcases hbig.1.2 with hn | ⟨q, cap, cur, e', hbg, hq, r⟩
    · exact .inl hn
    · have hq2 : Cells wr q 65 cur := hq
      exact .inr ⟨q, cap, cur, e', hbg, (hm0.keep _ (Lea.Cells.lt hq2) ⟨cells_ne hq2 h.d.box (by decide), (by intro e; cases e), own_ne h.d.f.1 hq2 (by decide)⟩).1.trans hq, r⟩

set_option maxRecDepth 100000 in
set_option maxHeartbeats 12800000 in
theorem tick_act {base g N : Nat} {x : Cx} {w : World} {e : Ev} (h : Desk base w g x) (hi : Inv x.p) (hbd : Bd x.p N) (hN : N ≤ 100000) :
    Calls Tryz.prog 48 #[.pointer (some ⟨g, 0, none⟩), evv e] w (Acted base g x w (tickC x.p e)) := by
  have hn : x.n ≤ 100000 := by have h1 := h.l.2; have h2 := hbd.len; omega
  have hm : x.m ≤ 400000 := by have h1 := h.s.2; have h2 := hi.slen hbd; omega
  have hq : x.q ≤ 100000 := by have h1 := h.f.2; have h2 := hbd.wlen; omega
  have HI := Lib.hid hi
  have HBD := Lib.hid hbd
  have HPL := Lib.hid (tickC_eq hi e)
  have HOV := Lib.hid (tick_over hi e.now)
  have HLN := Lib.hid (tick_lens hi e.now)
  have HLL := Lib.hid hbd.len
  have HC0 := fun W (hW : Below w.heap.size w W) => Lib.hid (Lea.tick_own (last := x.p.t.last) (now := x.p.t.now) e.now (Lea.OwnsL.row (h.l.below hW) (by omega)) (by omega))
  generalize Lea.tickP ⟨x.p.t.last, x.p.t.now, x.p.t.l⟩ e.now = r at *
  unfold Lea.OwnedTL at HC0
  have H0 := Lib.hid h
  obtain ⟨L1, E1, N1⟩ := two_new w e
  have HRF := fun er w => Lib.hid (refused_any er w)

  go_enter Tryz.func48, Tryz.ntmps48
  go_upto_region 1 with fail
  generalize (w.alloc (.cells #[.int .i64 e.d, .int .i64 e.host, .int .i64 e.zone, .int .i64 e.epoch, .int .i64 e.fr, .int .i64 e.to, .int .i64 e.now, .int .i64 e.key] 36)).alloc (.cells #[.int .i64 0, .int .i64 0, .slice none 0 0] 39) = w1 at *
  have D1 := Lib.hid (H0.out.below L1.out)
  have HS := fun W (hW : Below w1.heap.size w1 W) => And.intro (seven (D1.out.below hW).box) (EBox.cells (Lea.Cells.below E1.out hW))
  have LL1 : Hid (Below w1.heap.size w1 w1) := Below.refl _ _
  have HP : Hid (w.heap.size + 1 < w1.heap.size) := Lea.Cells.lt N1.out
  have HC := fun W (hW : Below w1.heap.size w1 W) => HC0 W (L1.out.trans (hW.mono L1.out.size))
  clear HC0
  go_cut [5, 6, 7] (fun s t u wx => ∃ pT A' a' B' b', s = .pointer (some ⟨pT, 0, none⟩) ∧ t = .slice B' r.2.1.length b' ∧ u = .int .i64 r.2.2 ∧ Hid (Lea.TBox wx pT r.1.last r.1.now A' r.1.l.length a' ∧ Lea.OwnsL w1.heap.size wx (.slice A' r.1.l.length a') r.1.l.length r.1.l ∧ Lea.OwnsL w1.heap.size wx (.slice B' r.2.1.length b') r.2.1.length r.2.1 ∧ Below w1.heap.size w1 wx))
  case first =>
    have L2 : Hid (Below w1.heap.size w1 w1.drew) := (Below.refl _ w1).drew
    refine wp_region_held_drew (S := fun W => (W.cell? ⟨g, 0, none⟩ = some (.int .i64 x.p.t.last) ∧ W.cell? ⟨g, 1, none⟩ = some (.int .i64 x.p.t.now) ∧ W.cell? ⟨g, 2, none⟩ = some (.slice x.A x.n x.a) ∧ W.cell? ⟨g, 3, none⟩ = some (.slice x.S x.m x.s) ∧ W.cell? ⟨g, 4, none⟩ = some (.slice x.W x.q x.k) ∧ W.cell? ⟨g, 5, none⟩ = some (.int .i64 x.p.ttl) ∧ W.cell? ⟨g, 6, none⟩ = some (.int .i64 x.p.zones)) ∧ (W.cell? ⟨w.heap.size, 0, none⟩ = some (.int .i64 e.d) ∧ W.cell? ⟨w.heap.size, 1, none⟩ = some (.int .i64 e.host) ∧ W.cell? ⟨w.heap.size, 2, none⟩ = some (.int .i64 e.zone) ∧ W.cell? ⟨w.heap.size, 3, none⟩ = some (.int .i64 e.epoch) ∧ W.cell? ⟨w.heap.size, 4, none⟩ = some (.int .i64 e.fr) ∧ W.cell? ⟨w.heap.size, 5, none⟩ = some (.int .i64 e.to) ∧ W.cell? ⟨w.heap.size, 6, none⟩ = some (.int .i64 e.now) ∧ W.cell? ⟨w.heap.size, 7, none⟩ = some (.int .i64 e.key))) (by kernel_rfl) (HS _ L2.out) (fun hHeld => ?_)
    generalize w1.drew = w2 at *
    (first | (refine Reg.take 0 (v := ?_) rfl (by kernel_rfl) (by kernel_rfl) (by kernel_rfl) (fun _ _ _ h => h) (Or.inl ⟨by rfl, ?_⟩) (by assumption) ?_; rotate_left; (focus ((intro W hSW); (try dsimp only at hSW); (try go_split_ands); go_simp; (try (with_reducible rfl)); done))) | (refine Reg.take 0 (v := undef) rfl (by kernel_rfl) (by kernel_rfl) (by kernel_rfl) (fun _ _ _ h => h) (Or.inr ⟨by rfl, rfl⟩) (by assumption) ?_))
    (try simp only [Act.put, List.setIfInBounds_toArray, List.set_cons_zero, List.set_cons_succ])
    (first | (refine Reg.take 1 (v := ?_) rfl (by kernel_rfl) (by kernel_rfl) (by kernel_rfl) (fun _ _ _ h => h) (Or.inl ⟨by rfl, ?_⟩) (by assumption) ?_; rotate_left; (focus ((intro W hSW); (try dsimp only at hSW); (try go_split_ands); go_simp; (try (with_reducible rfl)); done))) | (refine Reg.take 1 (v := undef) rfl (by kernel_rfl) (by kernel_rfl) (by kernel_rfl) (fun _ _ _ h => h) (Or.inr ⟨by rfl, rfl⟩) (by assumption) ?_))
    (try simp only [Act.put, List.setIfInBounds_toArray, List.set_cons_zero, List.set_cons_succ])
    (first | (refine Reg.take 2 (v := ?_) rfl (by kernel_rfl) (by kernel_rfl) (by kernel_rfl) (fun _ _ _ h => h) (Or.inl ⟨by rfl, ?_⟩) (by assumption) ?_; rotate_left; (focus ((intro W hSW); (try dsimp only at hSW); (try go_split_ands); go_simp; (try (with_reducible rfl)); done))) | (refine Reg.take 2 (v := undef) rfl (by kernel_rfl) (by kernel_rfl) (by kernel_rfl) (fun _ _ _ h => h) (Or.inr ⟨by rfl, rfl⟩) (by assumption) ?_))
    (try simp only [Act.put, List.setIfInBounds_toArray, List.set_cons_zero, List.set_cons_succ])
    (first | (refine Reg.take 3 (v := ?_) rfl (by kernel_rfl) (by kernel_rfl) (by kernel_rfl) (fun _ _ _ h => h) (Or.inl ⟨by rfl, ?_⟩) (by assumption) ?_; rotate_left; (focus ((intro W hSW); (try dsimp only at hSW); (try go_split_ands); go_simp; (try (with_reducible rfl)); done))) | (refine Reg.take 3 (v := undef) rfl (by kernel_rfl) (by kernel_rfl) (by kernel_rfl) (fun _ _ _ h => h) (Or.inr ⟨by rfl, rfl⟩) (by assumption) ?_))
    (try simp only [Act.put, List.setIfInBounds_toArray, List.set_cons_zero, List.set_cons_succ])
    (first | (refine Reg.take 4 (v := ?_) rfl (by kernel_rfl) (by kernel_rfl) (by kernel_rfl) (fun _ _ _ h => h) (Or.inl ⟨by rfl, ?_⟩) (by assumption) ?_; rotate_left; (focus ((intro W hSW); (try dsimp only at hSW); (try go_split_ands); go_simp; (try (with_reducible rfl)); done))) | (refine Reg.take 4 (v := undef) rfl (by kernel_rfl) (by kernel_rfl) (by kernel_rfl) (fun _ _ _ h => h) (Or.inr ⟨by rfl, rfl⟩) (by assumption) ?_))
    (try simp only [Act.put, List.setIfInBounds_toArray, List.set_cons_zero, List.set_cons_succ])
    (first | (refine Reg.take 5 (v := ?_) rfl (by kernel_rfl) (by kernel_rfl) (by kernel_rfl) (fun _ _ _ h => h) (Or.inl ⟨by rfl, ?_⟩) (by assumption) ?_; rotate_left; (focus ((intro W hSW); (try dsimp only at hSW); (try go_split_ands); go_simp; (try (with_reducible rfl)); done))) | (refine Reg.take 5 (v := undef) rfl (by kernel_rfl) (by kernel_rfl) (by kernel_rfl) (fun _ _ _ h => h) (Or.inr ⟨by rfl, rfl⟩) (by assumption) ?_))
    (try simp only [Act.put, List.setIfInBounds_toArray, List.set_cons_zero, List.set_cons_succ])
    (first | (refine Reg.take 6 (v := ?_) rfl (by kernel_rfl) (by kernel_rfl) (by kernel_rfl) (fun _ _ _ h => h) (Or.inl ⟨by rfl, ?_⟩) (by assumption) ?_; rotate_left; (focus ((intro W hSW); (try dsimp only at hSW); (try go_split_ands); go_simp; (try (with_reducible rfl)); done))) | (refine Reg.take 6 (v := undef) rfl (by kernel_rfl) (by kernel_rfl) (by kernel_rfl) (fun _ _ _ h => h) (Or.inr ⟨by rfl, rfl⟩) (by assumption) ?_))
    (try simp only [Act.put, List.setIfInBounds_toArray, List.set_cons_zero, List.set_cons_succ])
    refine Reg.step2 7 12 rfl rfl (by kernel_rfl) (by rfl) (by rfl) (fun K hK => ?_) (fun K hK => ?_)
    · skip
      go_simp
      refine (HC w2 L2.out).out.mono ?_
      rintro e w3 ⟨A', a', B', b', rfl, hR, hR2, hO, hO2, hb⟩
      have L3 := Lib.hid (L2.out.trans (hb.mono L2.out.size))
      have OT3 := Lib.hid (Lea.OwnsL.mono hO L2.out.size)
      have OV3 := Lib.hid (Lea.OwnsL.mono hO2 L2.out.size)
      clear hb hR hR2 hO hO2
      clear L2 
      refine hK.out _ _ (HS _ L3.out) (fun hHeld3 => ?_)
      clear hK K
      (try simp only [Act.put, List.setIfInBounds_toArray, List.set_cons_zero, List.set_cons_succ])
      (first | (refine Reg.take 8 (v := ?_) rfl (by kernel_rfl) (by kernel_rfl) (by kernel_rfl) (fun _ _ _ h => h) (Or.inl ⟨by rfl, ?_⟩) (by assumption) ?_; rotate_left; (focus ((intro W hSW); (try dsimp only at hSW); (try go_split_ands); go_simp; (try (with_reducible rfl)); done))) | (refine Reg.take 8 (v := undef) rfl (by kernel_rfl) (by kernel_rfl) (by kernel_rfl) (fun _ _ _ h => h) (Or.inr ⟨by rfl, rfl⟩) (by assumption) ?_))
      (try simp only [Act.put, List.setIfInBounds_toArray, List.set_cons_zero, List.set_cons_succ])
      (first | (refine Reg.take 9 (v := ?_) rfl (by kernel_rfl) (by kernel_rfl) (by kernel_rfl) (fun _ _ _ h => h) (Or.inl ⟨by rfl, ?_⟩) (by assumption) ?_; rotate_left; (focus ((intro W hSW); (try dsimp only at hSW); (try go_split_ands); go_simp; (try (with_reducible rfl)); done))) | (refine Reg.take 9 (v := undef) rfl (by kernel_rfl) (by kernel_rfl) (by kernel_rfl) (fun _ _ _ h => h) (Or.inr ⟨by rfl, rfl⟩) (by assumption) ?_))
      (try simp only [Act.put, List.setIfInBounds_toArray, List.set_cons_zero, List.set_cons_succ])
      (first | (refine Reg.take 10 (v := ?_) rfl (by kernel_rfl) (by kernel_rfl) (by kernel_rfl) (fun _ _ _ h => h) (Or.inl ⟨by rfl, ?_⟩) (by assumption) ?_; rotate_left; (focus ((intro W hSW); (try dsimp only at hSW); (try go_split_ands); go_simp; (try (with_reducible rfl)); done))) | (refine Reg.take 10 (v := undef) rfl (by kernel_rfl) (by kernel_rfl) (by kernel_rfl) (fun _ _ _ h => h) (Or.inr ⟨by rfl, rfl⟩) (by assumption) ?_))
      (try simp only [Act.put, List.setIfInBounds_toArray, List.set_cons_zero, List.set_cons_succ])
      (first | (refine Reg.take 11 (v := ?_) rfl (by kernel_rfl) (by kernel_rfl) (by kernel_rfl) (fun _ _ _ h => h) (Or.inl ⟨by rfl, ?_⟩) (by assumption) ?_; rotate_left; (focus ((intro W hSW); (try dsimp only at hSW); (try go_split_ands); go_simp; (try (with_reducible rfl)); done))) | (refine Reg.take 11 (v := undef) rfl (by kernel_rfl) (by kernel_rfl) (by kernel_rfl) (fun _ _ _ h => h) (Or.inr ⟨by rfl, rfl⟩) (by assumption) ?_))
      (try simp only [Act.put, List.setIfInBounds_toArray, List.set_cons_zero, List.set_cons_succ])
      refine Reg.step 12 rfl (by kernel_rfl) (by rfl) (fun K hK => ?_)
      go_simp
      have bb : Below w3.heap.size w3 (w3.alloc (.cells #[.int .i64 0, .int .i64 0, .slice none 0 0] 27)) := (Below.refl _ w3).alloc (Nat.le_refl _) _
      have L4 := Lib.hid (L3.out.trans (bb.mono L3.out.size))
      have XT4 : Hid (Cells (w3.alloc (.cells #[.int .i64 0, .int .i64 0, .slice none 0 0] 27)) w3.heap.size 27 #[.int .i64 0, .int .i64 0, .slice none 0 0]) := Cells.new w3 _ _
      have GT : Hid (w1.heap.size ≤ w3.heap.size) := L3.out.size
      have ZTT : Hid ((Value.slice A' r.1.l.length a').ownBlock ≠ some w3.heap.size) := fun e => by have h1 := (Lea.OwnsL.lt OT3.out _ e).2; omega
      have ZVT : Hid ((Value.slice B' r.2.1.length b').ownBlock ≠ some w3.heap.size) := fun e => by have h1 := (Lea.OwnsL.lt OV3.out _ e).2; omega
      have OT4 := Lib.hid (Lea.OwnsL.below OT3.out bb)
      have OV4 := Lib.hid (Lea.OwnsL.below OV3.out bb)
      clear bb
      clear L3 OT3 OV3
      refine hK.out _ _ (HS _ L4.out) (fun hHeld4 => ?_)
      clear hK K
      (try simp only [Act.put, List.setIfInBounds_toArray, List.set_cons_zero, List.set_cons_succ])
      generalize w3.alloc (.cells #[.int .i64 0, .int .i64 0, .slice none 0 0] 27) = w4 at *
      generalize w3.heap.size = pT at *
      refine Reg.step 13 rfl (by kernel_rfl) (by rfl) (fun K hK => ?_)
      have y0 : w4.cell? ⟨pT, 0, none⟩ = some _ := Lea.Cells.cell XT4.out 0
      have f0 : w4.frozen? ⟨pT, 0, none⟩ = false := Lea.Cells.frozen XT4.out 0
      have y1 : w4.cell? ⟨pT, 1, none⟩ = some _ := Lea.Cells.cell XT4.out 1
      have f1 : w4.frozen? ⟨pT, 1, none⟩ = false := Lea.Cells.frozen XT4.out 1
      have y2 : w4.cell? ⟨pT, 2, none⟩ = some _ := Lea.Cells.cell XT4.out 2
      have f2 : w4.frozen? ⟨pT, 2, none⟩ = false := Lea.Cells.frozen XT4.out 2
      go_simp
      clear y0 f0 y1 f1 y2 f2
      have bt := Lea.But.set3 w4 pT (.int .i64 r.1.last) (.int .i64 r.1.now) (.slice A' r.1.l.length a')
      have L5 := Lib.hid (L4.out.trans (bt.below L4.out.size GT.out))
      have XT5 := Lib.hid (Lea.Cells.set3 XT4.out (.int .i64 r.1.last) (.int .i64 r.1.now) (.slice A' r.1.l.length a'))
      have OT5 := Lib.hid (Lea.OwnsL.kept OT4.out bt.by_ (.inr ZTT.out))
      have OV5 := Lib.hid (Lea.OwnsL.kept OV4.out bt.by_ (.inr ZVT.out))
      clear bt
      clear L4 XT4 OT4 OV4
      refine hK.out _ _ (HS _ L5.out) (fun hHeld5 => ?_)
      clear hK K
      (try simp only [Act.put, List.setIfInBounds_toArray, List.set_cons_zero, List.set_cons_succ])
      generalize ((w4.setCell ⟨pT, 0, none⟩ (.int .i64 r.1.last)).setCell ⟨pT, 1, none⟩ (.int .i64 r.1.now)).setCell ⟨pT, 2, none⟩ (.slice A' r.1.l.length a') = w5 at *
      (first | (refine Reg.take 14 (v := ?_) rfl (by kernel_rfl) (by kernel_rfl) (by kernel_rfl) (fun _ _ _ h => h) (Or.inl ⟨by rfl, ?_⟩) (by assumption) ?_; rotate_left; (focus ((intro W hSW); (try dsimp only at hSW); (try go_split_ands); go_simp; (try (with_reducible rfl)); done))) | (refine Reg.take 14 (v := undef) rfl (by kernel_rfl) (by kernel_rfl) (by kernel_rfl) (fun _ _ _ h => h) (Or.inr ⟨by rfl, rfl⟩) (by assumption) ?_))
      (try simp only [Act.put, List.setIfInBounds_toArray, List.set_cons_zero, List.set_cons_succ])
      (first | (refine Reg.take 15 (v := ?_) rfl (by kernel_rfl) (by kernel_rfl) (by kernel_rfl) (fun _ _ _ h => h) (Or.inl ⟨by rfl, ?_⟩) (by assumption) ?_; rotate_left; (focus ((intro W hSW); (try dsimp only at hSW); (try go_split_ands); go_simp; (try (with_reducible rfl)); done))) | (refine Reg.take 15 (v := undef) rfl (by kernel_rfl) (by kernel_rfl) (by kernel_rfl) (fun _ _ _ h => h) (Or.inr ⟨by rfl, rfl⟩) (by assumption) ?_))
      (try simp only [Act.put, List.setIfInBounds_toArray, List.set_cons_zero, List.set_cons_succ])
      refine wpAnyH_done (by kernel_rfl) ?_ _
      go_wp2_with fail
      go_meet
      exact ⟨pT, A', a', B', b', rfl, rfl, rfl, XT5.out, OT5.out, OV5.out, L5.out⟩
    · skip
      go_simp
      have bb : Below w2.heap.size w2 (w2.alloc (.cells #[.int .i64 0, .int .i64 0, .slice none 0 0] 27)) := (Below.refl _ w2).alloc (Nat.le_refl _) _
      have L3 := Lib.hid (L2.out.trans (bb.mono L2.out.size))
      have XT3 : Hid (Cells (w2.alloc (.cells #[.int .i64 0, .int .i64 0, .slice none 0 0] 27)) w2.heap.size 27 #[.int .i64 0, .int .i64 0, .slice none 0 0]) := Cells.new w2 _ _
      have GT : Hid (w1.heap.size ≤ w2.heap.size) := L2.out.size
      clear bb
      clear L2 
      refine hK.out _ _ (HS _ L3.out) (fun hHeld3 => ?_)
      clear hK K
      (try simp only [Act.put, List.setIfInBounds_toArray, List.set_cons_zero, List.set_cons_succ])
      generalize w2.alloc (.cells #[.int .i64 0, .int .i64 0, .slice none 0 0] 27) = w3 at *
      generalize w2.heap.size = pT at *
      refine Reg.step 7 rfl (by kernel_rfl) (by rfl) (fun K hK => ?_)
      go_simp
      refine (HC w3 L3.out).out.mono ?_
      rintro e w4 ⟨A', a', B', b', rfl, hR, hR2, hO, hO2, hb⟩
      have L4 := Lib.hid (L3.out.trans (hb.mono L3.out.size))
      have XT4 := Lib.hid (Lea.Cells.below XT3.out hb)
      have OT4 := Lib.hid (Lea.OwnsL.mono hO L3.out.size)
      have OV4 := Lib.hid (Lea.OwnsL.mono hO2 L3.out.size)
      have ZTT : Hid ((Value.slice A' r.1.l.length a').ownBlock ≠ some pT) := fun e => by have h1 := (Lea.OwnsL.lt hO _ e).1; have h2 := Lea.Cells.lt XT3.out; omega
      have ZVT : Hid ((Value.slice B' r.2.1.length b').ownBlock ≠ some pT) := fun e => by have h1 := (Lea.OwnsL.lt hO2 _ e).1; have h2 := Lea.Cells.lt XT3.out; omega
      clear hb hR hR2 hO hO2
      clear L3 XT3
      refine hK.out _ _ (HS _ L4.out) (fun hHeld4 => ?_)
      clear hK K
      (try simp only [Act.put, List.setIfInBounds_toArray, List.set_cons_zero, List.set_cons_succ])
      (first | (refine Reg.take 8 (v := ?_) rfl (by kernel_rfl) (by kernel_rfl) (by kernel_rfl) (fun _ _ _ h => h) (Or.inl ⟨by rfl, ?_⟩) (by assumption) ?_; rotate_left; (focus ((intro W hSW); (try dsimp only at hSW); (try go_split_ands); go_simp; (try (with_reducible rfl)); done))) | (refine Reg.take 8 (v := undef) rfl (by kernel_rfl) (by kernel_rfl) (by kernel_rfl) (fun _ _ _ h => h) (Or.inr ⟨by rfl, rfl⟩) (by assumption) ?_))
      (try simp only [Act.put, List.setIfInBounds_toArray, List.set_cons_zero, List.set_cons_succ])
      (first | (refine Reg.take 9 (v := ?_) rfl (by kernel_rfl) (by kernel_rfl) (by kernel_rfl) (fun _ _ _ h => h) (Or.inl ⟨by rfl, ?_⟩) (by assumption) ?_; rotate_left; (focus ((intro W hSW); (try dsimp only at hSW); (try go_split_ands); go_simp; (try (with_reducible rfl)); done))) | (refine Reg.take 9 (v := undef) rfl (by kernel_rfl) (by kernel_rfl) (by kernel_rfl) (fun _ _ _ h => h) (Or.inr ⟨by rfl, rfl⟩) (by assumption) ?_))
      (try simp only [Act.put, List.setIfInBounds_toArray, List.set_cons_zero, List.set_cons_succ])
      (first | (refine Reg.take 10 (v := ?_) rfl (by kernel_rfl) (by kernel_rfl) (by kernel_rfl) (fun _ _ _ h => h) (Or.inl ⟨by rfl, ?_⟩) (by assumption) ?_; rotate_left; (focus ((intro W hSW); (try dsimp only at hSW); (try go_split_ands); go_simp; (try (with_reducible rfl)); done))) | (refine Reg.take 10 (v := undef) rfl (by kernel_rfl) (by kernel_rfl) (by kernel_rfl) (fun _ _ _ h => h) (Or.inr ⟨by rfl, rfl⟩) (by assumption) ?_))
      (try simp only [Act.put, List.setIfInBounds_toArray, List.set_cons_zero, List.set_cons_succ])
      (first | (refine Reg.take 11 (v := ?_) rfl (by kernel_rfl) (by kernel_rfl) (by kernel_rfl) (fun _ _ _ h => h) (Or.inl ⟨by rfl, ?_⟩) (by assumption) ?_; rotate_left; (focus ((intro W hSW); (try dsimp only at hSW); (try go_split_ands); go_simp; (try (with_reducible rfl)); done))) | (refine Reg.take 11 (v := undef) rfl (by kernel_rfl) (by kernel_rfl) (by kernel_rfl) (fun _ _ _ h => h) (Or.inr ⟨by rfl, rfl⟩) (by assumption) ?_))
      (try simp only [Act.put, List.setIfInBounds_toArray, List.set_cons_zero, List.set_cons_succ])
      refine Reg.step 13 rfl (by kernel_rfl) (by rfl) (fun K hK => ?_)
      have y0 : w4.cell? ⟨pT, 0, none⟩ = some _ := Lea.Cells.cell XT4.out 0
      have f0 : w4.frozen? ⟨pT, 0, none⟩ = false := Lea.Cells.frozen XT4.out 0
      have y1 : w4.cell? ⟨pT, 1, none⟩ = some _ := Lea.Cells.cell XT4.out 1
      have f1 : w4.frozen? ⟨pT, 1, none⟩ = false := Lea.Cells.frozen XT4.out 1
      have y2 : w4.cell? ⟨pT, 2, none⟩ = some _ := Lea.Cells.cell XT4.out 2
      have f2 : w4.frozen? ⟨pT, 2, none⟩ = false := Lea.Cells.frozen XT4.out 2
      go_simp
      clear y0 f0 y1 f1 y2 f2
      have bt := Lea.But.set3 w4 pT (.int .i64 r.1.last) (.int .i64 r.1.now) (.slice A' r.1.l.length a')
      have L5 := Lib.hid (L4.out.trans (bt.below L4.out.size GT.out))
      have XT5 := Lib.hid (Lea.Cells.set3 XT4.out (.int .i64 r.1.last) (.int .i64 r.1.now) (.slice A' r.1.l.length a'))
      have OT5 := Lib.hid (Lea.OwnsL.kept OT4.out bt.by_ (.inr ZTT.out))
      have OV5 := Lib.hid (Lea.OwnsL.kept OV4.out bt.by_ (.inr ZVT.out))
      clear bt
      clear L4 XT4 OT4 OV4
      refine hK.out _ _ (HS _ L5.out) (fun hHeld5 => ?_)
      clear hK K
      (try simp only [Act.put, List.setIfInBounds_toArray, List.set_cons_zero, List.set_cons_succ])
      generalize ((w4.setCell ⟨pT, 0, none⟩ (.int .i64 r.1.last)).setCell ⟨pT, 1, none⟩ (.int .i64 r.1.now)).setCell ⟨pT, 2, none⟩ (.slice A' r.1.l.length a') = w5 at *
      (first | (refine Reg.take 14 (v := ?_) rfl (by kernel_rfl) (by kernel_rfl) (by kernel_rfl) (fun _ _ _ h => h) (Or.inl ⟨by rfl, ?_⟩) (by assumption) ?_; rotate_left; (focus ((intro W hSW); (try dsimp only at hSW); (try go_split_ands); go_simp; (try (with_reducible rfl)); done))) | (refine Reg.take 14 (v := undef) rfl (by kernel_rfl) (by kernel_rfl) (by kernel_rfl) (fun _ _ _ h => h) (Or.inr ⟨by rfl, rfl⟩) (by assumption) ?_))
      (try simp only [Act.put, List.setIfInBounds_toArray, List.set_cons_zero, List.set_cons_succ])
      (first | (refine Reg.take 15 (v := ?_) rfl (by kernel_rfl) (by kernel_rfl) (by kernel_rfl) (fun _ _ _ h => h) (Or.inl ⟨by rfl, ?_⟩) (by assumption) ?_; rotate_left; (focus ((intro W hSW); (try dsimp only at hSW); (try go_split_ands); go_simp; (try (with_reducible rfl)); done))) | (refine Reg.take 15 (v := undef) rfl (by kernel_rfl) (by kernel_rfl) (by kernel_rfl) (fun _ _ _ h => h) (Or.inr ⟨by rfl, rfl⟩) (by assumption) ?_))
      (try simp only [Act.put, List.setIfInBounds_toArray, List.set_cons_zero, List.set_cons_succ])
      refine wpAnyH_done (by kernel_rfl) ?_ _
      go_wp2_with fail
      go_meet
      exact ⟨pT, A', a', B', b', rfl, rfl, rfl, XT5.out, OT5.out, OV5.out, L5.out⟩
  case rest =>
    obtain ⟨pT, A', a', B', b', rfl, rfl, rfl, hP⟩ := hcut
    have XT := Lib.hid hP.out.1
    have OT := Lib.hid hP.out.2.1
    have OV := Lib.hid hP.out.2.2.1
    have LL3 := Lib.hid hP.out.2.2.2
    have G1 : Hid (w.heap.size ≤ w1.heap.size) := L1.out.size
    clear hP HC
    generalize wc = w3 at *
    obtain ⟨t0, t1, t2⟩ := Lea.TBox.cells XT.out
    rcases hz : (r.2.2 != 0)
    · have D3 := Lib.hid (D1.out.below LL3.out)
      have N3 := Lib.hid (Lea.Cells.below N1.out LL3.out)
      obtain ⟨m0, m1, m2, m3, m4, m5, m6⟩ := seven D3.out.box
      obtain ⟨f0, f1, f2, -⟩ := seven_frozen D3.out.box
      have D4 := Lib.hid (D3.out.setT (last := r.1.last) (now := r.1.now) (OT.out.mono (Nat.le_trans H0.out.low G1.out)))
      have bt := Lea.But.set3 w3 g (.int .i64 r.1.last) (.int .i64 r.1.now) (.slice A' r.1.l.length a')
      have N4 := Lib.hid (Lea.Cells.but N3.out bt (cells_ne N3.out D3.out.box (by decide)))
      have OV4 := Lib.hid (Lea.OwnsL.kept OV.out bt.by_ (.inr (own_ne OV.out.1 D3.out.box (by decide))))
      have M4 : Hid (Move base g (oL x) (oW x) (Value.slice A' r.1.l.length a').ownBlock (oW x) w (((w3.setCell ⟨g, 0, none⟩ (.int .i64 r.1.last)).setCell ⟨g, 1, none⟩ (.int .i64 r.1.now)).setCell ⟨g, 2, none⟩ (.slice A' r.1.l.length a'))) := by
        refine Move.new ((Move.of_below (L1.out.trans (LL3.out.mono L1.out.size)) H0.out.low).trans (Move.box bt H0.out.le D3.out.low)) (.inr fun k e => ?_) (.inl rfl)
        have h1 := (Lea.OwnsL.lt OT.out k e).1
        have h2 := G1.out
        omega
      have I4 := Lib.hid (show TickI base g x (setT x.p r.1) w _ B' b' r.2.1 0 _ from ⟨rfl, D4.out, M4.out, N4.out, OV4.out.mono HP.out⟩)
      clear bt D3 N3 OT OV D4 N4 OV4 M4
      go_upto_region 5 with fail
      clear m0 m1 m2 m3 m4 m5 m6 f0 f1 f2 t0 t1 t2 XT
      generalize ((w3.setCell ⟨g, 0, none⟩ (.int .i64 r.1.last)).setCell ⟨g, 1, none⟩ (.int .i64 r.1.now)).setCell ⟨g, 2, none⟩ (.slice A' r.1.l.length a') = w4 at *
      have HPL2 : Hid (tickC x.p e = (endsC (setT x.p r.1) r.2.1, ⟨0, 0, []⟩)) := by show _ = _; rw [HPL.out, hz]; rfl
      generalize r.2.1 = ov at *
      generalize hlv : ov.length = n at *
      have HLV := Lib.hid hlv
      have hnn : n ≤ 100000 := by have := HLN.out; have := HLL.out; omega
      clear hlv
      go_wp2_with fail
      go_loopw [33] (fun i wr => ∃ j : Nat, i = .int .i64 j ∧ j ≤ n ∧ Hid (∃ x1, TickI base g x (setT x.p r.1) w wr B' b' ov j x1)) (fun i _ => n - (intOf i).toNat)
      case atStart => exact ⟨0, rfl, by omega, _, I4.out⟩
      case round =>
        obtain ⟨j, rfl, hj, hI⟩ := hrel
        obtain ⟨x1, hi1⟩ := hI.out
        have I5 := Lib.hid hi1
        clear hI hi1 I4
        by_cases hlt : j < n
        · obtain ⟨y, hy⟩ : ∃ y, ov[j]? = some y := ⟨_, List.getElem?_eq_getElem (by have := HLV.out; omega)⟩
          have HY := Lib.hid hy
          have HKY := Lib.hid (HOV.out y (List.mem_of_getElem? hy))
          have hown := I5.out.v
          rw [HLV.out] at hown
          obtain ⟨b, o, hA, c0, c1, c2, c3⟩ := Lea.RowS.lease_at (Lea.OwnsL.row hown (by omega)) hy
          subst hA
          have hk0 : (0 : Int) ≤ (j : Int) := by omega
          have hk1 : (j : Int) < (n : Int) := by omega
          have b6 : Below wr.heap.size wr (wr.alloc (.cells #[.int .i64 y.key, .int .i64 y.host, .int .i64 y.epoch, .int .i64 y.til] 65)) := (Below.refl _ wr).alloc (Nat.le_refl _) _
          have I6 := Lib.hid (I5.out.to b6)
          have Y6 : Hid (Lea.LBox (wr.alloc (.cells #[.int .i64 y.key, .int .i64 y.host, .int .i64 y.epoch, .int .i64 y.til] 65)) wr.heap.size y) := Cells.new wr _ _
          clear b6 I5 hy hown
          go_upto_region 8 with fail
          clear c0 c1 c2 c3
          generalize wr.alloc (.cells #[.int .i64 y.key, .int .i64 y.host, .int .i64 y.epoch, .int .i64 y.til] 65) = w6 at *
          generalize wr.heap.size = gy at *
          have hsl := endsC_s (ov.take j) (c := setT x.p r.1) HI.out.sok
          rw [← I6.out.p] at hsl
          have hwl := (endsC_w (ov.take j) (setT x.p r.1)).1.length_le
          rw [← I6.out.p] at hwl
          have HEN := Lib.hid (ended_act (key := y.key) (h := y.key - 2000) I6.out.d hsl.1 (by
            have h1 := ch_len (Spa.ok_ch hsl.1)
            have h2 := HBD.out.blocks
            have h3 := hsl.2.1
            have h4 := I6.out.d.s.2
            have h5 : (setT x.p r.1).s = x.p.s := rfl
            rw [h5] at h3
            omega) (by
            have h4 := I6.out.d.f.2
            have h5 := HBD.out.wlen
            have h6 : (setT x.p r.1).wt = x.p.wt := rfl
            rw [h6] at hwl
            omega) rfl (wrap_key HKY.out))
          clear hsl hwl
          obtain ⟨y0, y1, y2, y3⟩ := Lea.LBox.cells Y6.out
          go_wp2_with fail
          refine HEN.out.mono ?_
          rintro e' w7 ⟨rfl, x2, hx, hdd, hol, hmv⟩
          have I7 := Lib.hid (I6.out.next HY.out hx hdd hol hmv)
          clear hx hdd hol hmv HEN y0 y1 y2 y3
          go_wp2_with fail
          go_roundw
          case rel => exact ⟨j + 1, by go_num, by omega, _, I7.out⟩
          case measure => simp [intOf]; omega
        · obtain rfl : n = j := by omega
          have HTK : Hid (ov.take n = ov) := by show _ = _; exact List.take_of_length_le (by have := HLV.out; omega)
          obtain ⟨n0, n1, n2⟩ := ABox.cells I5.out.a
          obtain ⟨f0, f1, f2⟩ := ABox.frozen I5.out.a
          go_wp2_with fail
          refine bodyPost_ret_by (results_cell_row rfl _ _ (w.heap.size + 1) _ _ _ _ rfl (ABox.store I5.out.a 0 0 none 0 0) Tryz.underlying39 rfl (by kernel_rfl)) rfl ?_
          rw [HPL2.out]
          exact acted_end (by omega) H0.out.low (by rw [I5.out.p, HTK.out]) I5.out.d I5.out.a I5.out.m (RowS.nil _ _ _) (fun k o e => by cases e) rfl rfl
    · skip
      go_wp2_with fail
      refine (HRF r.2.2 w3).out.mono ?_
      rintro e' w4 ⟨rfl, hb⟩
      have LL4 := Lib.hid (LL3.out.trans (hb.mono LL3.out.size))
      have D4 := Lib.hid (D1.out.below LL4.out)
      have N4 := Lib.hid (Lea.Cells.below N1.out LL4.out)
      clear hb
      obtain ⟨n0, n1, n2⟩ := ABox.cells N4.out
      obtain ⟨f0, f1, f2⟩ := ABox.frozen N4.out
      go_wp2_with fail
      refine bodyPost_ret_by (results_cell_row rfl _ _ (w.heap.size + 1) _ _ _ _ rfl (ABox.store N4.out r.2.2 0 none 0 0) Tryz.underlying39 rfl (by kernel_rfl)) rfl ?_
      rw [HPL.out, hz]
      exact acted_bad (by omega) H0.out.low D4.out N4.out (L1.out.trans (LL4.out.mono L1.out.size)) r.2.2
end Coo
end Go.Proofs.YtmflngclncidjaaGreat
/-
  A WALK: Renew.
-/
namespace Go.Proofs.YtmflngclncidjaaGreat
open Go.RowKit Mem
namespace Lea

/-- One lease of a row of one's own is written at its end. -/
theorem OwnsL.at_ {base : Nat} {w : World} {A : Option Addr} {n c : Nat} {l : List Lv} (h : OwnsL base w (.slice A n c) n l) {k : Nat} {x : Lv} (hx : l[k]? = some x) :
    ∃ g, A = some ⟨g, 0, none⟩ ∧ base ≤ g ∧ g < w.heap.size ∧ w.cell? ⟨g, k * 4, none⟩ = some (.int .i64 x.key) ∧ w.cell? ⟨g, k * 4 + 3, none⟩ = some (.int .i64 x.til) ∧ (∀ i, w.frozen? ⟨g, i, none⟩ = false) ∧
      ∀ (v : Int) (f : Lv → Lv), f x = ⟨x.key, x.host, x.epoch, v⟩ → OwnsL base (w.setCell ⟨g, k * 4 + 3, none⟩ (.int .i64 v)) (.slice A n c) n (l.set k (f x)) := by
  have hk := (List.getElem?_eq_some_iff.1 hx).1
  rcases h.1.2 with ⟨-, h1⟩ | ⟨g, cap, cur, e, hb, hg, hnc, hcm, hs, ht⟩
  · have := h.2; omega
  · injection e with e1 _ e3
    subst e1 e3
    have hcell : ∀ j u, (cellsL x)[j]? = some u → w.cell? ⟨g, k * 4 + j, none⟩ = some u := fun j u hu => by
      have := World.ownsRow.cells (g := g) h.1 rfl (k * 4 + j) u (flat_get l k j x u hx hu)
      rwa [Mem.add_none, Nat.zero_add] at this
    refine ⟨g, rfl, hb, (Array.getElem?_eq_some_iff.1 hg).1, hcell 0 _ rfl, hcell 3 _ rfl, fun i => frozen_of hg i, fun v f hf => ⟨?_, by rw [List.length_set]; exact h.2⟩⟩
    have hst := (World.ownsRow.stored h.1 (k * 4 + 3) (.int .i64 v)).1
    have he : (l.flatMap cellsL).set (k * 4 + 3) (.int .i64 v) = (l.set k (f x)).flatMap cellsL := by
      apply List.ext_getElem?
      intro i
      rw [List.getElem?_set, flat_len]
      have hl4 : ((l.set k (f x)).flatMap cellsL).length = l.length * 4 := by rw [flat_len, List.length_set]
      by_cases hi : k * 4 + 3 = i
      · subst hi
        rw [if_pos rfl, if_pos (by omega)]
        exact (flat_get _ k 3 (f x) _ (by simp [hk]) (by rw [hf]; rfl)).symm
      · rw [if_neg hi]
        rcases Nat.lt_or_ge i (l.length * 4) with h1 | h1
        · obtain ⟨u, hu⟩ : ∃ u, (l.flatMap cellsL)[i]? = some u := ⟨_, List.getElem?_eq_getElem (by rw [flat_len]; exact h1)⟩
          obtain ⟨y, hy, hyu⟩ := flat_inv l i u hu
          rw [hu]
          have h4 : i % 4 < 4 := Nat.mod_lt _ (by omega)
          by_cases hik : k = i / 4
          · subst hik
            have hxy := hx.symm.trans hy
            injection hxy with hxy
            subst hxy
            have := flat_get (l.set (i / 4) (f x)) (i / 4) (i % 4) (f x) u (by simp [hk]) (by
              rw [hf]
              have : i % 4 ≠ 3 := by omega
              match h5 : i % 4, h4, this with
              | 0, _, _ => rw [h5] at hyu; exact hyu
              | 1, _, _ => rw [h5] at hyu; exact hyu
              | 2, _, _ => rw [h5] at hyu; exact hyu
              | q + 3, h6, h7 => omega)
            rw [show i / 4 * 4 + i % 4 = i by omega] at this
            exact this.symm
          · have := flat_get (l.set k (f x)) (i / 4) (i % 4) y u (by rw [List.getElem?_set, if_neg hik]; exact hy) hyu
            rw [show i / 4 * 4 + i % 4 = i by omega] at this
            exact this.symm
        · rw [List.getElem?_eq_none (by rw [flat_len]; exact h1), List.getElem?_eq_none (by rw [hl4]; exact h1)]
    rw [← he]
    exact hst

set_option maxRecDepth 100000 in
set_option maxHeartbeats 6400000 in
theorem renew_own {last now : Int} {A : Option Addr} {n c : Nat} {l : List Lv} {w : World} (key host epoch ttl : Int) (h : RowL w A n c l) (hn : n ≤ 1000000) (hwt : okT ⟨last, now, l⟩ = true → ttlB ttl = true → IntKind.i64.wrap (now + ttl) = now + ttl) :
    Calls Tryz.prog 74 #[tv last now A n c, .int .i64 key, .int .i64 host, .int .i64 epoch, .int .i64 ttl] w (OwnedT w (renewP ⟨last, now, l⟩ key host epoch ttl).1 [.int .i64 (renewP ⟨last, now, l⟩ key host epoch ttl).2]) := by
  have HR := Lib.hid h
  have hbig := h.big
  have hcap := h.cap
  have hlen := Lib.hid h.len
  have HC := fun w (h : RowL w A n c l) => Lib.hid (check_any (last := last) (now := now) h hn)
  have HT := fun w => Lib.hid (ttl_any ttl w)
  have L1 : Hid (Below w.heap.size w ((w.alloc (.cells #[.int .i64 last, .int .i64 now, .slice A n c] 27)).alloc (.cells #[.int .i64 0, .int .i64 0, .slice none 0 0] 27))) := ((Below.refl w.heap.size w).alloc (Nat.le_refl _) _).alloc (by simp) _
  have B1 : Hid (TBox ((w.alloc (.cells #[.int .i64 last, .int .i64 now, .slice A n c] 27)).alloc (.cells #[.int .i64 0, .int .i64 0, .slice none 0 0] 27)) w.heap.size last now A n c) := heap_alloc2_old w _ _
  have N1 : Hid (TBox ((w.alloc (.cells #[.int .i64 last, .int .i64 now, .slice A n c] 27)).alloc (.cells #[.int .i64 0, .int .i64 0, .slice none 0 0] 27)) (w.heap.size + 1) 0 0 none 0 0) := heap_alloc2_new w _ _
  clear h
  have BAD : Hid (∀ (er : Int) w2, Below w.heap.size w w2 → OwnedT w zT [.int .i64 er] (.returned (.tuple #[tv 0 0 none 0 0, .int .i64 er])) w2) := fun er w2 hb => ⟨none, 0, rfl, RowS.nil _ _ _, OwnsL.nil _ _, hb⟩
  unfold renewP
  simp only
  rcases hok : okT ⟨last, now, l⟩
  · rw [hok] at HC
    go_enter Tryz.func74, Tryz.ntmps74
    go_upto_region 1 with fail
    generalize (w.alloc (.cells #[.int .i64 last, .int .i64 now, .slice A n c] 27)).alloc (.cells #[.int .i64 0, .int .i64 0, .slice none 0 0] 27) = w1 at *
    obtain ⟨m0, m1, m2⟩ := TBox.cells B1.out
    go_wp2_with fail
    refine (HC w1 (HR.out.below L1.out)).out.mono ?_
    rintro e w2 ⟨rfl, hb⟩
    have L2 := Lib.hid (L1.out.trans (hb.mono L1.out.size))
    have N2 := Lib.hid (Cells.below N1.out hb)
    have B2 := Lib.hid (Cells.below B1.out hb)
    clear hb m0 m1 m2 B1 N1 L1 HC
    obtain ⟨m0, m1, m2⟩ := TBox.cells B2.out
    obtain ⟨z0, z1, z2⟩ := TBox.cells N2.out
    obtain ⟨f0, f1, f2⟩ := TBox.frozen N2.out
    go_wp2_with fail
    refine bodyPost_ret_by (results_c1 rfl _ _ (w.heap.size + 1) _ _ _ _ rfl (Cells.set3 N2.out (.int .i64 0) (.int .i64 0) (.slice none 0 0)) Tryz.underlying27 rfl (by kernel_rfl)) rfl ?_
    exact BAD.out 1 _ (below3 L2.out (by omega) _ _ _)
  · rw [hok] at HC
    rcases hto : ttlB ttl
    · rw [hto] at HT
      go_enter Tryz.func74, Tryz.ntmps74
      go_upto_region 1 with fail
      generalize (w.alloc (.cells #[.int .i64 last, .int .i64 now, .slice A n c] 27)).alloc (.cells #[.int .i64 0, .int .i64 0, .slice none 0 0] 27) = w1 at *
      obtain ⟨m0, m1, m2⟩ := TBox.cells B1.out
      go_wp2_with fail
      refine (HC w1 (HR.out.below L1.out)).out.mono ?_
      rintro e w2 ⟨rfl, hb⟩
      have L2 := Lib.hid (L1.out.trans (hb.mono L1.out.size))
      have N2 := Lib.hid (Cells.below N1.out hb)
      have B2 := Lib.hid (Cells.below B1.out hb)
      clear hb m0 m1 m2 B1 N1 L1 HC
      obtain ⟨m0, m1, m2⟩ := TBox.cells B2.out
      go_wp2_with fail
      refine (HT w2).out.mono ?_
      rintro e w2' ⟨rfl, rfl⟩
      obtain ⟨z0, z1, z2⟩ := TBox.cells N2.out
      obtain ⟨f0, f1, f2⟩ := TBox.frozen N2.out
      go_wp2_with fail
      refine bodyPost_ret_by (results_c1 rfl _ _ (w.heap.size + 1) _ _ _ _ rfl (Cells.set3 N2.out (.int .i64 0) (.int .i64 0) (.slice none 0 0)) Tryz.underlying27 rfl (by kernel_rfl)) rfl ?_
      exact BAD.out 1 _ (below3 L2.out (by omega) _ _ _)
    · rw [hto] at HT
      have hri := okT_rises hok
      have HF := fun w (h : RowL w A n c l) => Lib.hid (find_any (key := key) h hri)
      have HRI := Lib.hid hri
      have HW := Lib.hid (hwt hok hto)
      clear hri hwt
      rcases hh : heldB l key
      · rw [hh] at HF
        go_enter Tryz.func74, Tryz.ntmps74
        go_upto_region 1 with fail
        generalize (w.alloc (.cells #[.int .i64 last, .int .i64 now, .slice A n c] 27)).alloc (.cells #[.int .i64 0, .int .i64 0, .slice none 0 0] 27) = w1 at *
        obtain ⟨m0, m1, m2⟩ := TBox.cells B1.out
        go_wp2_with fail
        refine (HC w1 (HR.out.below L1.out)).out.mono ?_
        rintro e w2 ⟨rfl, hb⟩
        have L2 := Lib.hid (L1.out.trans (hb.mono L1.out.size))
        have N2 := Lib.hid (Cells.below N1.out hb)
        have B2 := Lib.hid (Cells.below B1.out hb)
        clear hb m0 m1 m2 B1 N1 L1 HC
        obtain ⟨m0, m1, m2⟩ := TBox.cells B2.out
        go_wp2_with fail
        refine (HT w2).out.mono ?_
        rintro e w2' ⟨rfl, rfl⟩
        go_wp2_with fail
        refine (HF w2' (HR.out.below L2.out)).out.mono ?_
        rintro e w3 ⟨⟨k, rfl, hpl⟩, hb⟩
        have L3 := Lib.hid (L2.out.trans (hb.mono L2.out.size))
        have N3 := Lib.hid (Cells.below N2.out hb)
        have B3 := Lib.hid (Cells.below B2.out hb)
        clear hb hpl m0 m1 m2
        obtain ⟨z0, z1, z2⟩ := TBox.cells N3.out
        obtain ⟨f0, f1, f2⟩ := TBox.frozen N3.out
        go_wp2_with fail
        refine bodyPost_ret_by (results_c1 rfl _ _ (w.heap.size + 1) _ _ _ _ rfl (Cells.set3 N3.out (.int .i64 0) (.int .i64 0) (.slice none 0 0)) Tryz.underlying27 rfl (by kernel_rfl)) rfl ?_
        exact BAD.out 4 _ (below3 L3.out (by omega) _ _ _)
      · rw [hh] at HF
        have HH := Lib.hid hh
        obtain ⟨x, hx0⟩ : ∃ x, findL l key = some x := by rw [find_held] at hh; exact Option.isSome_iff_exists.1 hh
        have hgx : getL l key = x := by unfold getL; rw [hx0]; rfl
        rw [hgx]
        have HX0 := Lib.hid hx0
        clear hx0 hgx
        rcases e1 : (x.host != host)
        · rcases e2 : (x.epoch != epoch)
          · go_enter Tryz.func74, Tryz.ntmps74
            go_upto_region 1 with fail
            generalize (w.alloc (.cells #[.int .i64 last, .int .i64 now, .slice A n c] 27)).alloc (.cells #[.int .i64 0, .int .i64 0, .slice none 0 0] 27) = w1 at *
            obtain ⟨m0, m1, m2⟩ := TBox.cells B1.out
            go_wp2_with fail
            refine (HC w1 (HR.out.below L1.out)).out.mono ?_
            rintro e w2 ⟨rfl, hb⟩
            have L2 := Lib.hid (L1.out.trans (hb.mono L1.out.size))
            have N2 := Lib.hid (Cells.below N1.out hb)
            have B2 := Lib.hid (Cells.below B1.out hb)
            clear hb m0 m1 m2 B1 N1 L1 HC
            obtain ⟨m0, m1, m2⟩ := TBox.cells B2.out
            go_wp2_with fail
            refine (HT w2).out.mono ?_
            rintro e w2' ⟨rfl, rfl⟩
            go_wp2_with fail
            refine (HF w2' (HR.out.below L2.out)).out.mono ?_
            rintro e w3 ⟨⟨k, rfl, hpl⟩, hb⟩
            have L3 := Lib.hid (L2.out.trans (hb.mono L2.out.size))
            have N3 := Lib.hid (Cells.below N2.out hb)
            have B3 := Lib.hid (Cells.below B2.out hb)
            obtain ⟨x', hx, hxk, hfx⟩ := place_held HRI.out hpl HH.out
            obtain rfl : x' = x := by have := HX0.out.symm.trans hfx; injection this with this; exact this.symm
            obtain ⟨b, o, hA, c0, c1, c2, c3⟩ := RowS.lease_at (HR.out.below L3.out) hx
            subst hA
            have hkl : k < n := by have := (List.getElem?_eq_some_iff.1 hx).1; have := hlen.out; omega
            have hk0 : (0 : Int) ≤ (k : Int) := by omega
            have hkn : (k : Int) < (n : Int) := by omega
            have HPS := Lib.hid (place_set HRI.out hx hxk (longer ⟨last, now, l⟩ ttl))
            have HXX := Lib.hid hx
            clear hb hpl m0 m1 m2 B2 N2 L2 HF HT hx hxk hfx
            obtain ⟨m0, m1, m2⟩ := TBox.cells B3.out
            have HCL := fun w (h : RowL w (some ⟨b, o, none⟩) n c l) => Lib.hid (clone_any h hn)
            go_upto_region 9 with fail
            go_wp2_with fail
            refine (HCL w3 (HR.out.below L3.out)).out.mono ?_
            rintro e w4 ⟨⟨X, d, rfl, hX⟩, hb⟩
            have L4 := Lib.hid (L3.out.trans (hb.mono L3.out.size))
            have N4 := Lib.hid (Cells.below N3.out hb)
            have B4 := Lib.hid (Cells.below B3.out hb)
            have hlt : w.heap.size + 1 < w3.heap.size := Cells.lt N3.out
            have C5 : Hid (TBox (w4.setCell ⟨w.heap.size, 2, none⟩ (.slice X n d)) w.heap.size last now X n d) := Cells.set_ B4.out 2 (.slice X n d)
            have N5 : Hid (TBox (w4.setCell ⟨w.heap.size, 2, none⟩ (.slice X n d)) (w.heap.size + 1) 0 0 none 0 0) := Cells.set_other N4.out (by omega) 2 _
            have L5 : Hid (Below w.heap.size w (w4.setCell ⟨w.heap.size, 2, none⟩ (.slice X n d))) := L4.out.setCell (p := ⟨w.heap.size, 2, none⟩) (Nat.le_refl _) _
            have X5 : Hid (OwnsL w3.heap.size (w4.setCell ⟨w.heap.size, 2, none⟩ (.slice X n d)) (.slice X n d) n l) := hX.setCell (p := ⟨w.heap.size, 2, none⟩) (by show w.heap.size < _; omega) _
            clear hb hX m0 m1 m2 c0 c1 c2 c3 e1 e2 HCL
            obtain ⟨m0, m1, m2⟩ := TBox.cells B4.out
            obtain ⟨f0, f1, f2⟩ := TBox.frozen B4.out
            go_upto_region 10 with fail
            clear m0 m1 m2 f0 f1 f2
            generalize w4.setCell ⟨w.heap.size, 2, none⟩ (.slice X n d) = w5 at *
            have C6 : Hid (TBox w5.drew w.heap.size last now X n d) := C5
            have N6 : Hid (TBox w5.drew (w.heap.size + 1) 0 0 none 0 0) := N5
            have L6 : Hid (Below w.heap.size w w5.drew) := L5.out.drew
            have X6 : Hid (OwnsL w3.heap.size w5.drew (.slice X n d) n l) := OwnsL.drew X5.out
            clear C5 N5 L5 X5 B4 N4 L4 B3 N3
            obtain ⟨g, rfl, hbg, hgw, q0, q3, hfz, hset⟩ := OwnsL.at_ X6.out HXX.out
            have FIN : Hid (∀ w9, But (w.heap.size + 1) (w5.drew.setCell ⟨g, k * 4 + 3, none⟩ (.int .i64 (max x'.til (now + ttl)))) w9 → OwnedT w ⟨last, now, setK l key (longer ⟨last, now, l⟩ ttl)⟩ [.int .i64 0] (.returned (.tuple #[tv last now (some ⟨g, 0, none⟩) n d, .int .i64 0])) w9) := by
              show ∀ _, _
              intro w9 hB
              have h1 := (hset (max x'.til (now + ttl)) (longer ⟨last, now, l⟩ ttl) rfl).but hB (by omega)
              rw [HPS.out] at h1
              have h2 := h1.2
              have h3 := h1.row (by omega)
              refine ⟨some ⟨g, 0, none⟩, d, ?_, ?_, by rw [show (setK l key (longer ⟨last, now, l⟩ ttl)).length = n from h2]; exact h1.mono (by omega), (L6.out.setCell (p := ⟨g, k * 4 + 3, none⟩) (by show w.heap.size ≤ g; omega) _).trans (hB.below (by simpa using L6.out.size) (by omega))⟩
              · show _ = Ending.returned (.tuple #[tv last now (some ⟨g, 0, none⟩) (setK l key _).length d, .int .i64 0])
                rw [h2]
              · show RowL w9 _ (setK l key _).length d _
                rw [h2]; exact h3
            have C7 : Hid (TBox (w5.drew.setCell ⟨g, k * 4 + 3, none⟩ (.int .i64 (max x'.til (now + ttl)))) w.heap.size last now (some ⟨g, 0, none⟩) n d) := Cells.set_other C6.out (by omega) _ _
            have N7 : Hid (TBox (w5.drew.setCell ⟨g, k * 4 + 3, none⟩ (.int .i64 (max x'.til (now + ttl)))) (w.heap.size + 1) 0 0 none 0 0) := Cells.set_other N6.out (by omega) _ _
            have hfz3 := hfz (k * 4 + 3)
            have hw := HW.out
            clear hset hfz X6
            obtain ⟨m0, m1, m2⟩ := TBox.cells C6.out
            go_still_tail 16, (by kernel_rfl)
            change wpList _ _ _ _ _ w5.drew
            generalize w5.drew = w6 at *
            go_upto_region 11 with fail
            clear m0 m1 m2 q0 q3 hfz3 C6 N6
            have L7 := L6
            clear L6 hgw
            generalize w6.setCell ⟨g, k * 4 + 3, none⟩ (.int .i64 (max x'.til (now + ttl))) = w7 at *
            obtain ⟨m0, m1, m2⟩ := TBox.cells C7.out
            obtain ⟨z0, z1, z2⟩ := TBox.cells N7.out
            obtain ⟨f0, f1, f2⟩ := TBox.frozen N7.out
            go_wp2_with fail
            refine bodyPost_ret_by (results_c1 rfl _ _ (w.heap.size + 1) _ _ _ _ rfl (Cells.set3 N7.out (.int .i64 last) (.int .i64 now) (.slice (some ⟨g, 0, none⟩) n d)) Tryz.underlying27 rfl (by kernel_rfl)) rfl ?_
            exact FIN.out _ (But.set3 _ _ _ _ _)
          · go_enter Tryz.func74, Tryz.ntmps74
            go_upto_region 1 with fail
            generalize (w.alloc (.cells #[.int .i64 last, .int .i64 now, .slice A n c] 27)).alloc (.cells #[.int .i64 0, .int .i64 0, .slice none 0 0] 27) = w1 at *
            obtain ⟨m0, m1, m2⟩ := TBox.cells B1.out
            go_wp2_with fail
            refine (HC w1 (HR.out.below L1.out)).out.mono ?_
            rintro e w2 ⟨rfl, hb⟩
            have L2 := Lib.hid (L1.out.trans (hb.mono L1.out.size))
            have N2 := Lib.hid (Cells.below N1.out hb)
            have B2 := Lib.hid (Cells.below B1.out hb)
            clear hb m0 m1 m2 B1 N1 L1 HC
            obtain ⟨m0, m1, m2⟩ := TBox.cells B2.out
            go_wp2_with fail
            refine (HT w2).out.mono ?_
            rintro e w2' ⟨rfl, rfl⟩
            go_wp2_with fail
            refine (HF w2' (HR.out.below L2.out)).out.mono ?_
            rintro e w3 ⟨⟨k, rfl, hpl⟩, hb⟩
            have L3 := Lib.hid (L2.out.trans (hb.mono L2.out.size))
            have N3 := Lib.hid (Cells.below N2.out hb)
            have B3 := Lib.hid (Cells.below B2.out hb)
            obtain ⟨x', hx, hxk, hfx⟩ := place_held HRI.out hpl HH.out
            obtain rfl : x' = x := by have := HX0.out.symm.trans hfx; injection this with this; exact this.symm
            obtain ⟨b, o, hA, c0, c1, c2, c3⟩ := RowS.lease_at (HR.out.below L3.out) hx
            subst hA
            have hkl : k < n := by have := (List.getElem?_eq_some_iff.1 hx).1; have := hlen.out; omega
            have hk0 : (0 : Int) ≤ (k : Int) := by omega
            have hkn : (k : Int) < (n : Int) := by omega
            have HPS := Lib.hid (place_set HRI.out hx hxk (longer ⟨last, now, l⟩ ttl))
            have HXX := Lib.hid hx
            clear hb hpl m0 m1 m2 B2 N2 L2 HF HT hx hxk hfx
            obtain ⟨m0, m1, m2⟩ := TBox.cells B3.out
            obtain ⟨z0, z1, z2⟩ := TBox.cells N3.out
            obtain ⟨f0, f1, f2⟩ := TBox.frozen N3.out
            go_wp2_with fail
            refine bodyPost_ret_by (results_c1 rfl _ _ (w.heap.size + 1) _ _ _ _ rfl (Cells.set3 N3.out (.int .i64 0) (.int .i64 0) (.slice none 0 0)) Tryz.underlying27 rfl (by kernel_rfl)) rfl ?_
            exact BAD.out 61 _ (below3 L3.out (by omega) _ _ _)
        · go_enter Tryz.func74, Tryz.ntmps74
          go_upto_region 1 with fail
          generalize (w.alloc (.cells #[.int .i64 last, .int .i64 now, .slice A n c] 27)).alloc (.cells #[.int .i64 0, .int .i64 0, .slice none 0 0] 27) = w1 at *
          obtain ⟨m0, m1, m2⟩ := TBox.cells B1.out
          go_wp2_with fail
          refine (HC w1 (HR.out.below L1.out)).out.mono ?_
          rintro e w2 ⟨rfl, hb⟩
          have L2 := Lib.hid (L1.out.trans (hb.mono L1.out.size))
          have N2 := Lib.hid (Cells.below N1.out hb)
          have B2 := Lib.hid (Cells.below B1.out hb)
          clear hb m0 m1 m2 B1 N1 L1 HC
          obtain ⟨m0, m1, m2⟩ := TBox.cells B2.out
          go_wp2_with fail
          refine (HT w2).out.mono ?_
          rintro e w2' ⟨rfl, rfl⟩
          go_wp2_with fail
          refine (HF w2' (HR.out.below L2.out)).out.mono ?_
          rintro e w3 ⟨⟨k, rfl, hpl⟩, hb⟩
          have L3 := Lib.hid (L2.out.trans (hb.mono L2.out.size))
          have N3 := Lib.hid (Cells.below N2.out hb)
          have B3 := Lib.hid (Cells.below B2.out hb)
          obtain ⟨x', hx, hxk, hfx⟩ := place_held HRI.out hpl HH.out
          obtain rfl : x' = x := by have := HX0.out.symm.trans hfx; injection this with this; exact this.symm
          obtain ⟨b, o, hA, c0, c1, c2, c3⟩ := RowS.lease_at (HR.out.below L3.out) hx
          subst hA
          have hkl : k < n := by have := (List.getElem?_eq_some_iff.1 hx).1; have := hlen.out; omega
          have hk0 : (0 : Int) ≤ (k : Int) := by omega
          have hkn : (k : Int) < (n : Int) := by omega
          have HPS := Lib.hid (place_set HRI.out hx hxk (longer ⟨last, now, l⟩ ttl))
          have HXX := Lib.hid hx
          clear hb hpl m0 m1 m2 B2 N2 L2 HF HT hx hxk hfx
          obtain ⟨m0, m1, m2⟩ := TBox.cells B3.out
          obtain ⟨z0, z1, z2⟩ := TBox.cells N3.out
          obtain ⟨f0, f1, f2⟩ := TBox.frozen N3.out
          go_wp2_with fail
          refine bodyPost_ret_by (results_c1 rfl _ _ (w.heap.size + 1) _ _ _ _ rfl (Cells.set3 N3.out (.int .i64 0) (.int .i64 0) (.slice none 0 0)) Tryz.underlying27 rfl (by kernel_rfl)) rfl ?_
          exact BAD.out 61 _ (below3 L3.out (by omega) _ _ _)
theorem renew_any {last now : Int} {A : Option Addr} {n c : Nat} {l : List Lv} {w : World} (key host epoch ttl : Int) (h : RowL w A n c l) (hn : n ≤ 1000000) (hwt : okT ⟨last, now, l⟩ = true → ttlB ttl = true → IntKind.i64.wrap (now + ttl) = now + ttl) :
    Calls Tryz.prog 74 #[tv last now A n c, .int .i64 key, .int .i64 host, .int .i64 epoch, .int .i64 ttl] w (GaveT w (renewP ⟨last, now, l⟩ key host epoch ttl).1 [.int .i64 (renewP ⟨last, now, l⟩ key host epoch ttl).2]) := by
  exact (renew_own key host epoch ttl h hn hwt).mono fun _ _ h => h.gave
end Lea
end Go.Proofs.YtmflngclncidjaaGreat
