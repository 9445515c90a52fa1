/-
  SEVERAL TEXTS IN ONE FILE: CooAskW, CooDel.
-/
import Derived.Test.YtmflngclncidjaaGreatJ12
import Derived.Test.YtmflngclncidjaaGreatJ03
/-
  A WALK OVER ask. (Written by gen_cooask.py.)
-/
namespace Go.Proofs.YtmflngclncidjaaGreat
open Go.RowKit Mem
namespace Coo
open Lea (Cells But OneBox Lv Tv)
open Spa (Sp)

theorem cells_grown {w w' : World} {row : Option Nat} {g : Nat} {t : TypeId} {cs : Array Value} (h : Cells w g t cs) (hg : w.grownBy w' row) (hne : row ≠ some g) : Cells w' g t cs := (hg.block g (Lea.Cells.lt h) (fun e => hne e.symm)).trans h
/-- append, one operation of a region that draws, onto fences of one's own. -/
theorem wp_append_f1 {w : World} {o : Oper} {a : Act} {K : Act → World → Prop} {Q : Exit → Act → World → Prop} (s x : Operand)
    (ho : o.op = .call { callee := .builtin .append, args := #[s, x], argTypes := #[29, 29] }) (hty : o.type = 29) (base : Nat) (sv : Value) (n : Nat) (l : List Fv) (hs : a.eval s = sv) (hown : OwnsF base w sv n l) (A : Option Addr) (m c : Nat) (l' : List Fv) (hx : a.eval x = .slice A m c) (h : RowF w A m c l')
    (hbig : n + m ≤ 4398046511104) (hbase : base ≤ w.heap.size)
    (hk : ∀ A' c' w', OwnsF base w' (.slice A' (n + m) c') (n + m) (l ++ l') → w.grownBy w' sv.ownBlock → ((Value.slice A' (n + m) c').ownBlock = sv.ownBlock ∨ (Value.slice A' (n + m) c').ownBlock = some w.heap.size) → K (a.put o.dst (.slice A' (n + m) c')) w') : o.wp Tryz.prog a w K Q := by
  obtain ⟨s', w', hrun, h2, h3, h4⟩ := run_append_f w base sv n l hown A m c l' h hbig hbase
  obtain ⟨A', c', rfl⟩ := h2.slice
  unfold Oper.wp execOp
  simp only [ho, hty, resolve, invoke, builtin, Sem.run_bind, Sem.run_pure, Result.andThen_ok, List.map_toArray, List.map_cons, List.map_nil, hs, hx, hrun]
  exact hk A' c' w' h2 h3 h4

set_option maxRecDepth 100000 in
set_option maxHeartbeats 12800000 in
theorem ask_act {base g N : Nat} {x : Cx} {w : World} {e : Ev} (h : Desk base w g x) (hi : Inv x.p) (hbd : Bd x.p N) (hN : N ≤ 100000) (_hh : hostB e.host = true) :
    Calls Tryz.prog 44 #[.pointer (some ⟨g, 0, none⟩), evv e] w (Acted base g x w (askC x.p e)) := by
  have hn : x.n ≤ 100000 := by have h1 := h.l.2; have h2 := hbd.len; omega
  have hm : x.m ≤ 400000 := by have h1 := h.s.2; have h2 := hi.slen hbd; omega
  have hq : x.q ≤ 100000 := by have h1 := h.f.2; have h2 := hbd.wlen; omega
  have HZ := fun w => Lib.hid (isZone_any x e.zone w)
  have HM0 := fun W (hW : Below w.heap.size w W) => Lib.hid (member_any e.host (Lea.OwnsL.row (h.l.below hW) (by omega)) (by omega) hi.tok)
  have HWR := Lib.hid (wrap_last hi hbd hN)
  have HNX := fun w (h : KBox w g x) => Lib.hid (nextEpoch_any h HWR.out)
  have H0 := Lib.hid h
  obtain ⟨L1, E1, N1⟩ := two_new w e
  have HRF := fun er w => Lib.hid (refused_any er w)

  go_enter Tryz.func44, Tryz.ntmps44
  go_upto_region 1 with fail
  generalize (w.alloc (.cells #[.int .i64 e.d, .int .i64 e.host, .int .i64 e.zone, .int .i64 e.epoch, .int .i64 e.fr, .int .i64 e.to, .int .i64 e.now, .int .i64 e.key] 36)).alloc (.cells #[.int .i64 0, .int .i64 0, .slice none 0 0] 39) = w1 at *
  have D1 := Lib.hid (H0.out.below L1.out)
  have HS := fun W (hW : Below w1.heap.size w1 W) => And.intro (seven (D1.out.below hW).box) (EBox.cells (Lea.Cells.below E1.out hW))
  have LL1 : Hid (Below w1.heap.size w1 w1) := Below.refl _ _
  have HP : Hid (w.heap.size + 1 < w1.heap.size) := Lea.Cells.lt N1.out
  have HM := fun W (hW : Below w1.heap.size w1 W) => HM0 W (L1.out.trans (hW.mono L1.out.size))
  clear HM0
  have LL2 : Hid (Below w1.heap.size w1 w1.drew) := LL1.out.drew
  refine wp_region_held_drew (S := fun W => (W.cell? ⟨g, 0, none⟩ = some (.int .i64 x.p.t.last) ∧ W.cell? ⟨g, 1, none⟩ = some (.int .i64 x.p.t.now) ∧ W.cell? ⟨g, 2, none⟩ = some (.slice x.A x.n x.a) ∧ W.cell? ⟨g, 3, none⟩ = some (.slice x.S x.m x.s) ∧ W.cell? ⟨g, 4, none⟩ = some (.slice x.W x.q x.k) ∧ W.cell? ⟨g, 5, none⟩ = some (.int .i64 x.p.ttl) ∧ W.cell? ⟨g, 6, none⟩ = some (.int .i64 x.p.zones)) ∧ (W.cell? ⟨w.heap.size, 0, none⟩ = some (.int .i64 e.d) ∧ W.cell? ⟨w.heap.size, 1, none⟩ = some (.int .i64 e.host) ∧ W.cell? ⟨w.heap.size, 2, none⟩ = some (.int .i64 e.zone) ∧ W.cell? ⟨w.heap.size, 3, none⟩ = some (.int .i64 e.epoch) ∧ W.cell? ⟨w.heap.size, 4, none⟩ = some (.int .i64 e.fr) ∧ W.cell? ⟨w.heap.size, 5, none⟩ = some (.int .i64 e.to) ∧ W.cell? ⟨w.heap.size, 6, none⟩ = some (.int .i64 e.now) ∧ W.cell? ⟨w.heap.size, 7, none⟩ = some (.int .i64 e.key))) (by kernel_rfl) (HS _ LL2.out) (fun hHeld => ?_)
  generalize w1.drew = w2 at *
  (first | (refine Reg.take 0 (v := ?_) rfl (by kernel_rfl) (by kernel_rfl) (by kernel_rfl) (fun _ _ _ h => h) (Or.inl ⟨by rfl, ?_⟩) (by assumption) ?_; rotate_left; (focus ((intro W hSW); (try dsimp only at hSW); (try go_split_ands); go_simp; (try (with_reducible rfl)); done))) | (refine Reg.take 0 (v := undef) rfl (by kernel_rfl) (by kernel_rfl) (by kernel_rfl) (fun _ _ _ h => h) (Or.inr ⟨by rfl, rfl⟩) (by assumption) ?_))
  (try simp only [Act.put, List.setIfInBounds_toArray, List.set_cons_zero, List.set_cons_succ])
  (first | (refine Reg.take 1 (v := ?_) rfl (by kernel_rfl) (by kernel_rfl) (by kernel_rfl) (fun _ _ _ h => h) (Or.inl ⟨by rfl, ?_⟩) (by assumption) ?_; rotate_left; (focus ((intro W hSW); (try dsimp only at hSW); (try go_split_ands); go_simp; (try (with_reducible rfl)); done))) | (refine Reg.take 1 (v := undef) rfl (by kernel_rfl) (by kernel_rfl) (by kernel_rfl) (fun _ _ _ h => h) (Or.inr ⟨by rfl, rfl⟩) (by assumption) ?_))
  (try simp only [Act.put, List.setIfInBounds_toArray, List.set_cons_zero, List.set_cons_succ])
  (first | (refine Reg.take 2 (v := ?_) rfl (by kernel_rfl) (by kernel_rfl) (by kernel_rfl) (fun _ _ _ h => h) (Or.inl ⟨by rfl, ?_⟩) (by assumption) ?_; rotate_left; (focus ((intro W hSW); (try dsimp only at hSW); (try go_split_ands); go_simp; (try (with_reducible rfl)); done))) | (refine Reg.take 2 (v := undef) rfl (by kernel_rfl) (by kernel_rfl) (by kernel_rfl) (fun _ _ _ h => h) (Or.inr ⟨by rfl, rfl⟩) (by assumption) ?_))
  (try simp only [Act.put, List.setIfInBounds_toArray, List.set_cons_zero, List.set_cons_succ])
  (first | (refine Reg.take 3 (v := ?_) rfl (by kernel_rfl) (by kernel_rfl) (by kernel_rfl) (fun _ _ _ h => h) (Or.inl ⟨by rfl, ?_⟩) (by assumption) ?_; rotate_left; (focus ((intro W hSW); (try dsimp only at hSW); (try go_split_ands); go_simp; (try (with_reducible rfl)); done))) | (refine Reg.take 3 (v := undef) rfl (by kernel_rfl) (by kernel_rfl) (by kernel_rfl) (fun _ _ _ h => h) (Or.inr ⟨by rfl, rfl⟩) (by assumption) ?_))
  (try simp only [Act.put, List.setIfInBounds_toArray, List.set_cons_zero, List.set_cons_succ])
  (first | (refine Reg.take 4 (v := ?_) rfl (by kernel_rfl) (by kernel_rfl) (by kernel_rfl) (fun _ _ _ h => h) (Or.inl ⟨by rfl, ?_⟩) (by assumption) ?_; rotate_left; (focus ((intro W hSW); (try dsimp only at hSW); (try go_split_ands); go_simp; (try (with_reducible rfl)); done))) | (refine Reg.take 4 (v := undef) rfl (by kernel_rfl) (by kernel_rfl) (by kernel_rfl) (fun _ _ _ h => h) (Or.inr ⟨by rfl, rfl⟩) (by assumption) ?_))
  (try simp only [Act.put, List.setIfInBounds_toArray, List.set_cons_zero, List.set_cons_succ])
  (first | (refine Reg.take 5 (v := ?_) rfl (by kernel_rfl) (by kernel_rfl) (by kernel_rfl) (fun _ _ _ h => h) (Or.inl ⟨by rfl, ?_⟩) (by assumption) ?_; rotate_left; (focus ((intro W hSW); (try dsimp only at hSW); (try go_split_ands); go_simp; (try (with_reducible rfl)); done))) | (refine Reg.take 5 (v := undef) rfl (by kernel_rfl) (by kernel_rfl) (by kernel_rfl) (fun _ _ _ h => h) (Or.inr ⟨by rfl, rfl⟩) (by assumption) ?_))
  (try simp only [Act.put, List.setIfInBounds_toArray, List.set_cons_zero, List.set_cons_succ])
  refine Reg.step 6 rfl (by kernel_rfl) (by rfl) (fun K hK => ?_)
  go_simp
  refine (HZ w2).out.mono ?_
  rintro e' w3 ⟨rfl, hb⟩
  have LL3 := Lib.hid (LL2.out.trans (hb.mono LL2.out.size))
  clear hb
  refine hK.out _ _ (HS _ LL3.out) (fun hHeld2 => ?_)
  clear hK K
  (try simp only [Act.put, List.setIfInBounds_toArray, List.set_cons_zero, List.set_cons_succ])
  (first | (refine Reg.take 7 (v := ?_) rfl (by kernel_rfl) (by kernel_rfl) (by kernel_rfl) (fun _ _ _ h => h) (Or.inl ⟨by rfl, ?_⟩) (by assumption) ?_; rotate_left; (focus ((intro W hSW); (try dsimp only at hSW); (try go_split_ands); go_simp; (try (with_reducible rfl)); done))) | (refine Reg.take 7 (v := undef) rfl (by kernel_rfl) (by kernel_rfl) (by kernel_rfl) (fun _ _ _ h => h) (Or.inr ⟨by rfl, rfl⟩) (by assumption) ?_))
  (try simp only [Act.put, List.setIfInBounds_toArray, List.set_cons_zero, List.set_cons_succ])
  (first | (refine Reg.take 8 (v := ?_) rfl (by kernel_rfl) (by kernel_rfl) (by kernel_rfl) (fun _ _ _ h => h) (Or.inl ⟨by rfl, ?_⟩) (by assumption) ?_; rotate_left; (focus ((intro W hSW); (try dsimp only at hSW); (try go_split_ands); go_simp; (try (with_reducible rfl)); done))) | (refine Reg.take 8 (v := undef) rfl (by kernel_rfl) (by kernel_rfl) (by kernel_rfl) (fun _ _ _ h => h) (Or.inr ⟨by rfl, rfl⟩) (by assumption) ?_))
  (try simp only [Act.put, List.setIfInBounds_toArray, List.set_cons_zero, List.set_cons_succ])
  refine wpAnyH_done (by kernel_rfl) ?_ _
  clear hHeld hHeld2
  rcases e1 : zoneB x.p e.zone
  · skip
    go_wp2_with fail
    refine (HRF 1 w3).out.mono ?_
    rintro e' w4 ⟨rfl, hb⟩
    have LL4 := Lib.hid (LL3.out.trans (hb.mono LL3.out.size))
    have D4 := Lib.hid (D1.out.below LL4.out)
    have N4 := Lib.hid (Lea.Cells.below N1.out LL4.out)
    clear hb
    obtain ⟨n0, n1, n2⟩ := ABox.cells N4.out
    obtain ⟨f0, f1, f2⟩ := ABox.frozen N4.out
    go_wp2_with fail
    refine bodyPost_ret_by (results_cell_row rfl _ _ (w.heap.size + 1) _ _ _ _ rfl (ABox.store N4.out 1 0 none 0 0) Tryz.underlying39 rfl (by kernel_rfl)) rfl ?_
    unfold askC
    rw [e1]
    exact acted_bad (by omega) H0.out.low D4.out N4.out (L1.out.trans (LL4.out.mono L1.out.size)) 1
  · have HA := fun W (hW : Below w1.heap.size w1 W) => Lib.hid (away_any (D1.out.below hW) hi hbd hN e1)
    go_upto_region 3 with fail
    have LL4 : Hid (Below w1.heap.size w1 w3.drew) := LL3.out.drew
    refine wp_region_held_drew (S := fun W => (W.cell? ⟨g, 0, none⟩ = some (.int .i64 x.p.t.last) ∧ W.cell? ⟨g, 1, none⟩ = some (.int .i64 x.p.t.now) ∧ W.cell? ⟨g, 2, none⟩ = some (.slice x.A x.n x.a) ∧ W.cell? ⟨g, 3, none⟩ = some (.slice x.S x.m x.s) ∧ W.cell? ⟨g, 4, none⟩ = some (.slice x.W x.q x.k) ∧ W.cell? ⟨g, 5, none⟩ = some (.int .i64 x.p.ttl) ∧ W.cell? ⟨g, 6, none⟩ = some (.int .i64 x.p.zones)) ∧ (W.cell? ⟨w.heap.size, 0, none⟩ = some (.int .i64 e.d) ∧ W.cell? ⟨w.heap.size, 1, none⟩ = some (.int .i64 e.host) ∧ W.cell? ⟨w.heap.size, 2, none⟩ = some (.int .i64 e.zone) ∧ W.cell? ⟨w.heap.size, 3, none⟩ = some (.int .i64 e.epoch) ∧ W.cell? ⟨w.heap.size, 4, none⟩ = some (.int .i64 e.fr) ∧ W.cell? ⟨w.heap.size, 5, none⟩ = some (.int .i64 e.to) ∧ W.cell? ⟨w.heap.size, 6, none⟩ = some (.int .i64 e.now) ∧ W.cell? ⟨w.heap.size, 7, none⟩ = some (.int .i64 e.key))) (by kernel_rfl) (HS _ LL4.out) (fun hHeld => ?_)
    generalize w3.drew = w4 at *
    (first | (refine Reg.take 0 (v := ?_) rfl (by kernel_rfl) (by kernel_rfl) (by kernel_rfl) (fun _ _ _ h => h) (Or.inl ⟨by rfl, ?_⟩) (by assumption) ?_; rotate_left; (focus ((intro W hSW); (try dsimp only at hSW); (try go_split_ands); go_simp; (try (with_reducible rfl)); done))) | (refine Reg.take 0 (v := undef) rfl (by kernel_rfl) (by kernel_rfl) (by kernel_rfl) (fun _ _ _ h => h) (Or.inr ⟨by rfl, rfl⟩) (by assumption) ?_))
    (try simp only [Act.put, List.setIfInBounds_toArray, List.set_cons_zero, List.set_cons_succ])
    (first | (refine Reg.take 1 (v := ?_) rfl (by kernel_rfl) (by kernel_rfl) (by kernel_rfl) (fun _ _ _ h => h) (Or.inl ⟨by rfl, ?_⟩) (by assumption) ?_; rotate_left; (focus ((intro W hSW); (try dsimp only at hSW); (try go_split_ands); go_simp; (try (with_reducible rfl)); done))) | (refine Reg.take 1 (v := undef) rfl (by kernel_rfl) (by kernel_rfl) (by kernel_rfl) (fun _ _ _ h => h) (Or.inr ⟨by rfl, rfl⟩) (by assumption) ?_))
    (try simp only [Act.put, List.setIfInBounds_toArray, List.set_cons_zero, List.set_cons_succ])
    (first | (refine Reg.take 2 (v := ?_) rfl (by kernel_rfl) (by kernel_rfl) (by kernel_rfl) (fun _ _ _ h => h) (Or.inl ⟨by rfl, ?_⟩) (by assumption) ?_; rotate_left; (focus ((intro W hSW); (try dsimp only at hSW); (try go_split_ands); go_simp; (try (with_reducible rfl)); done))) | (refine Reg.take 2 (v := undef) rfl (by kernel_rfl) (by kernel_rfl) (by kernel_rfl) (fun _ _ _ h => h) (Or.inr ⟨by rfl, rfl⟩) (by assumption) ?_))
    (try simp only [Act.put, List.setIfInBounds_toArray, List.set_cons_zero, List.set_cons_succ])
    (first | (refine Reg.take 3 (v := ?_) rfl (by kernel_rfl) (by kernel_rfl) (by kernel_rfl) (fun _ _ _ h => h) (Or.inl ⟨by rfl, ?_⟩) (by assumption) ?_; rotate_left; (focus ((intro W hSW); (try dsimp only at hSW); (try go_split_ands); go_simp; (try (with_reducible rfl)); done))) | (refine Reg.take 3 (v := undef) rfl (by kernel_rfl) (by kernel_rfl) (by kernel_rfl) (fun _ _ _ h => h) (Or.inr ⟨by rfl, rfl⟩) (by assumption) ?_))
    (try simp only [Act.put, List.setIfInBounds_toArray, List.set_cons_zero, List.set_cons_succ])
    (first | (refine Reg.take 4 (v := ?_) rfl (by kernel_rfl) (by kernel_rfl) (by kernel_rfl) (fun _ _ _ h => h) (Or.inl ⟨by rfl, ?_⟩) (by assumption) ?_; rotate_left; (focus ((intro W hSW); (try dsimp only at hSW); (try go_split_ands); go_simp; (try (with_reducible rfl)); done))) | (refine Reg.take 4 (v := undef) rfl (by kernel_rfl) (by kernel_rfl) (by kernel_rfl) (fun _ _ _ h => h) (Or.inr ⟨by rfl, rfl⟩) (by assumption) ?_))
    (try simp only [Act.put, List.setIfInBounds_toArray, List.set_cons_zero, List.set_cons_succ])
    (first | (refine Reg.take 5 (v := ?_) rfl (by kernel_rfl) (by kernel_rfl) (by kernel_rfl) (fun _ _ _ h => h) (Or.inl ⟨by rfl, ?_⟩) (by assumption) ?_; rotate_left; (focus ((intro W hSW); (try dsimp only at hSW); (try go_split_ands); go_simp; (try (with_reducible rfl)); done))) | (refine Reg.take 5 (v := undef) rfl (by kernel_rfl) (by kernel_rfl) (by kernel_rfl) (fun _ _ _ h => h) (Or.inr ⟨by rfl, rfl⟩) (by assumption) ?_))
    (try simp only [Act.put, List.setIfInBounds_toArray, List.set_cons_zero, List.set_cons_succ])
    refine Reg.step 6 rfl (by kernel_rfl) (by rfl) (fun K hK => ?_)
    go_simp
    refine (HM w4 LL4.out).out.mono ?_
    rintro e' w5 ⟨rfl, hb⟩
    have LL5 := Lib.hid (LL4.out.trans (hb.mono LL4.out.size))
    clear hb
    refine hK.out _ _ (HS _ LL5.out) (fun hHeld2 => ?_)
    clear hK K
    (try simp only [Act.put, List.setIfInBounds_toArray, List.set_cons_zero, List.set_cons_succ])
    (first | (refine Reg.take 7 (v := ?_) rfl (by kernel_rfl) (by kernel_rfl) (by kernel_rfl) (fun _ _ _ h => h) (Or.inl ⟨by rfl, ?_⟩) (by assumption) ?_; rotate_left; (focus ((intro W hSW); (try dsimp only at hSW); (try go_split_ands); go_simp; (try (with_reducible rfl)); done))) | (refine Reg.take 7 (v := undef) rfl (by kernel_rfl) (by kernel_rfl) (by kernel_rfl) (fun _ _ _ h => h) (Or.inr ⟨by rfl, rfl⟩) (by assumption) ?_))
    (try simp only [Act.put, List.setIfInBounds_toArray, List.set_cons_zero, List.set_cons_succ])
    (first | (refine Reg.take 8 (v := ?_) rfl (by kernel_rfl) (by kernel_rfl) (by kernel_rfl) (fun _ _ _ h => h) (Or.inl ⟨by rfl, ?_⟩) (by assumption) ?_; rotate_left; (focus ((intro W hSW); (try dsimp only at hSW); (try go_split_ands); go_simp; (try (with_reducible rfl)); done))) | (refine Reg.take 8 (v := undef) rfl (by kernel_rfl) (by kernel_rfl) (by kernel_rfl) (fun _ _ _ h => h) (Or.inr ⟨by rfl, rfl⟩) (by assumption) ?_))
    (try simp only [Act.put, List.setIfInBounds_toArray, List.set_cons_zero, List.set_cons_succ])
    refine wpAnyH_done (by kernel_rfl) ?_ _
    clear hHeld hHeld2
    rcases e2 : memB x.p e.host
    · skip
      go_wp2_with fail
      refine (HRF 4 w5).out.mono ?_
      rintro e' w6 ⟨rfl, hb⟩
      have LL6 := Lib.hid (LL5.out.trans (hb.mono LL5.out.size))
      have D6 := Lib.hid (D1.out.below LL6.out)
      have N6 := Lib.hid (Lea.Cells.below N1.out LL6.out)
      clear hb
      obtain ⟨n0, n1, n2⟩ := ABox.cells N6.out
      obtain ⟨f0, f1, f2⟩ := ABox.frozen N6.out
      go_wp2_with fail
      refine bodyPost_ret_by (results_cell_row rfl _ _ (w.heap.size + 1) _ _ _ _ rfl (ABox.store N6.out 4 0 none 0 0) Tryz.underlying39 rfl (by kernel_rfl)) rfl ?_
      unfold askC
      rw [e1, e2]
      exact acted_bad (by omega) H0.out.low D6.out N6.out (L1.out.trans (LL6.out.mono L1.out.size)) 4
    · obtain ⟨y0, y1, y2, y3, y4, y5, y6, y7⟩ := (HS _ LL5.out).2
      go_wp2_with fail
      refine (HA w5 LL5.out).out.mono ?_
      rintro e' w6 ⟨rfl, hb⟩
      have LL6 := Lib.hid (LL5.out.trans (hb.mono LL5.out.size))
      clear hb y0 y1 y2 y3 y4 y5 y6 y7
      rcases e3 : awayB x.p e.zone
      · go_upto_region 7 with fail
        go_cut [5] (fun s wx => ∃ pF, s = .pointer (some ⟨pF, 0, none⟩) ∧ Hid (FBox wx pF (askF x.p e) ∧ Desk base wx g ⟨setT x.p (moreT x.p), x.A, x.n, x.a, x.S, x.m, x.s, x.W, x.q, x.k⟩ ∧ ABox wx (w.heap.size + 1) 0 0 none 0 0 ∧ EBox wx w.heap.size e ∧ Move base g (oL x) (oW x) (oL x) (oW x) w wx ∧ w.heap.size + 1 < pF ∧ oW x ≠ some pF))
        case first =>
          have LL7 : Hid (Below w1.heap.size w1 w6.drew) := LL6.out.drew
          refine wp_region_held_drew (S := fun W => W.cell? ⟨w.heap.size, 0, none⟩ = some (.int .i64 e.d) ∧ W.cell? ⟨w.heap.size, 1, none⟩ = some (.int .i64 e.host) ∧ W.cell? ⟨w.heap.size, 2, none⟩ = some (.int .i64 e.zone) ∧ W.cell? ⟨w.heap.size, 3, none⟩ = some (.int .i64 e.epoch) ∧ W.cell? ⟨w.heap.size, 4, none⟩ = some (.int .i64 e.fr) ∧ W.cell? ⟨w.heap.size, 5, none⟩ = some (.int .i64 e.to) ∧ W.cell? ⟨w.heap.size, 6, none⟩ = some (.int .i64 e.now) ∧ W.cell? ⟨w.heap.size, 7, none⟩ = some (.int .i64 e.key)) (by kernel_rfl) (HS _ LL7.out).2 (fun hHeld => ?_)
          generalize w6.drew = w7 at *
          (first | (refine Reg.take 0 (v := ?_) rfl (by kernel_rfl) (by kernel_rfl) (by kernel_rfl) (fun _ _ _ h => h) (Or.inl ⟨by rfl, ?_⟩) (by assumption) ?_; rotate_left; (focus ((intro W hSW); (try dsimp only at hSW); (try go_split_ands); go_simp; (try (with_reducible rfl)); done))) | (refine Reg.take 0 (v := undef) rfl (by kernel_rfl) (by kernel_rfl) (by kernel_rfl) (fun _ _ _ h => h) (Or.inr ⟨by rfl, rfl⟩) (by assumption) ?_))
          (try simp only [Act.put, List.setIfInBounds_toArray, List.set_cons_zero, List.set_cons_succ])
          (first | (refine Reg.take 1 (v := ?_) rfl (by kernel_rfl) (by kernel_rfl) (by kernel_rfl) (fun _ _ _ h => h) (Or.inl ⟨by rfl, ?_⟩) (by assumption) ?_; rotate_left; (focus ((intro W hSW); (try dsimp only at hSW); (try go_split_ands); go_simp; (try (with_reducible rfl)); done))) | (refine Reg.take 1 (v := undef) rfl (by kernel_rfl) (by kernel_rfl) (by kernel_rfl) (fun _ _ _ h => h) (Or.inr ⟨by rfl, rfl⟩) (by assumption) ?_))
          (try simp only [Act.put, List.setIfInBounds_toArray, List.set_cons_zero, List.set_cons_succ])
          (first | (refine Reg.take 2 (v := ?_) rfl (by kernel_rfl) (by kernel_rfl) (by kernel_rfl) (fun _ _ _ h => h) (Or.inl ⟨by rfl, ?_⟩) (by assumption) ?_; rotate_left; (focus ((intro W hSW); (try dsimp only at hSW); (try go_split_ands); go_simp; (try (with_reducible rfl)); done))) | (refine Reg.take 2 (v := undef) rfl (by kernel_rfl) (by kernel_rfl) (by kernel_rfl) (fun _ _ _ h => h) (Or.inr ⟨by rfl, rfl⟩) (by assumption) ?_))
          (try simp only [Act.put, List.setIfInBounds_toArray, List.set_cons_zero, List.set_cons_succ])
          (first | (refine Reg.take 3 (v := ?_) rfl (by kernel_rfl) (by kernel_rfl) (by kernel_rfl) (fun _ _ _ h => h) (Or.inl ⟨by rfl, ?_⟩) (by assumption) ?_; rotate_left; (focus ((intro W hSW); (try dsimp only at hSW); (try go_split_ands); go_simp; (try (with_reducible rfl)); done))) | (refine Reg.take 3 (v := undef) rfl (by kernel_rfl) (by kernel_rfl) (by kernel_rfl) (fun _ _ _ h => h) (Or.inr ⟨by rfl, rfl⟩) (by assumption) ?_))
          (try simp only [Act.put, List.setIfInBounds_toArray, List.set_cons_zero, List.set_cons_succ])
          (first | (refine Reg.take 4 (v := ?_) rfl (by kernel_rfl) (by kernel_rfl) (by kernel_rfl) (fun _ _ _ h => h) (Or.inl ⟨by rfl, ?_⟩) (by assumption) ?_; rotate_left; (focus ((intro W hSW); (try dsimp only at hSW); (try go_split_ands); go_simp; (try (with_reducible rfl)); done))) | (refine Reg.take 4 (v := undef) rfl (by kernel_rfl) (by kernel_rfl) (by kernel_rfl) (fun _ _ _ h => h) (Or.inr ⟨by rfl, rfl⟩) (by assumption) ?_))
          (try simp only [Act.put, List.setIfInBounds_toArray, List.set_cons_zero, List.set_cons_succ])
          refine Reg.step2 5 7 rfl rfl (by kernel_rfl) (by rfl) (by rfl) (fun K hK => ?_) (fun K hK => ?_)
          · go_simp
            refine (HNX w7 (D1.out.below LL7.out).box).out.mono ?_
            rintro e' w8 ⟨rfl, hw8⟩
            have bt := Lea.But.set1 w7 g 0 (.int .i64 (x.p.t.last + 1))
            rw [← hw8] at bt
            have D8 : Hid (Desk base w8 g ⟨setT x.p (moreT x.p), x.A, x.n, x.a, x.S, x.m, x.s, x.W, x.q, x.k⟩) := by show Desk _ _ _ _; rw [hw8]; exact (D1.out.below LL7.out).setLast _
            have N8 := Lib.hid (Lea.Cells.but (Lea.Cells.below N1.out LL7.out) bt (cells_ne (Lea.Cells.below N1.out LL7.out) (D1.out.below LL7.out).box (by decide)))
            have E8 := Lib.hid (Lea.Cells.but (Lea.Cells.below E1.out LL7.out) bt (cells_ne (Lea.Cells.below E1.out LL7.out) (D1.out.below LL7.out).box (by decide)))
            have M8 : Hid (Move base g (oL x) (oW x) (oL x) (oW x) w w8) := (Move.of_below (L1.out.trans (LL7.out.mono L1.out.size)) H0.out.low).trans (Move.box bt H0.out.le (D1.out.below LL7.out).low)
            have G8 : Hid (w.heap.size + 1 < w8.heap.size) := Lea.Cells.lt N8.out
            clear hw8 bt
            refine hK.out _ _ (EBox.cells E8.out) (fun hHeld2 => ?_)
            clear hK K
            (try simp only [Act.put, List.setIfInBounds_toArray, List.set_cons_zero, List.set_cons_succ])
            (first | (refine Reg.take 6 (v := ?_) rfl (by kernel_rfl) (by kernel_rfl) (by kernel_rfl) (fun _ _ _ h => h) (Or.inl ⟨by rfl, ?_⟩) (by assumption) ?_; rotate_left; (focus ((intro W hSW); (try dsimp only at hSW); (try go_split_ands); go_simp; (try (with_reducible rfl)); done))) | (refine Reg.take 6 (v := undef) rfl (by kernel_rfl) (by kernel_rfl) (by kernel_rfl) (fun _ _ _ h => h) (Or.inr ⟨by rfl, rfl⟩) (by assumption) ?_))
            (try simp only [Act.put, List.setIfInBounds_toArray, List.set_cons_zero, List.set_cons_succ])
            refine Reg.step 7 rfl (by kernel_rfl) (by rfl) (fun K hK => ?_)
            go_simp
            have bb : Below w8.heap.size w8 (w8.alloc (.cells #[.int .i64 0, .int .i64 0, .int .i64 0] 51)) := (Below.refl _ w8).alloc (Nat.le_refl _) _
            have D9 := Lib.hid (D8.out.below bb)
            have N9 := Lib.hid (Lea.Cells.below N8.out bb)
            have E9 := Lib.hid (Lea.Cells.below E8.out bb)
            have M9 := Lib.hid (M8.out.trans (Move.of_below bb D8.out.low))
            have X9 : Hid (Cells (w8.alloc (.cells #[.int .i64 0, .int .i64 0, .int .i64 0] 51)) w8.heap.size 51 #[.int .i64 0, .int .i64 0, .int .i64 0]) := Cells.new w8 _ _
            have OFF : Hid (Off g (oL x) (oW x) w8.heap.size ∧ (Value.slice x.S x.m x.s).ownBlock ≠ some w8.heap.size) := ⟨Off.new D8.out (Nat.le_refl _), fun h => by have := (Spa.OwnsL.lt D8.out.s _ h).2; omega⟩
            clear bb D8 N8 E8 M8
            refine hK.out _ _ (EBox.cells E9.out) (fun hHeld3 => ?_)
            clear hK K
            (try simp only [Act.put, List.setIfInBounds_toArray, List.set_cons_zero, List.set_cons_succ])
            generalize w8.alloc (.cells #[.int .i64 0, .int .i64 0, .int .i64 0] 51) = w9 at *
            generalize w8.heap.size = pF at *
            refine Reg.step 8 rfl (by kernel_rfl) (by rfl) (fun K hK => ?_)
            have y0 : w9.cell? ⟨pF, 0, none⟩ = some _ := Lea.Cells.cell X9.out 0
            have y1 : w9.cell? ⟨pF, 1, none⟩ = some _ := Lea.Cells.cell X9.out 1
            have y2 : w9.cell? ⟨pF, 2, none⟩ = some _ := Lea.Cells.cell X9.out 2
            have f0 : w9.frozen? ⟨pF, 0, none⟩ = false := Lea.Cells.frozen X9.out 0
            have f1 : w9.frozen? ⟨pF, 1, none⟩ = false := Lea.Cells.frozen X9.out 1
            have f2 : w9.frozen? ⟨pF, 2, none⟩ = false := Lea.Cells.frozen X9.out 2
            go_simp
            clear y0 y1 y2 f0 f1 f2
            have bt := Lea.But.set3 w9 pF (.int .i64 e.zone) (.int .i64 e.host) (.int .i64 (x.p.t.last + 1))
            have D10 := Lib.hid (D9.out.far bt OFF.out.1 OFF.out.2)
            have N10 := Lib.hid (Lea.Cells.but N9.out bt (cells_ne N9.out X9.out (by decide)))
            have E10 := Lib.hid (Lea.Cells.but E9.out bt (cells_ne E9.out X9.out (by decide)))
            have X10 : Hid (FBox (((w9.setCell ⟨pF, 0, none⟩ (.int .i64 e.zone)).setCell ⟨pF, 1, none⟩ (.int .i64 e.host)).setCell ⟨pF, 2, none⟩ (.int .i64 (x.p.t.last + 1))) pF (askF x.p e)) := Lea.Cells.set3 X9.out _ _ _
            have M10 := Lib.hid (M9.out.tail bt (by have := G8.out; omega) H0.out.low)
            clear bt
            refine hK.out _ _ (EBox.cells E10.out) (fun hHeld4 => ?_)
            clear hK K
            (try simp only [Act.put, List.setIfInBounds_toArray, List.set_cons_zero, List.set_cons_succ])
            refine wpAnyH_done (by kernel_rfl) ?_ _
            go_wp2_with fail
            go_meet
            exact ⟨pF, rfl, X10.out, D10.out, N10.out, E10.out, M10.out, G8.out, OFF.out.1.2.2⟩
          · go_simp
            have bb : Below w7.heap.size w7 (w7.alloc (.cells #[.int .i64 0, .int .i64 0, .int .i64 0] 51)) := (Below.refl _ w7).alloc (Nat.le_refl _) _
            have LL8 := Lib.hid (LL7.out.trans (bb.mono LL7.out.size))
            have X8 : Hid (Cells (w7.alloc (.cells #[.int .i64 0, .int .i64 0, .int .i64 0] 51)) w7.heap.size 51 #[.int .i64 0, .int .i64 0, .int .i64 0]) := Cells.new w7 _ _
            have G8 : Hid (w.heap.size + 1 < w7.heap.size) := Lea.Cells.lt (Lea.Cells.below N1.out LL7.out)
            have OFF : Hid (Off g (oL x) (oW x) w7.heap.size ∧ (Value.slice x.S x.m x.s).ownBlock ≠ some w7.heap.size) := ⟨Off.new (D1.out.below LL7.out) (Nat.le_refl _), fun h => by have := (Spa.OwnsL.lt (D1.out.below LL7.out).s _ h).2; omega⟩
            clear bb
            refine hK.out _ _ (HS _ LL8.out).2 (fun hHeld2 => ?_)
            clear hK K
            (try simp only [Act.put, List.setIfInBounds_toArray, List.set_cons_zero, List.set_cons_succ])
            generalize w7.alloc (.cells #[.int .i64 0, .int .i64 0, .int .i64 0] 51) = w8 at *
            generalize w7.heap.size = pF at *
            refine Reg.step 5 rfl (by kernel_rfl) (by rfl) (fun K hK => ?_)
            go_simp
            refine (HNX w8 (D1.out.below LL8.out).box).out.mono ?_
            rintro e' w9 ⟨rfl, hw9⟩
            have bt := Lea.But.set1 w8 g 0 (.int .i64 (x.p.t.last + 1))
            rw [← hw9] at bt
            have D9 : Hid (Desk base w9 g ⟨setT x.p (moreT x.p), x.A, x.n, x.a, x.S, x.m, x.s, x.W, x.q, x.k⟩) := by show Desk _ _ _ _; rw [hw9]; exact (D1.out.below LL8.out).setLast _
            have N9 := Lib.hid (Lea.Cells.but (Lea.Cells.below N1.out LL8.out) bt (cells_ne (Lea.Cells.below N1.out LL8.out) (D1.out.below LL8.out).box (by decide)))
            have E9 := Lib.hid (Lea.Cells.but (Lea.Cells.below E1.out LL8.out) bt (cells_ne (Lea.Cells.below E1.out LL8.out) (D1.out.below LL8.out).box (by decide)))
            have X9 := Lib.hid (Lea.Cells.but X8.out bt (cells_ne X8.out (D1.out.below LL8.out).box (by decide)))
            have M9 : Hid (Move base g (oL x) (oW x) (oL x) (oW x) w w9) := (Move.of_below (L1.out.trans (LL8.out.mono L1.out.size)) H0.out.low).trans (Move.box bt H0.out.le (D1.out.below LL8.out).low)
            clear hw9 bt X8
            refine hK.out _ _ (EBox.cells E9.out) (fun hHeld3 => ?_)
            clear hK K
            (try simp only [Act.put, List.setIfInBounds_toArray, List.set_cons_zero, List.set_cons_succ])
            (first | (refine Reg.take 6 (v := ?_) rfl (by kernel_rfl) (by kernel_rfl) (by kernel_rfl) (fun _ _ _ h => h) (Or.inl ⟨by rfl, ?_⟩) (by assumption) ?_; rotate_left; (focus ((intro W hSW); (try dsimp only at hSW); (try go_split_ands); go_simp; (try (with_reducible rfl)); done))) | (refine Reg.take 6 (v := undef) rfl (by kernel_rfl) (by kernel_rfl) (by kernel_rfl) (fun _ _ _ h => h) (Or.inr ⟨by rfl, rfl⟩) (by assumption) ?_))
            (try simp only [Act.put, List.setIfInBounds_toArray, List.set_cons_zero, List.set_cons_succ])
            refine Reg.step 8 rfl (by kernel_rfl) (by rfl) (fun K hK => ?_)
            have y0 : w9.cell? ⟨pF, 0, none⟩ = some _ := Lea.Cells.cell X9.out 0
            have y1 : w9.cell? ⟨pF, 1, none⟩ = some _ := Lea.Cells.cell X9.out 1
            have y2 : w9.cell? ⟨pF, 2, none⟩ = some _ := Lea.Cells.cell X9.out 2
            have f0 : w9.frozen? ⟨pF, 0, none⟩ = false := Lea.Cells.frozen X9.out 0
            have f1 : w9.frozen? ⟨pF, 1, none⟩ = false := Lea.Cells.frozen X9.out 1
            have f2 : w9.frozen? ⟨pF, 2, none⟩ = false := Lea.Cells.frozen X9.out 2
            go_simp
            clear y0 y1 y2 f0 f1 f2
            have bt := Lea.But.set3 w9 pF (.int .i64 e.zone) (.int .i64 e.host) (.int .i64 (x.p.t.last + 1))
            have D10 := Lib.hid (D9.out.far bt OFF.out.1 OFF.out.2)
            have N10 := Lib.hid (Lea.Cells.but N9.out bt (cells_ne N9.out X9.out (by decide)))
            have E10 := Lib.hid (Lea.Cells.but E9.out bt (cells_ne E9.out X9.out (by decide)))
            have X10 : Hid (FBox (((w9.setCell ⟨pF, 0, none⟩ (.int .i64 e.zone)).setCell ⟨pF, 1, none⟩ (.int .i64 e.host)).setCell ⟨pF, 2, none⟩ (.int .i64 (x.p.t.last + 1))) pF (askF x.p e)) := Lea.Cells.set3 X9.out _ _ _
            have M10 := Lib.hid (M9.out.tail bt (by have := G8.out; omega) H0.out.low)
            clear bt
            refine hK.out _ _ (EBox.cells E10.out) (fun hHeld4 => ?_)
            clear hK K
            (try simp only [Act.put, List.setIfInBounds_toArray, List.set_cons_zero, List.set_cons_succ])
            refine wpAnyH_done (by kernel_rfl) ?_ _
            go_wp2_with fail
            go_meet
            exact ⟨pF, rfl, X10.out, D10.out, N10.out, E10.out, M10.out, G8.out, OFF.out.1.2.2⟩
        case rest =>
          obtain ⟨pF, rfl, hP⟩ := hcut
          have XF := Lib.hid hP.out.1
          have D7 := Lib.hid hP.out.2.1
          have N7 := Lib.hid hP.out.2.2.1
          have M7 := Lib.hid hP.out.2.2.2.2.1
          have G7 := Lib.hid hP.out.2.2.2.2.2.1
          have NF := Lib.hid hP.out.2.2.2.2.2.2
          clear hP HS HA HM HZ HNX HRF D1 E1 N1 LL1 LL3 LL5 LL6
          generalize wc = w7 at *
          go_upto_region 8 with fail
          have HS := fun W (hW : Below w7.heap.size w7 W) => FBox.cells (Lea.Cells.below XF.out hW)
          have LL8 : Hid (Below w7.heap.size w7 w7.drew) := (Below.refl _ w7).drew
          refine wp_region_held_drew (S := fun W => W.cell? ⟨pF, 0, none⟩ = some (.int .i64 e.zone) ∧ W.cell? ⟨pF, 1, none⟩ = some (.int .i64 e.host) ∧ W.cell? ⟨pF, 2, none⟩ = some (.int .i64 (x.p.t.last + 1))) (by kernel_rfl) (HS _ LL8.out) (fun hHeld => ?_)
          generalize w7.drew = w8 at *
          (first | (refine Reg.take 0 (v := ?_) rfl (by kernel_rfl) (by kernel_rfl) (by kernel_rfl) (fun _ _ _ h => h) (Or.inl ⟨by rfl, ?_⟩) (by assumption) ?_; rotate_left; (focus ((intro W hSW); (try dsimp only at hSW); (try go_split_ands); go_simp; (try (with_reducible rfl)); done))) | (refine Reg.take 0 (v := undef) rfl (by kernel_rfl) (by kernel_rfl) (by kernel_rfl) (fun _ _ _ h => h) (Or.inr ⟨by rfl, rfl⟩) (by assumption) ?_))
          (try simp only [Act.put, List.setIfInBounds_toArray, List.set_cons_zero, List.set_cons_succ])
          (first | (refine Reg.take 1 (v := ?_) rfl (by kernel_rfl) (by kernel_rfl) (by kernel_rfl) (fun _ _ _ h => h) (Or.inl ⟨by rfl, ?_⟩) (by assumption) ?_; rotate_left; (focus ((intro W hSW); (try dsimp only at hSW); (try go_split_ands); go_simp; (try (with_reducible rfl)); done))) | (refine Reg.take 1 (v := undef) rfl (by kernel_rfl) (by kernel_rfl) (by kernel_rfl) (fun _ _ _ h => h) (Or.inr ⟨by rfl, rfl⟩) (by assumption) ?_))
          (try simp only [Act.put, List.setIfInBounds_toArray, List.set_cons_zero, List.set_cons_succ])
          (first | (refine Reg.take 2 (v := ?_) rfl (by kernel_rfl) (by kernel_rfl) (by kernel_rfl) (fun _ _ _ h => h) (Or.inl ⟨by rfl, ?_⟩) (by assumption) ?_; rotate_left; (focus ((intro W hSW); (try dsimp only at hSW); (try go_split_ands); go_simp; (try (with_reducible rfl)); done))) | (refine Reg.take 2 (v := undef) rfl (by kernel_rfl) (by kernel_rfl) (by kernel_rfl) (fun _ _ _ h => h) (Or.inr ⟨by rfl, rfl⟩) (by assumption) ?_))
          (try simp only [Act.put, List.setIfInBounds_toArray, List.set_cons_zero, List.set_cons_succ])
          (first | (refine Reg.take 3 (v := ?_) rfl (by kernel_rfl) (by kernel_rfl) (by kernel_rfl) (fun _ _ _ h => h) (Or.inl ⟨by rfl, ?_⟩) (by assumption) ?_; rotate_left; (focus ((intro W hSW); (try dsimp only at hSW); (try go_split_ands); go_simp; (try (with_reducible rfl)); done))) | (refine Reg.take 3 (v := undef) rfl (by kernel_rfl) (by kernel_rfl) (by kernel_rfl) (fun _ _ _ h => h) (Or.inr ⟨by rfl, rfl⟩) (by assumption) ?_))
          (try simp only [Act.put, List.setIfInBounds_toArray, List.set_cons_zero, List.set_cons_succ])
          (first | (refine Reg.take 4 (v := ?_) rfl (by kernel_rfl) (by kernel_rfl) (by kernel_rfl) (fun _ _ _ h => h) (Or.inl ⟨by rfl, ?_⟩) (by assumption) ?_; rotate_left; (focus ((intro W hSW); (try dsimp only at hSW); (try go_split_ands); go_simp; (try (with_reducible rfl)); done))) | (refine Reg.take 4 (v := undef) rfl (by kernel_rfl) (by kernel_rfl) (by kernel_rfl) (fun _ _ _ h => h) (Or.inr ⟨by rfl, rfl⟩) (by assumption) ?_))
          (try simp only [Act.put, List.setIfInBounds_toArray, List.set_cons_zero, List.set_cons_succ])
          (first | (refine Reg.take 6 (v := ?_) rfl (by kernel_rfl) (by kernel_rfl) (by kernel_rfl) (fun _ _ _ h => h) (Or.inl ⟨by rfl, ?_⟩) (by assumption) ?_; rotate_left; (focus ((intro W hSW); (try dsimp only at hSW); (try go_split_ands); go_simp; (try (with_reducible rfl)); done))) | (refine Reg.take 6 (v := undef) rfl (by kernel_rfl) (by kernel_rfl) (by kernel_rfl) (fun _ _ _ h => h) (Or.inr ⟨by rfl, rfl⟩) (by assumption) ?_))
          (try simp only [Act.put, List.setIfInBounds_toArray, List.set_cons_zero, List.set_cons_succ])
          refine Reg.step2 5 7 rfl rfl (by kernel_rfl) (by rfl) (by rfl) (fun K hK => ?_) (fun K hK => ?_)
          · have m4 := (seven (D7.out.below LL8.out).box).2.2.2.2.1
            go_simp
            clear m4
            refine hK.out _ _ (HS _ LL8.out) (fun hHeldA => ?_)
            clear hK K
            (try simp only [Act.put, List.setIfInBounds_toArray, List.set_cons_zero, List.set_cons_succ])
            refine Reg.step 7 rfl (by kernel_rfl) (by rfl) (fun K hK => ?_)
            go_simp
            have bb : Below w8.heap.size w8 (w8.alloc (.cells #[.int .i64 e.zone, .int .i64 e.host, .int .i64 (x.p.t.last + 1)] 51)) := (Below.refl _ w8).alloc (Nat.le_refl _) _
            have LL9 := Lib.hid (LL8.out.trans (bb.mono LL8.out.size))
            have Q9 : Hid (FBox (w8.alloc (.cells #[.int .i64 e.zone, .int .i64 e.host, .int .i64 (x.p.t.last + 1)] 51)) w8.heap.size (askF x.p e)) := Cells.new w8 _ _
            clear bb LL8
            refine hK.out _ _ (HS _ LL9.out) (fun hHeld2 => ?_)
            clear hK K
            (try simp only [Act.put, List.setIfInBounds_toArray, List.set_cons_zero, List.set_cons_succ])
            generalize w8.alloc (.cells #[.int .i64 e.zone, .int .i64 e.host, .int .i64 (x.p.t.last + 1)] 51) = w9 at *
            generalize w8.heap.size = pQ at *
            have D9 := Lib.hid (D7.out.below LL9.out)
            refine Reg.step 8 rfl (by kernel_rfl) (by rfl) (fun K hK => ?_)
            refine wp_append_f1 (.tmp 44) (.tmp 46) rfl rfl base (.slice x.W x.q x.k) x.q x.p.wt rfl D9.out.f _ 1 1 [askF x.p e] rfl (RowS.one Q9.out) (by omega) D9.out.low ?_
            intro W' c' w10 hown hgr hob
            have F10 := Lib.hid hown
            have B10 := Lib.hid (cells_grown D9.out.box hgr D9.out.gW)
            have XF10 := Lib.hid (cells_grown (Lea.Cells.below XF.out LL9.out) hgr NF.out)
            have N10 := Lib.hid (cells_grown (Lea.Cells.below N7.out LL9.out) hgr (own_ne D9.out.f.1 (Lea.Cells.below N7.out LL9.out) (by decide)))
            have OL10 := Lib.hid (Lea.OwnsL.kept D9.out.l hgr (own_apart D9.out.l.1 D9.out.f.1 (by decide)))
            have OS10 := Lib.hid (Spa.OwnsL.kept D9.out.s hgr (own_apart D9.out.s.1 D9.out.f.1 (by decide)))
            have M10 := Lib.hid ((M7.out.trans (Move.of_below LL9.out D7.out.low)).trans (Move.rowW hgr D9.out.low (fun k hk => (OwnsF.lt D9.out.f k hk).1)))
            have Q10 : Hid (w.heap.size + 1 < w10.heap.size ∧ w.heap.size ≤ w9.heap.size) := ⟨Lea.Cells.lt N10.out, by have := M7.out.size; have := LL9.out.size; omega⟩
            have OB : Hid ((Value.slice W' (x.q + 1) c').ownBlock = oW x ∨ ∀ k, (Value.slice W' (x.q + 1) c').ownBlock = some k → w.heap.size ≤ k) := by
              rcases hob with h1 | h1
              · exact .inl h1
              · exact .inr fun k hk => by rw [h1] at hk; injection hk with hk; have := Q10.out.2; omega
            clear hown hgr hob D9 Q9 LL9
            refine hK.out _ _ (FBox.cells XF10.out) (fun hHeld3 => ?_)
            clear hK K
            (try simp only [Act.put, List.setIfInBounds_toArray, List.set_cons_zero, List.set_cons_succ])
            (first | (refine Reg.take 9 (v := ?_) rfl (by kernel_rfl) (by kernel_rfl) (by kernel_rfl) (fun _ _ _ h => h) (Or.inl ⟨by rfl, ?_⟩) (by assumption) ?_; rotate_left; (focus ((intro W hSW); (try dsimp only at hSW); (try go_split_ands); go_simp; (try (with_reducible rfl)); done))) | (refine Reg.take 9 (v := undef) rfl (by kernel_rfl) (by kernel_rfl) (by kernel_rfl) (fun _ _ _ h => h) (Or.inr ⟨by rfl, rfl⟩) (by assumption) ?_))
            (try simp only [Act.put, List.setIfInBounds_toArray, List.set_cons_zero, List.set_cons_succ])
            (first | (refine Reg.take 10 (v := ?_) rfl (by kernel_rfl) (by kernel_rfl) (by kernel_rfl) (fun _ _ _ h => h) (Or.inl ⟨by rfl, ?_⟩) (by assumption) ?_; rotate_left; (focus ((intro W hSW); (try dsimp only at hSW); (try go_split_ands); go_simp; (try (with_reducible rfl)); done))) | (refine Reg.take 10 (v := undef) rfl (by kernel_rfl) (by kernel_rfl) (by kernel_rfl) (fun _ _ _ h => h) (Or.inr ⟨by rfl, rfl⟩) (by assumption) ?_))
            (try simp only [Act.put, List.setIfInBounds_toArray, List.set_cons_zero, List.set_cons_succ])
            (first | (refine Reg.take 11 (v := ?_) rfl (by kernel_rfl) (by kernel_rfl) (by kernel_rfl) (fun _ _ _ h => h) (Or.inl ⟨by rfl, ?_⟩) (by assumption) ?_; rotate_left; (focus ((intro W hSW); (try dsimp only at hSW); (try go_split_ands); go_simp; (try (with_reducible rfl)); done))) | (refine Reg.take 11 (v := undef) rfl (by kernel_rfl) (by kernel_rfl) (by kernel_rfl) (fun _ _ _ h => h) (Or.inr ⟨by rfl, rfl⟩) (by assumption) ?_))
            (try simp only [Act.put, List.setIfInBounds_toArray, List.set_cons_zero, List.set_cons_succ])
            refine Reg.step 12 rfl (by kernel_rfl) (by rfl) (fun K hK => ?_)
            have m4 := (seven B10.out).2.2.2.2.1
            have f4 := (seven_frozen B10.out).2.2.2.2.1
            go_simp
            clear m4 f4
            have D11 := Lib.hid (desk_setW (x := ⟨setT x.p (moreT x.p), x.A, x.n, x.a, x.S, x.m, x.s, x.W, x.q, x.k⟩) B10.out OL10.out OS10.out H0.out.le F10.out)
            have bt := Lea.But.set1 w10 g 4 (.slice W' (x.q + 1) c')
            have XF11 := Lib.hid (Lea.Cells.but XF10.out bt (cells_ne XF10.out B10.out (by decide)))
            have N11 := Lib.hid (Lea.Cells.but N10.out bt (cells_ne N10.out B10.out (by decide)))
            have M11 := Lib.hid (Move.new (M10.out.trans (Move.box bt H0.out.le (Nat.le_trans H0.out.low (Nat.le_trans (Nat.le_of_lt (Nat.lt_of_succ_lt Q10.out.1)) (Nat.le_refl _))))) (.inl rfl) OB.out)
            clear bt B10 XF10 N10 OL10 OS10 F10 M10 M7 N7 D7 XF
            refine hK.out _ _ (FBox.cells XF11.out) (fun hHeld4 => ?_)
            clear hK K
            (try simp only [Act.put, List.setIfInBounds_toArray, List.set_cons_zero, List.set_cons_succ])
            refine wpAnyH_done (by kernel_rfl) ?_ _
            generalize w10.setCell ⟨g, 4, none⟩ (.slice W' (x.q + 1) c') = w11 at *
            have bb : Below w11.heap.size w11 (w11.alloc (.cells #[.int .i64 e.zone, .int .i64 e.host, .int .i64 (x.p.t.last + 1)] 51)) := (Below.refl _ w11).alloc (Nat.le_refl _) _
            have D12 := Lib.hid (D11.out.below bb)
            have N12 := Lib.hid (Lea.Cells.below N11.out bb)
            have M12 := Lib.hid (M11.out.trans (Move.of_below bb D11.out.low))
            have T12 : Hid (FBox (w11.alloc (.cells #[.int .i64 e.zone, .int .i64 e.host, .int .i64 (x.p.t.last + 1)] 51)) w11.heap.size (askF x.p e)) := Cells.new w11 _ _
            have OFF := Lib.hid (Off.new D11.out (Nat.le_refl w11.heap.size))
            have G12 : Hid (w.heap.size + 1 < w11.heap.size) := Lea.Cells.lt N11.out
            clear bb D11 N11 M11
            obtain ⟨x0, x1, x2⟩ := FBox.cells XF11.out
            obtain ⟨n0, n1, n2⟩ := ABox.cells N12.out
            obtain ⟨f0, f1, f2⟩ := ABox.frozen N12.out
            unfold askF at x0 x1 x2
            dsimp only at x0 x1 x2
            go_wp2_with fail
            refine bodyPost_ret_by (results_cell_row rfl _ _ (w.heap.size + 1) _ _ _ _ rfl (ABox.store N12.out 0 (x.p.t.last + 1) (some ⟨w11.heap.size, 0, none⟩) 1 1) Tryz.underlying39 rfl (by kernel_rfl)) rfl ?_
            unfold askC
            rw [e1, e2, e3]
            exact acted_end (by omega) H0.out.low rfl D12.out N12.out M12.out (RowS.one T12.out) (fun k o h => by injection h with h; injection h with h; subst h; exact ⟨by have := G12.out; omega, by have := G12.out; omega, OFF.out⟩) rfl rfl
          · go_simp
            have bb : Below w8.heap.size w8 (w8.alloc (.cells #[.int .i64 e.zone, .int .i64 e.host, .int .i64 (x.p.t.last + 1)] 51)) := (Below.refl _ w8).alloc (Nat.le_refl _) _
            have LL9 := Lib.hid (LL8.out.trans (bb.mono LL8.out.size))
            have Q9 : Hid (FBox (w8.alloc (.cells #[.int .i64 e.zone, .int .i64 e.host, .int .i64 (x.p.t.last + 1)] 51)) w8.heap.size (askF x.p e)) := Cells.new w8 _ _
            clear bb LL8
            refine hK.out _ _ (HS _ LL9.out) (fun hHeld2 => ?_)
            clear hK K
            (try simp only [Act.put, List.setIfInBounds_toArray, List.set_cons_zero, List.set_cons_succ])
            generalize w8.alloc (.cells #[.int .i64 e.zone, .int .i64 e.host, .int .i64 (x.p.t.last + 1)] 51) = w9 at *
            generalize w8.heap.size = pQ at *
            refine Reg.step 5 rfl (by kernel_rfl) (by rfl) (fun K hK => ?_)
            have m4 := (seven (D7.out.below LL9.out).box).2.2.2.2.1
            go_simp
            clear m4
            refine hK.out _ _ (HS _ LL9.out) (fun hHeldA => ?_)
            clear hK K
            (try simp only [Act.put, List.setIfInBounds_toArray, List.set_cons_zero, List.set_cons_succ])
            have D9 := Lib.hid (D7.out.below LL9.out)
            refine Reg.step 8 rfl (by kernel_rfl) (by rfl) (fun K hK => ?_)
            refine wp_append_f1 (.tmp 44) (.tmp 46) rfl rfl base (.slice x.W x.q x.k) x.q x.p.wt rfl D9.out.f _ 1 1 [askF x.p e] rfl (RowS.one Q9.out) (by omega) D9.out.low ?_
            intro W' c' w10 hown hgr hob
            have F10 := Lib.hid hown
            have B10 := Lib.hid (cells_grown D9.out.box hgr D9.out.gW)
            have XF10 := Lib.hid (cells_grown (Lea.Cells.below XF.out LL9.out) hgr NF.out)
            have N10 := Lib.hid (cells_grown (Lea.Cells.below N7.out LL9.out) hgr (own_ne D9.out.f.1 (Lea.Cells.below N7.out LL9.out) (by decide)))
            have OL10 := Lib.hid (Lea.OwnsL.kept D9.out.l hgr (own_apart D9.out.l.1 D9.out.f.1 (by decide)))
            have OS10 := Lib.hid (Spa.OwnsL.kept D9.out.s hgr (own_apart D9.out.s.1 D9.out.f.1 (by decide)))
            have M10 := Lib.hid ((M7.out.trans (Move.of_below LL9.out D7.out.low)).trans (Move.rowW hgr D9.out.low (fun k hk => (OwnsF.lt D9.out.f k hk).1)))
            have Q10 : Hid (w.heap.size + 1 < w10.heap.size ∧ w.heap.size ≤ w9.heap.size) := ⟨Lea.Cells.lt N10.out, by have := M7.out.size; have := LL9.out.size; omega⟩
            have OB : Hid ((Value.slice W' (x.q + 1) c').ownBlock = oW x ∨ ∀ k, (Value.slice W' (x.q + 1) c').ownBlock = some k → w.heap.size ≤ k) := by
              rcases hob with h1 | h1
              · exact .inl h1
              · exact .inr fun k hk => by rw [h1] at hk; injection hk with hk; have := Q10.out.2; omega
            clear hown hgr hob D9 Q9 LL9
            refine hK.out _ _ (FBox.cells XF10.out) (fun hHeld3 => ?_)
            clear hK K
            (try simp only [Act.put, List.setIfInBounds_toArray, List.set_cons_zero, List.set_cons_succ])
            (first | (refine Reg.take 9 (v := ?_) rfl (by kernel_rfl) (by kernel_rfl) (by kernel_rfl) (fun _ _ _ h => h) (Or.inl ⟨by rfl, ?_⟩) (by assumption) ?_; rotate_left; (focus ((intro W hSW); (try dsimp only at hSW); (try go_split_ands); go_simp; (try (with_reducible rfl)); done))) | (refine Reg.take 9 (v := undef) rfl (by kernel_rfl) (by kernel_rfl) (by kernel_rfl) (fun _ _ _ h => h) (Or.inr ⟨by rfl, rfl⟩) (by assumption) ?_))
            (try simp only [Act.put, List.setIfInBounds_toArray, List.set_cons_zero, List.set_cons_succ])
            (first | (refine Reg.take 10 (v := ?_) rfl (by kernel_rfl) (by kernel_rfl) (by kernel_rfl) (fun _ _ _ h => h) (Or.inl ⟨by rfl, ?_⟩) (by assumption) ?_; rotate_left; (focus ((intro W hSW); (try dsimp only at hSW); (try go_split_ands); go_simp; (try (with_reducible rfl)); done))) | (refine Reg.take 10 (v := undef) rfl (by kernel_rfl) (by kernel_rfl) (by kernel_rfl) (fun _ _ _ h => h) (Or.inr ⟨by rfl, rfl⟩) (by assumption) ?_))
            (try simp only [Act.put, List.setIfInBounds_toArray, List.set_cons_zero, List.set_cons_succ])
            (first | (refine Reg.take 11 (v := ?_) rfl (by kernel_rfl) (by kernel_rfl) (by kernel_rfl) (fun _ _ _ h => h) (Or.inl ⟨by rfl, ?_⟩) (by assumption) ?_; rotate_left; (focus ((intro W hSW); (try dsimp only at hSW); (try go_split_ands); go_simp; (try (with_reducible rfl)); done))) | (refine Reg.take 11 (v := undef) rfl (by kernel_rfl) (by kernel_rfl) (by kernel_rfl) (fun _ _ _ h => h) (Or.inr ⟨by rfl, rfl⟩) (by assumption) ?_))
            (try simp only [Act.put, List.setIfInBounds_toArray, List.set_cons_zero, List.set_cons_succ])
            refine Reg.step 12 rfl (by kernel_rfl) (by rfl) (fun K hK => ?_)
            have m4 := (seven B10.out).2.2.2.2.1
            have f4 := (seven_frozen B10.out).2.2.2.2.1
            go_simp
            clear m4 f4
            have D11 := Lib.hid (desk_setW (x := ⟨setT x.p (moreT x.p), x.A, x.n, x.a, x.S, x.m, x.s, x.W, x.q, x.k⟩) B10.out OL10.out OS10.out H0.out.le F10.out)
            have bt := Lea.But.set1 w10 g 4 (.slice W' (x.q + 1) c')
            have XF11 := Lib.hid (Lea.Cells.but XF10.out bt (cells_ne XF10.out B10.out (by decide)))
            have N11 := Lib.hid (Lea.Cells.but N10.out bt (cells_ne N10.out B10.out (by decide)))
            have M11 := Lib.hid (Move.new (M10.out.trans (Move.box bt H0.out.le (Nat.le_trans H0.out.low (Nat.le_trans (Nat.le_of_lt (Nat.lt_of_succ_lt Q10.out.1)) (Nat.le_refl _))))) (.inl rfl) OB.out)
            clear bt B10 XF10 N10 OL10 OS10 F10 M10 M7 N7 D7 XF
            refine hK.out _ _ (FBox.cells XF11.out) (fun hHeld4 => ?_)
            clear hK K
            (try simp only [Act.put, List.setIfInBounds_toArray, List.set_cons_zero, List.set_cons_succ])
            refine wpAnyH_done (by kernel_rfl) ?_ _
            generalize w10.setCell ⟨g, 4, none⟩ (.slice W' (x.q + 1) c') = w11 at *
            have bb : Below w11.heap.size w11 (w11.alloc (.cells #[.int .i64 e.zone, .int .i64 e.host, .int .i64 (x.p.t.last + 1)] 51)) := (Below.refl _ w11).alloc (Nat.le_refl _) _
            have D12 := Lib.hid (D11.out.below bb)
            have N12 := Lib.hid (Lea.Cells.below N11.out bb)
            have M12 := Lib.hid (M11.out.trans (Move.of_below bb D11.out.low))
            have T12 : Hid (FBox (w11.alloc (.cells #[.int .i64 e.zone, .int .i64 e.host, .int .i64 (x.p.t.last + 1)] 51)) w11.heap.size (askF x.p e)) := Cells.new w11 _ _
            have OFF := Lib.hid (Off.new D11.out (Nat.le_refl w11.heap.size))
            have G12 : Hid (w.heap.size + 1 < w11.heap.size) := Lea.Cells.lt N11.out
            clear bb D11 N11 M11
            obtain ⟨x0, x1, x2⟩ := FBox.cells XF11.out
            obtain ⟨n0, n1, n2⟩ := ABox.cells N12.out
            obtain ⟨f0, f1, f2⟩ := ABox.frozen N12.out
            unfold askF at x0 x1 x2
            dsimp only at x0 x1 x2
            go_wp2_with fail
            refine bodyPost_ret_by (results_cell_row rfl _ _ (w.heap.size + 1) _ _ _ _ rfl (ABox.store N12.out 0 (x.p.t.last + 1) (some ⟨w11.heap.size, 0, none⟩) 1 1) Tryz.underlying39 rfl (by kernel_rfl)) rfl ?_
            unfold askC
            rw [e1, e2, e3]
            exact acted_end (by omega) H0.out.low rfl D12.out N12.out M12.out (RowS.one T12.out) (fun k o h => by injection h with h; injection h with h; subst h; exact ⟨by have := G12.out; omega, by have := G12.out; omega, OFF.out⟩) rfl rfl
      · skip
        go_wp2_with fail
        refine (HRF 60 w6).out.mono ?_
        rintro e' w7 ⟨rfl, hb⟩
        have LL7 := Lib.hid (LL6.out.trans (hb.mono LL6.out.size))
        have D7 := Lib.hid (D1.out.below LL7.out)
        have N7 := Lib.hid (Lea.Cells.below N1.out LL7.out)
        clear hb
        obtain ⟨n0, n1, n2⟩ := ABox.cells N7.out
        obtain ⟨f0, f1, f2⟩ := ABox.frozen N7.out
        go_wp2_with fail
        refine bodyPost_ret_by (results_cell_row rfl _ _ (w.heap.size + 1) _ _ _ _ rfl (ABox.store N7.out 60 0 none 0 0) Tryz.underlying39 rfl (by kernel_rfl)) rfl ?_
        unfold askC
        rw [e1, e2, e3]
        exact acted_bad (by omega) H0.out.low D7.out N7.out (L1.out.trans (LL7.out.mono L1.out.size)) 60
end Coo
end Go.Proofs.YtmflngclncidjaaGreat
/-
  WALKS: slices.Delete of one fence, slices.DeleteFunc, on a row of one's own.
-/
namespace Go.Proofs.YtmflngclncidjaaGreat
open Go.RowKit Mem
namespace Coo
open Lea (Cells But OneBox)

theorem fences_three (z : Value) (n : Nat) : (Builtin.zeroCells #[z, z, z] n).toList.length = n * 3 := by simp [Builtin.zeroCells]
theorem zeros_one (n : Nat) : ∀ v ∈ (Builtin.zeroCells #[.int .i64 0, .int .i64 0, .int .i64 0] n).toList, v.oneCell' = true := by
  intro v hv
  unfold Builtin.zeroCells at hv
  rw [Array.mem_toList_iff, Array.mem_map] at hv
  obtain ⟨i, -, rfl⟩ := hv
  have h3 : i % 3 = 0 ∨ i % 3 = 1 ∨ i % 3 = 2 := by omega
  have : (#[Value.int .i64 0, .int .i64 0, .int .i64 0] : Array Value).size = 3 := rfl
  rw [this]
  rcases h3 with h | h | h <;> rw [h] <;> rfl
/-- clear of n > 0 fences in a row of one's own. -/
theorem run_clear_f (w : World) (ty : TypeId) (g o n c : Nat) (cur : List Value) (hg : Cells w g 51 cur.toArray) (hn : 0 < n) (hfit : o + n * 3 ≤ cur.length) :
    (Builtin.clear_ #[29] ty #[.slice (some ⟨g, o, none⟩) n c]).run Tryz.prog w = .ok (.tuple #[]) (w.setRow g (splice cur o (Builtin.zeroCells #[.int .i64 0, .int .i64 0, .int .i64 0] n).toList).toArray) := by
  have hst := run_storeCells_at Tryz.prog g o 51 (Builtin.zeroCells #[.int .i64 0, .int .i64 0, .int .i64 0] n).toList 0 cur.toArray w hg (by rw [fences_three]; simpa using hfit) (zeros_one n)
  have hz : (zeroValue 51).run Tryz.prog w = .ok (.agg #[.int .i64 0, .int .i64 0, .int .i64 0]) w := by
    obtain ⟨i, hi, hz0, -⟩ := info_parts info_fence
    simp [zeroValue, typeInfo, hi, hz0]
  obtain ⟨m, rfl⟩ : ∃ m, n = m + 1 := ⟨n - 1, by omega⟩
  simp [Builtin.clear_, run_underlying Tryz.underlying29, hz, Value.cells, hst, splice, List.append_assoc]
theorem splice_take {α : Type} (L : List α) (o : Nat) (cs : List α) (k : Nat) (hk : k ≤ o) (ho : o ≤ L.length) : (splice L o cs).take k = L.take k := by
  unfold splice
  rw [List.take_append, List.take_take, Nat.min_eq_left hk]
  simp
  omega
theorem run_tailF (A : Option Addr) (n c k : Nat) (hk : k ≤ n) (w : World) : (Instr.slice 29 (.slice A n c) (some (.int .i64 (k : Int))) none none).run Tryz.prog w = .ok (.slice (if c = k then A else A.map (·.add (k * 3))) (n - k) (c - k)) w := by
  obtain ⟨i, hi, -, e, -⟩ := info_parts info_fence
  have h0 : (0 : Int) ≤ (k : Int) := by omega
  have h1 : (k : Int) ≤ (n : Int) := by omega
  simp [Instr.slice, Instr.sliceBounds, run_sliceBound, h0, h1, run_underlying Tryz.underlying29, sizeOf, typeInfo, hi, e]
theorem run_headF (A : Option Addr) (n c k : Nat) (h : k ≤ c) (w : World) : (Instr.slice 29 (.slice A n c) none (some (.int .i64 (k : Int))) none).run Tryz.prog w = .ok (.slice A k c) w := by
  obtain ⟨i, hi, hz0, hz1, hz2⟩ := info_parts info_fence
  have e : (if c = 0 then A else A.map (·.add 0)) = A := by
    split
    · rfl
    · cases A with
      | none => rfl
      | some x => simp [Addr.add]
  have h1 : (k : Int) ≤ (c : Int) := by omega
  have h0 : (0 : Int) ≤ (k : Int) := by omega
  simp [Instr.slice, Instr.sliceBounds, run_sliceBound, h0, h1, run_underlying Tryz.underlying29, sizeOf, typeInfo, hi, e]
theorem run_midF (g n c k j : Nat) (hk : k < j) (hj : j ≤ c) (w : World) : (Instr.slice 29 (.slice (some ⟨g, 0, none⟩) n c) (some (.int .i64 (k : Int))) (some (.int .i64 (j : Int))) none).run Tryz.prog w = .ok (.slice (some ⟨g, k * 3, none⟩) (j - k) (c - k)) w := by
  obtain ⟨i, hi, -, e, -⟩ := info_parts info_fence
  have h0 : (0 : Int) ≤ (k : Int) := by omega
  have h1 : (k : Int) ≤ (j : Int) := by omega
  have h2 : (j : Int) ≤ (c : Int) := by omega
  have h3 : ¬ c = k := by omega
  simp [Instr.slice, Instr.sliceBounds, run_sliceBound, h0, h1, h2, h3, run_underlying Tryz.underlying29, sizeOf, typeInfo, hi, e, Mem.add_none]
/-- append, one operation of a region that draws, where there is room. -/
theorem wp_append_room {w : World} {o : Oper} {a : Act} {K : Act → World → Prop} {Q : Exit → Act → World → Prop} (s x : Operand)
    (ho : o.op = .call { callee := .builtin .append, args := #[s, x], argTypes := #[29, 29] }) {v u : Value} (hs : a.eval s = v) (hx : a.eval x = u) {m : Value} {w' : World}
    (hr : (Builtin.append_ #[29, 29] o.type #[v, u]).run Tryz.prog w = .ok m w') (h : K (a.put o.dst m) w') : o.wp Tryz.prog a w K Q := by
  unfold Oper.wp execOp
  simp only [ho, resolve, invoke, builtin, Sem.run_bind, Sem.run_pure, Result.andThen_ok, List.map_toArray, List.map_cons, List.map_nil, hs, hx, hr]
  exact h

end Coo
end Go.Proofs.YtmflngclncidjaaGreat
