/-
  SEVERAL TEXTS IN ONE FILE: CooJoin, CooClo, CooIdx, CooAway, CooOwn.
-/
import Derived.Test.YtmflngclncidjaaGreatJ11
import Derived.Test.YtmflngclncidjaaGreatJ10
import Derived.Test.YtmflngclncidjaaGreatJ05
import Derived.Shelf.Abstract
import Derived.Laws.CopyOwn
/-
  WALKS OVER join, elect. (Written by gen_coojoin.py.)
-/
namespace Go.Proofs.YtmflngclncidjaaGreat
open Go.RowKit Mem
namespace Coo
open Lea (Cells But OneBox Lv Tv)
open Spa (Sp)

set_option maxRecDepth 100000 in
set_option maxHeartbeats 12800000 in
theorem join_act {base g N : Nat} {x : Cx} {w : World} {e : Ev} (h : Desk base w g x) (hi : Inv x.p) (hbd : Bd x.p N) (hN : N ≤ 100000) (hh : hostB e.host = true) :
    Calls Tryz.prog 43 #[.pointer (some ⟨g, 0, none⟩), evv e] w (Acted base g x w (joinC x.p e)) := by
  have hw : IntKind.i64.wrap (2000 + e.host) = 2000 + e.host := by
    have := hostB_iff.1 hh
    rw [IntKind.wrap_i64]; omega
  have H0 := Lib.hid h
  obtain ⟨L1, E1, N1⟩ := two_new w e
  have HRF := fun er w => Lib.hid (refused_any er w)

  go_enter Tryz.func43, Tryz.ntmps43
  go_upto_region 1 with fail
  generalize (w.alloc (.cells #[.int .i64 e.d, .int .i64 e.host, .int .i64 e.zone, .int .i64 e.epoch, .int .i64 e.fr, .int .i64 e.to, .int .i64 e.now, .int .i64 e.key] 36)).alloc (.cells #[.int .i64 0, .int .i64 0, .slice none 0 0] 39) = w1 at *
  have D1 := Lib.hid (H0.out.below L1.out)
  have HS := fun W (hW : Below w1.heap.size w1 W) => And.intro (seven (D1.out.below hW).box) (EBox.cells (Lea.Cells.below E1.out hW))
  have LL1 : Hid (Below w1.heap.size w1 w1) := Below.refl _ _
  have HP : Hid (w.heap.size + 1 < w1.heap.size) := Lea.Cells.lt N1.out
  have HG := fun W (hW : Below w1.heap.size w1 W) => Lib.hid (grant_act (D1.out.below hW) hi hbd hN (key := 2000 + e.host) (host := e.host) (by have := hostB_iff.1 hh; omega) hh)
  unfold Acted at HG
  obtain ⟨y0, y1, y2, y3, y4, y5, y6, y7⟩ := EBox.cells E1.out
  go_wp2_with fail
  refine (HG w1 LL1.out).out.mono ?_
  rintro e' w2 ⟨x', B, n, d, rfl, hx, hd, hr, hB, hm⟩
  have hoff := Off.new (D1.out.below LL1.out) (p := w1.heap.size)
  have NO : Off g (oL x) (oW x) (w.heap.size + 1) := Off.new H0.out (by omega)
  have N2 : Hid (ABox w2 (w.heap.size + 1) 0 0 none 0 0) := (hm.keep _ (Nat.lt_of_lt_of_le HP.out LL1.out.size) NO).1.trans (Lea.Cells.below N1.out LL1.out)
  have HX := Lib.hid hx
  have HDD := Lib.hid hd
  have HR := Lib.hid hr
  have HB := Lib.hid hB
  have HM := Lib.hid ((Move.of_below (g := g) (a := oL x) (b := oW x) (L1.out.trans (LL1.out.mono L1.out.size)) H0.out.low).trans hm)
  have HLE : Hid (w.heap.size + 1 < w1.heap.size) := Nat.lt_of_lt_of_le HP.out LL1.out.size
  clear hx hd hr hB hm hoff NO
  obtain ⟨n0, n1, n2⟩ := ABox.cells N2.out
  obtain ⟨f0, f1, f2⟩ := ABox.frozen N2.out
  go_wp2_with fail
  refine bodyPost_ret_by (results_cell_row rfl _ _ (w.heap.size + 1) _ _ _ _ rfl (ABox.store N2.out _ _ B n d) Tryz.underlying39 rfl (by kernel_rfl)) rfl ?_
  unfold joinC
  exact acted_end (by omega) H0.out.low HX.out HDD.out N2.out HM.out HR.out (fun k o e => ⟨by have := (HB.out k o e).1; have := HLE.out; omega, by have := (HB.out k o e).1; have := HLE.out; omega, (HB.out k o e).2⟩) rfl rfl

set_option maxRecDepth 100000 in
set_option maxHeartbeats 12800000 in
theorem elect_act {base g N : Nat} {x : Cx} {w : World} {e : Ev} (h : Desk base w g x) (hi : Inv x.p) (hbd : Bd x.p N) (hN : N ≤ 100000) (hh : hostB e.host = true) :
    Calls Tryz.prog 47 #[.pointer (some ⟨g, 0, none⟩), evv e] w (Acted base g x w (electC x.p e)) := by
  have hn : x.n ≤ 100000 := by have h1 := h.l.2; have h2 := hbd.len; omega
  have hm : x.m ≤ 400000 := by have h1 := h.s.2; have h2 := hi.slen hbd; omega
  have hq : x.q ≤ 100000 := by have h1 := h.f.2; have h2 := hbd.wlen; omega
  have HM0 := fun W (hW : Below w.heap.size w W) => Lib.hid (member_any e.host (Lea.OwnsL.row (h.l.below hW) (by omega)) (by omega) hi.tok)
  have H0 := Lib.hid h
  obtain ⟨L1, E1, N1⟩ := two_new w e
  have HRF := fun er w => Lib.hid (refused_any er w)

  go_enter Tryz.func47, Tryz.ntmps47
  go_upto_region 1 with fail
  generalize (w.alloc (.cells #[.int .i64 e.d, .int .i64 e.host, .int .i64 e.zone, .int .i64 e.epoch, .int .i64 e.fr, .int .i64 e.to, .int .i64 e.now, .int .i64 e.key] 36)).alloc (.cells #[.int .i64 0, .int .i64 0, .slice none 0 0] 39) = w1 at *
  have D1 := Lib.hid (H0.out.below L1.out)
  have HS := fun W (hW : Below w1.heap.size w1 W) => And.intro (seven (D1.out.below hW).box) (EBox.cells (Lea.Cells.below E1.out hW))
  have LL1 : Hid (Below w1.heap.size w1 w1) := Below.refl _ _
  have HP : Hid (w.heap.size + 1 < w1.heap.size) := Lea.Cells.lt N1.out
  have HM := fun W (hW : Below w1.heap.size w1 W) => HM0 W (L1.out.trans (hW.mono L1.out.size))
  clear HM0
  have HG := fun W (hW : Below w1.heap.size w1 W) => Lib.hid (grant_act (D1.out.below hW) hi hbd hN (key := 1000) (host := e.host) (by have := hostB_iff.1 hh; omega) hh)
  unfold Acted at HG
  have LL2 : Hid (Below w1.heap.size w1 w1.drew) := LL1.out.drew
  refine wp_region_held_drew (S := fun W => (W.cell? ⟨g, 0, none⟩ = some (.int .i64 x.p.t.last) ∧ W.cell? ⟨g, 1, none⟩ = some (.int .i64 x.p.t.now) ∧ W.cell? ⟨g, 2, none⟩ = some (.slice x.A x.n x.a) ∧ W.cell? ⟨g, 3, none⟩ = some (.slice x.S x.m x.s) ∧ W.cell? ⟨g, 4, none⟩ = some (.slice x.W x.q x.k) ∧ W.cell? ⟨g, 5, none⟩ = some (.int .i64 x.p.ttl) ∧ W.cell? ⟨g, 6, none⟩ = some (.int .i64 x.p.zones)) ∧ (W.cell? ⟨w.heap.size, 0, none⟩ = some (.int .i64 e.d) ∧ W.cell? ⟨w.heap.size, 1, none⟩ = some (.int .i64 e.host) ∧ W.cell? ⟨w.heap.size, 2, none⟩ = some (.int .i64 e.zone) ∧ W.cell? ⟨w.heap.size, 3, none⟩ = some (.int .i64 e.epoch) ∧ W.cell? ⟨w.heap.size, 4, none⟩ = some (.int .i64 e.fr) ∧ W.cell? ⟨w.heap.size, 5, none⟩ = some (.int .i64 e.to) ∧ W.cell? ⟨w.heap.size, 6, none⟩ = some (.int .i64 e.now) ∧ W.cell? ⟨w.heap.size, 7, none⟩ = some (.int .i64 e.key))) (by kernel_rfl) (HS _ LL2.out) (fun hHeld => ?_)
  generalize w1.drew = w2 at *
  (first | (refine Reg.take 0 (v := ?_) rfl (by kernel_rfl) (by kernel_rfl) (by kernel_rfl) (fun _ _ _ h => h) (Or.inl ⟨by rfl, ?_⟩) (by assumption) ?_; rotate_left; (focus ((intro W hSW); (try dsimp only at hSW); (try go_split_ands); go_simp; (try (with_reducible rfl)); done))) | (refine Reg.take 0 (v := undef) rfl (by kernel_rfl) (by kernel_rfl) (by kernel_rfl) (fun _ _ _ h => h) (Or.inr ⟨by rfl, rfl⟩) (by assumption) ?_))
  (try simp only [Act.put, List.setIfInBounds_toArray, List.set_cons_zero, List.set_cons_succ])
  (first | (refine Reg.take 1 (v := ?_) rfl (by kernel_rfl) (by kernel_rfl) (by kernel_rfl) (fun _ _ _ h => h) (Or.inl ⟨by rfl, ?_⟩) (by assumption) ?_; rotate_left; (focus ((intro W hSW); (try dsimp only at hSW); (try go_split_ands); go_simp; (try (with_reducible rfl)); done))) | (refine Reg.take 1 (v := undef) rfl (by kernel_rfl) (by kernel_rfl) (by kernel_rfl) (fun _ _ _ h => h) (Or.inr ⟨by rfl, rfl⟩) (by assumption) ?_))
  (try simp only [Act.put, List.setIfInBounds_toArray, List.set_cons_zero, List.set_cons_succ])
  (first | (refine Reg.take 2 (v := ?_) rfl (by kernel_rfl) (by kernel_rfl) (by kernel_rfl) (fun _ _ _ h => h) (Or.inl ⟨by rfl, ?_⟩) (by assumption) ?_; rotate_left; (focus ((intro W hSW); (try dsimp only at hSW); (try go_split_ands); go_simp; (try (with_reducible rfl)); done))) | (refine Reg.take 2 (v := undef) rfl (by kernel_rfl) (by kernel_rfl) (by kernel_rfl) (fun _ _ _ h => h) (Or.inr ⟨by rfl, rfl⟩) (by assumption) ?_))
  (try simp only [Act.put, List.setIfInBounds_toArray, List.set_cons_zero, List.set_cons_succ])
  (first | (refine Reg.take 3 (v := ?_) rfl (by kernel_rfl) (by kernel_rfl) (by kernel_rfl) (fun _ _ _ h => h) (Or.inl ⟨by rfl, ?_⟩) (by assumption) ?_; rotate_left; (focus ((intro W hSW); (try dsimp only at hSW); (try go_split_ands); go_simp; (try (with_reducible rfl)); done))) | (refine Reg.take 3 (v := undef) rfl (by kernel_rfl) (by kernel_rfl) (by kernel_rfl) (fun _ _ _ h => h) (Or.inr ⟨by rfl, rfl⟩) (by assumption) ?_))
  (try simp only [Act.put, List.setIfInBounds_toArray, List.set_cons_zero, List.set_cons_succ])
  (first | (refine Reg.take 4 (v := ?_) rfl (by kernel_rfl) (by kernel_rfl) (by kernel_rfl) (fun _ _ _ h => h) (Or.inl ⟨by rfl, ?_⟩) (by assumption) ?_; rotate_left; (focus ((intro W hSW); (try dsimp only at hSW); (try go_split_ands); go_simp; (try (with_reducible rfl)); done))) | (refine Reg.take 4 (v := undef) rfl (by kernel_rfl) (by kernel_rfl) (by kernel_rfl) (fun _ _ _ h => h) (Or.inr ⟨by rfl, rfl⟩) (by assumption) ?_))
  (try simp only [Act.put, List.setIfInBounds_toArray, List.set_cons_zero, List.set_cons_succ])
  (first | (refine Reg.take 5 (v := ?_) rfl (by kernel_rfl) (by kernel_rfl) (by kernel_rfl) (fun _ _ _ h => h) (Or.inl ⟨by rfl, ?_⟩) (by assumption) ?_; rotate_left; (focus ((intro W hSW); (try dsimp only at hSW); (try go_split_ands); go_simp; (try (with_reducible rfl)); done))) | (refine Reg.take 5 (v := undef) rfl (by kernel_rfl) (by kernel_rfl) (by kernel_rfl) (fun _ _ _ h => h) (Or.inr ⟨by rfl, rfl⟩) (by assumption) ?_))
  (try simp only [Act.put, List.setIfInBounds_toArray, List.set_cons_zero, List.set_cons_succ])
  refine Reg.step 6 rfl (by kernel_rfl) (by rfl) (fun K hK => ?_)
  go_simp
  refine (HM w2 LL2.out).out.mono ?_
  rintro e' w3 ⟨rfl, hb⟩
  have LL3 := Lib.hid (LL2.out.trans (hb.mono LL2.out.size))
  clear hb
  refine hK.out _ _ (HS _ LL3.out) (fun hHeld2 => ?_)
  clear hK K
  (try simp only [Act.put, List.setIfInBounds_toArray, List.set_cons_zero, List.set_cons_succ])
  (first | (refine Reg.take 7 (v := ?_) rfl (by kernel_rfl) (by kernel_rfl) (by kernel_rfl) (fun _ _ _ h => h) (Or.inl ⟨by rfl, ?_⟩) (by assumption) ?_; rotate_left; (focus ((intro W hSW); (try dsimp only at hSW); (try go_split_ands); go_simp; (try (with_reducible rfl)); done))) | (refine Reg.take 7 (v := undef) rfl (by kernel_rfl) (by kernel_rfl) (by kernel_rfl) (fun _ _ _ h => h) (Or.inr ⟨by rfl, rfl⟩) (by assumption) ?_))
  (try simp only [Act.put, List.setIfInBounds_toArray, List.set_cons_zero, List.set_cons_succ])
  refine wpAnyH_done (by kernel_rfl) ?_ _
  clear hHeld hHeld2
  rcases e1 : memB x.p e.host
  · skip
    go_wp2_with fail
    refine (HRF 4 w3).out.mono ?_
    rintro e' w4 ⟨rfl, hb⟩
    have LL4 := Lib.hid (LL3.out.trans (hb.mono LL3.out.size))
    have D4 := Lib.hid (D1.out.below LL4.out)
    have N4 := Lib.hid (Lea.Cells.below N1.out LL4.out)
    clear hb
    obtain ⟨n0, n1, n2⟩ := ABox.cells N4.out
    obtain ⟨f0, f1, f2⟩ := ABox.frozen N4.out
    go_wp2_with fail
    refine bodyPost_ret_by (results_cell_row rfl _ _ (w.heap.size + 1) _ _ _ _ rfl (ABox.store N4.out 4 0 none 0 0) Tryz.underlying39 rfl (by kernel_rfl)) rfl ?_
    unfold electC
    rw [e1]
    exact acted_bad (by omega) H0.out.low D4.out N4.out (L1.out.trans (LL4.out.mono L1.out.size)) 4
  · obtain ⟨y0, y1, y2, y3, y4, y5, y6, y7⟩ := (HS _ LL3.out).2
    go_wp2_with fail
    refine (HG w3 LL3.out).out.mono ?_
    rintro e' w4 ⟨x', B, n, d, rfl, hx, hd, hr, hB, hm⟩
    have hoff := Off.new (D1.out.below LL3.out) (p := w3.heap.size)
    have NO : Off g (oL x) (oW x) (w.heap.size + 1) := Off.new H0.out (by omega)
    have N4 : Hid (ABox w4 (w.heap.size + 1) 0 0 none 0 0) := (hm.keep _ (Nat.lt_of_lt_of_le HP.out LL3.out.size) NO).1.trans (Lea.Cells.below N1.out LL3.out)
    have HX := Lib.hid hx
    have HDD := Lib.hid hd
    have HR := Lib.hid hr
    have HB := Lib.hid hB
    have HM := Lib.hid ((Move.of_below (g := g) (a := oL x) (b := oW x) (L1.out.trans (LL3.out.mono L1.out.size)) H0.out.low).trans hm)
    have HLE : Hid (w.heap.size + 1 < w3.heap.size) := Nat.lt_of_lt_of_le HP.out LL3.out.size
    clear hx hd hr hB hm hoff NO
    obtain ⟨n0, n1, n2⟩ := ABox.cells N4.out
    obtain ⟨f0, f1, f2⟩ := ABox.frozen N4.out
    go_wp2_with fail
    refine bodyPost_ret_by (results_cell_row rfl _ _ (w.heap.size + 1) _ _ _ _ rfl (ABox.store N4.out _ _ B n d) Tryz.underlying39 rfl (by kernel_rfl)) rfl ?_
    unfold electC
    rw [e1]
    exact acted_end (by omega) H0.out.low HX.out HDD.out N4.out HM.out HR.out (fun k o e => ⟨by have := (HB.out k o e).1; have := HLE.out; omega, by have := (HB.out k o e).1; have := HLE.out; omega, (HB.out k o e).2⟩) rfl rfl
end Coo
end Go.Proofs.YtmflngclncidjaaGreat
/-
  WALKS: the closures of the desk's acts. (Written by gen_cooclo.py.)
-/
namespace Go.Proofs.YtmflngclncidjaaGreat
open Go.RowKit Mem
namespace Coo
open Lea (Cells But OneBox Lv Tv)
open Spa (Sp)

set_option maxRecDepth 100000 in
set_option maxHeartbeats 1600000 in
theorem away1_any (z : Int) (q : Nat) (y : Fv) (w : World) (hq : OneBox w q 3 (.int .i64 z)) :
    Calls Tryz.prog 82 #[fv y, .pointer (some ⟨q, 0, none⟩)] w fun en w' => en = .returned (.bool (y.zone == z)) ∧ Below w.heap.size w w' := by
  have L1 : Hid (Below w.heap.size w (w.alloc (.cells #[.int .i64 y.zone, .int .i64 y.host, .int .i64 y.epoch] 51))) := (Below.refl w.heap.size w).alloc (Nat.le_refl _) _
  have B1 := Lib.hid (Lea.Cells.alloc hq (.cells #[.int .i64 y.zone, .int .i64 y.host, .int .i64 y.epoch] 51))
  have B2 : Hid (FBox (w.alloc (.cells #[.int .i64 y.zone, .int .i64 y.host, .int .i64 y.epoch] 51)) w.heap.size y) := Cells.new w _ _
  clear hq
  go_enter Tryz.func82, Tryz.ntmps82
  go_upto_region 1 with fail
  generalize w.alloc (.cells #[.int .i64 y.zone, .int .i64 y.host, .int .i64 y.epoch] 51) = w1 at *
  have m0 := Lea.OneBox.cells B1.out
  obtain ⟨n0, n1, n2⟩ := FBox.cells B2.out
  go_wp2_with fail
  go_ret
  exact ⟨rfl, L1.out⟩

set_option maxRecDepth 100000 in
set_option maxHeartbeats 1600000 in
theorem ended1_any (z : Int) (q : Nat) (y : Fv) (w : World) (hq : OneBox w q 3 (.int .i64 z)) :
    Calls Tryz.prog 98 #[fv y, .pointer (some ⟨q, 0, none⟩)] w fun en w' => en = .returned (.bool (y.host == z)) ∧ Below w.heap.size w w' := by
  have L1 : Hid (Below w.heap.size w (w.alloc (.cells #[.int .i64 y.zone, .int .i64 y.host, .int .i64 y.epoch] 51))) := (Below.refl w.heap.size w).alloc (Nat.le_refl _) _
  have B1 := Lib.hid (Lea.Cells.alloc hq (.cells #[.int .i64 y.zone, .int .i64 y.host, .int .i64 y.epoch] 51))
  have B2 : Hid (FBox (w.alloc (.cells #[.int .i64 y.zone, .int .i64 y.host, .int .i64 y.epoch] 51)) w.heap.size y) := Cells.new w _ _
  clear hq
  go_enter Tryz.func98, Tryz.ntmps98
  go_upto_region 1 with fail
  generalize w.alloc (.cells #[.int .i64 y.zone, .int .i64 y.host, .int .i64 y.epoch] 51) = w1 at *
  have m0 := Lea.OneBox.cells B1.out
  obtain ⟨n0, n1, n2⟩ := FBox.cells B2.out
  go_wp2_with fail
  go_ret
  exact ⟨rfl, L1.out⟩

set_option maxRecDepth 100000 in
set_option maxHeartbeats 1600000 in
theorem ack1_any (e : Ev) (q : Nat) (y : Fv) (w : World) (hq : EBox w q e) :
    Calls Tryz.prog 65 #[fv y, .pointer (some ⟨q, 0, none⟩)] w fun en w' => en = .returned (.bool (y.zone == e.zone && y.epoch == e.epoch)) ∧ Below w.heap.size w w' := by
  have L1 : Hid (Below w.heap.size w (w.alloc (.cells #[.int .i64 y.zone, .int .i64 y.host, .int .i64 y.epoch] 51))) := (Below.refl w.heap.size w).alloc (Nat.le_refl _) _
  have B1 := Lib.hid (Lea.Cells.alloc hq (.cells #[.int .i64 y.zone, .int .i64 y.host, .int .i64 y.epoch] 51))
  have B2 : Hid (FBox (w.alloc (.cells #[.int .i64 y.zone, .int .i64 y.host, .int .i64 y.epoch] 51)) w.heap.size y) := Cells.new w _ _
  clear hq
  rcases e1 : (y.zone == e.zone)
  · skip
    go_enter Tryz.func65, Tryz.ntmps65
    go_upto_region 1 with fail
    generalize w.alloc (.cells #[.int .i64 y.zone, .int .i64 y.host, .int .i64 y.epoch] 51) = w1 at *
    obtain ⟨m0, m1, m2, m3, m4, m5, m6, m7⟩ := EBox.cells B1.out
    obtain ⟨n0, n1, n2⟩ := FBox.cells B2.out
    go_wp2_with fail
    go_ret
    exact ⟨rfl, L1.out⟩
  · skip
    go_enter Tryz.func65, Tryz.ntmps65
    go_upto_region 1 with fail
    generalize w.alloc (.cells #[.int .i64 y.zone, .int .i64 y.host, .int .i64 y.epoch] 51) = w1 at *
    obtain ⟨m0, m1, m2, m3, m4, m5, m6, m7⟩ := EBox.cells B1.out
    obtain ⟨n0, n1, n2⟩ := FBox.cells B2.out
    go_wp2_with fail
    go_ret
    exact ⟨rfl, L1.out⟩

set_option maxRecDepth 100000 in
set_option maxHeartbeats 1600000 in
theorem give1_any (e : Ev) (q : Nat) (y : Sp) (w : World) (hq : EBox w q e) :
    Calls Tryz.prog 69 #[Spa.sv y, .pointer (some ⟨q, 0, none⟩)] w fun en w' => en = .returned (.bool (y.own != -1 && y.own != e.host)) ∧ Below w.heap.size w w' := by
  have L1 : Hid (Below w.heap.size w (w.alloc (.cells #[.int .i64 y.fr, .int .i64 y.to, .int .i64 y.own, .int .i64 y.ep] 48))) := (Below.refl w.heap.size w).alloc (Nat.le_refl _) _
  have B1 := Lib.hid (Lea.Cells.alloc hq (.cells #[.int .i64 y.fr, .int .i64 y.to, .int .i64 y.own, .int .i64 y.ep] 48))
  have B2 : Hid (Spa.LBox (w.alloc (.cells #[.int .i64 y.fr, .int .i64 y.to, .int .i64 y.own, .int .i64 y.ep] 48)) w.heap.size y) := Cells.new w _ _
  clear hq
  rcases e1 : (y.own != -1)
  · skip
    go_enter Tryz.func69, Tryz.ntmps69
    go_upto_region 1 with fail
    generalize w.alloc (.cells #[.int .i64 y.fr, .int .i64 y.to, .int .i64 y.own, .int .i64 y.ep] 48) = w1 at *
    obtain ⟨m0, m1, m2, m3, m4, m5, m6, m7⟩ := EBox.cells B1.out
    obtain ⟨n0, n1, n2, n3⟩ := Spa.LBox.cells B2.out
    go_wp2_with fail
    go_ret
    exact ⟨rfl, L1.out⟩
  · skip
    go_enter Tryz.func69, Tryz.ntmps69
    go_upto_region 1 with fail
    generalize w.alloc (.cells #[.int .i64 y.fr, .int .i64 y.to, .int .i64 y.own, .int .i64 y.ep] 48) = w1 at *
    obtain ⟨m0, m1, m2, m3, m4, m5, m6, m7⟩ := EBox.cells B1.out
    obtain ⟨n0, n1, n2, n3⟩ := Spa.LBox.cells B2.out
    go_wp2_with fail
    go_ret
    exact ⟨rfl, L1.out⟩
end Coo
end Go.Proofs.YtmflngclncidjaaGreat
/-
  WALKS WITH CLOSURES: slices.IndexFunc, ContainsFunc over fences. (Written by gen_coocopy.py.)
-/
namespace Go.Proofs.YtmflngclncidjaaGreat
open Go.RowKit Mem
namespace Coo
open Lea (Cells But OneBox)
/-- Where the first such one stands, as Go tells it. -/
def IdxIs (l : List Fv) (p : Fv → Bool) (r : Int) : Prop := (r = -1 ∧ l.findIdx? p = none) ∨ ∃ k : Nat, r = k ∧ l.findIdx? p = some k
theorem idx_some {l : List Fv} {p : Fv → Bool} {k : Nat} {y : Fv} (hy : l[k]? = some y) (hp : p y = true) (hb : ∀ j x, j < k → l[j]? = some x → p x = false) : IdxIs l p (k : Int) := by
  obtain ⟨hk, rfl⟩ := List.getElem?_eq_some_iff.1 hy
  refine .inr ⟨k, rfl, List.findIdx?_eq_some_iff_getElem.2 ⟨hk, hp, fun j hj => ?_⟩⟩
  rw [hb j _ hj (List.getElem?_eq_getElem (by omega))]; simp
theorem idx_none {l : List Fv} {p : Fv → Bool} (hb : ∀ (j : Nat) (x : Fv), l[j]? = some x → p x = false) : IdxIs l p (-1) := by
  refine .inl ⟨rfl, List.findIdx?_eq_none_iff.2 fun x hx => ?_⟩
  obtain ⟨i, hi⟩ := List.mem_iff_getElem?.1 hx
  exact hb i x hi
theorem idx_any {l : List Fv} {p : Fv → Bool} {r : Int} (h : IdxIs l p r) : l.any p = decide (0 ≤ r) := by
  rcases h with ⟨rfl, h⟩ | ⟨k, rfl, h⟩
  · have : l.any p = false := List.any_eq_false.2 fun x hx => by rw [List.findIdx?_eq_none_iff.1 h x hx]; simp
    rw [this]; rfl
  · obtain ⟨hk, hp, -⟩ := List.findIdx?_eq_some_iff_getElem.1 h
    have : l.any p = true := List.any_eq_true.2 ⟨_, List.getElem_mem hk, hp⟩
    rw [this, decide_eq_true (by omega)]
/-- A question of fences: it answers p, and leaves what lay there. -/
def PredF (g : Nat) (lb : Array Value) (p : Fv → Bool) (w : World) : Prop :=
  ∀ (W : World) (x : Fv), Below w.heap.size w W → Calls Tryz.prog g (#[fv x] ++ lb) W fun e w' => e = .returned (.bool (p x)) ∧ Below W.heap.size W w'
theorem PredF.below {g : Nat} {lb : Array Value} {p : Fv → Bool} {w w' : World} (h : PredF g lb p w) (hb : Below w.heap.size w w') : PredF g lb p w' :=
  fun W x hW => h W x (hb.trans (hW.mono hb.size))

set_option maxRecDepth 100000 in
set_option maxHeartbeats 1600000 in
theorem index_any {A : Option Addr} {n c : Nat} {l : List Fv} {w : World} (h : RowF w A n c l) (g : Nat) (lb : Array Value) (eg : ∀ args w, (callFunc g args).run Tryz.prog w = .ok (.enter g args) w) (p : Fv → Bool) (hp : PredF g lb p w) :
    Calls Tryz.prog 64 #[.slice A n c, .func (.func g) #[] lb] w fun e w' => (∃ r : Int, e = .returned (.int .i64 r) ∧ IdxIs l p r) ∧ Below w.heap.size w w' := by
  have HR := Lib.hid h
  have hbig := h.big
  have hlen := Lib.hid h.len
  have HP := Lib.hid hp
  clear h hp
  go_enter Tryz.func64, Tryz.ntmps64
  go_wp2
  go_loopw [5, 8] (fun _ i wr => ∃ k : Nat, i = .int .i64 k ∧ k ≤ n ∧ Hid (Below w.heap.size w wr ∧ ∀ j x, j < k → l[j]? = some x → p x = false)) (fun _ i _ => n - (intOf i).toNat)
  case atStart => exact ⟨0, rfl, by omega, Below.refl _ _, fun j x hj => by omega⟩
  case round =>
    obtain ⟨k, rfl, hk, hH⟩ := hrel
    by_cases hlt : k < n
    · obtain ⟨y, hy⟩ := HR.out.get hlt
      obtain ⟨b, o, hA, c0, c1, c2⟩ := RowS.fence_at (HR.out.below hH.out.1) hy
      subst hA
      have hk0 : (0 : Int) ≤ (k : Int) := by omega
      have hkn : (k : Int) < (n : Int) := by omega
      have HC := fun W (hW : Below w.heap.size w W) => HP.out W y hW
      have HY := Lib.hid hy
      clear hy
      cases e : p y
      · rw [e] at HC
        have HE := Lib.hid e
        clear e
        go_wp2_with (go_at_fn g; refine (HC _ hH.out.1).mono ?_; rintro e w2 ⟨rfl, hb⟩; have L2 := Lib.hid (hH.out.1.trans (hb.mono hH.out.1.size)); clear hb)
        go_roundw
        case rel =>
          refine ⟨k + 1, by go_num, by omega, L2.out, fun j x hj hx => ?_⟩
          by_cases h1 : j = k
          · subst h1
            have := HY.out.symm.trans hx
            injection this with this; subst this; exact HE.out
          · exact hH.out.2 j x (by omega) hx
        case measure => simp [intOf]; omega
      · rw [e] at HC
        have HE := Lib.hid e
        clear e
        go_wp2_with (go_at_fn g; refine (HC _ hH.out.1).mono ?_; rintro e w2 ⟨rfl, hb⟩; have L2 := Lib.hid (hH.out.1.trans (hb.mono hH.out.1.size)); clear hb)
        go_ret
        exact ⟨⟨_, rfl, idx_some HY.out HE.out hH.out.2⟩, L2.out⟩
    · go_wp2_with fail
      go_ret
      exact ⟨⟨_, rfl, idx_none (fun j x hx => hH.out.2 j x (by have := (List.getElem?_eq_some_iff.1 hx).1; have := hlen.out; omega) hx)⟩, hH.out.1⟩

set_option maxRecDepth 100000 in
set_option maxHeartbeats 800000 in
theorem contains_any {A : Option Addr} {n c : Nat} {l : List Fv} {w : World} (h : RowF w A n c l) (g : Nat) (lb : Array Value) (eg : ∀ args w, (callFunc g args).run Tryz.prog w = .ok (.enter g args) w) (p : Fv → Bool) (hp : PredF g lb p w) :
    Calls Tryz.prog 83 #[.slice A n c, .func (.func g) #[] lb] w fun e w' => e = .returned (.bool (l.any p)) ∧ Below w.heap.size w w' := by
  have HI := Lib.hid (index_any h g lb eg p hp)
  clear h hp eg
  go_enter Tryz.func83, Tryz.ntmps83
  go_wp2_with fail
  refine HI.out.mono ?_
  rintro e w2 ⟨⟨r, rfl, hr⟩, hb⟩
  have HRR := Lib.hid hr
  have HB := Lib.hid hb
  clear hr hb
  go_wp2_with fail
  go_ret
  exact ⟨by rw [idx_any HRR.out]; rfl, HB.out⟩

end Coo
end Go.Proofs.YtmflngclncidjaaGreat
/-
  A WALK OVER isAway. (Written by gen_cooaway.py.)
-/
namespace Go.Proofs.YtmflngclncidjaaGreat
open Go.RowKit Mem
namespace Coo
open Lea (Cells But OneBox Lv Tv)
open Spa (Sp)

theorem own_bool {c : Cv} (h : Inv c) {z : Int} (hz : zoneB c z = true) : ((ownerC c z).1 != -1) = Lea.heldB c.t.l z := by
  unfold ownerC ownL
  rw [hz]
  simp only [cond_true]
  rcases e : Lea.heldB c.t.l z
  · rfl
  · obtain ⟨x, hx, ex⟩ := Lea.held_iff.1 e
    have h1 := Lea.find_of (Lea.okT_rises h.tok) hx
    have h2 : Lea.getL c.t.l z = x := by unfold Lea.getL; rw [← ex, h1]; rfl
    have h3 := hosts h hx
    simp only [cond_true]
    rw [h2]
    exact bne_iff_ne.2 (by omega)

set_option maxRecDepth 100000 in
set_option maxHeartbeats 6400000 in
theorem away_any {base g N : Nat} {x : Cx} {w : World} {z : Int} (h : Desk base w g x) (hi : Inv x.p) (hbd : Bd x.p N) (hN : N ≤ 100000) (hz : zoneB x.p z = true) :
    Calls Tryz.prog 62 #[.pointer (some ⟨g, 0, none⟩), .int .i64 z] w fun e w' => e = .returned (.bool (awayB x.p z)) ∧ Below w.heap.size w w' := by
  have H0 := Lib.hid h
  have hn : x.n ≤ 100000 := by have h1 := h.l.2; have h2 := hbd.len; omega
  have hm : x.m ≤ 400000 := by have h1 := h.s.2; have h2 := hi.slen hbd; omega
  have hq : x.q ≤ 100000 := by have h1 := h.f.2; have h2 := hbd.wlen; omega
  have HOB := Lib.hid (own_bool hi hz)
  have HM0 := fun W (hW : Below w.heap.size w W) => Lib.hid (owner_any z (Lea.OwnsL.row (h.l.below hW) (by omega)) (by omega) hi.tok)
  have L1 : Hid (Below w.heap.size w (w.alloc (.cells #[.int .i64 z] 3))) := (Below.refl w.heap.size w).alloc (Nat.le_refl _) _
  have Z1 : Hid (OneBox (w.alloc (.cells #[.int .i64 z] 3)) w.heap.size 3 (.int .i64 z)) := Cells.new w _ _
  generalize ownerC x.p z = o at *
  go_enter Tryz.func62, Tryz.ntmps62
  go_upto_region 1 with fail
  generalize w.alloc (.cells #[.int .i64 z] 3) = w1 at *
  have D1 := Lib.hid (H0.out.below L1.out)
  have HS := fun W (hW : Below w1.heap.size w1 W) => And.intro (seven (D1.out.below hW).box) (Lea.OneBox.cells (Lea.Cells.below Z1.out hW))
  have LL1 : Hid (Below w1.heap.size w1 w1) := Below.refl _ _
  have HM := fun W (hW : Below w1.heap.size w1 W) => HM0 W (L1.out.trans (hW.mono L1.out.size))
  clear HM0
  have LL2 : Hid (Below w1.heap.size w1 w1.drew) := LL1.out.drew
  refine wp_region_held_drew (S := fun W => (W.cell? ⟨g, 0, none⟩ = some (.int .i64 x.p.t.last) ∧ W.cell? ⟨g, 1, none⟩ = some (.int .i64 x.p.t.now) ∧ W.cell? ⟨g, 2, none⟩ = some (.slice x.A x.n x.a) ∧ W.cell? ⟨g, 3, none⟩ = some (.slice x.S x.m x.s) ∧ W.cell? ⟨g, 4, none⟩ = some (.slice x.W x.q x.k) ∧ W.cell? ⟨g, 5, none⟩ = some (.int .i64 x.p.ttl) ∧ W.cell? ⟨g, 6, none⟩ = some (.int .i64 x.p.zones)) ∧ W.cell? ⟨w.heap.size, 0, none⟩ = some (.int .i64 z)) (by kernel_rfl) (HS _ LL2.out) (fun hHeld => ?_)
  generalize w1.drew = w2 at *
  (first | (refine Reg.take 0 (v := ?_) rfl (by kernel_rfl) (by kernel_rfl) (by kernel_rfl) (fun _ _ _ h => h) (Or.inl ⟨by rfl, ?_⟩) (by assumption) ?_; rotate_left; (focus ((intro W hSW); (try dsimp only at hSW); (try go_split_ands); go_simp; (try (with_reducible rfl)); done))) | (refine Reg.take 0 (v := undef) rfl (by kernel_rfl) (by kernel_rfl) (by kernel_rfl) (fun _ _ _ h => h) (Or.inr ⟨by rfl, rfl⟩) (by assumption) ?_))
  (try simp only [Act.put, List.setIfInBounds_toArray, List.set_cons_zero, List.set_cons_succ])
  (first | (refine Reg.take 1 (v := ?_) rfl (by kernel_rfl) (by kernel_rfl) (by kernel_rfl) (fun _ _ _ h => h) (Or.inl ⟨by rfl, ?_⟩) (by assumption) ?_; rotate_left; (focus ((intro W hSW); (try dsimp only at hSW); (try go_split_ands); go_simp; (try (with_reducible rfl)); done))) | (refine Reg.take 1 (v := undef) rfl (by kernel_rfl) (by kernel_rfl) (by kernel_rfl) (fun _ _ _ h => h) (Or.inr ⟨by rfl, rfl⟩) (by assumption) ?_))
  (try simp only [Act.put, List.setIfInBounds_toArray, List.set_cons_zero, List.set_cons_succ])
  (first | (refine Reg.take 2 (v := ?_) rfl (by kernel_rfl) (by kernel_rfl) (by kernel_rfl) (fun _ _ _ h => h) (Or.inl ⟨by rfl, ?_⟩) (by assumption) ?_; rotate_left; (focus ((intro W hSW); (try dsimp only at hSW); (try go_split_ands); go_simp; (try (with_reducible rfl)); done))) | (refine Reg.take 2 (v := undef) rfl (by kernel_rfl) (by kernel_rfl) (by kernel_rfl) (fun _ _ _ h => h) (Or.inr ⟨by rfl, rfl⟩) (by assumption) ?_))
  (try simp only [Act.put, List.setIfInBounds_toArray, List.set_cons_zero, List.set_cons_succ])
  (first | (refine Reg.take 3 (v := ?_) rfl (by kernel_rfl) (by kernel_rfl) (by kernel_rfl) (fun _ _ _ h => h) (Or.inl ⟨by rfl, ?_⟩) (by assumption) ?_; rotate_left; (focus ((intro W hSW); (try dsimp only at hSW); (try go_split_ands); go_simp; (try (with_reducible rfl)); done))) | (refine Reg.take 3 (v := undef) rfl (by kernel_rfl) (by kernel_rfl) (by kernel_rfl) (fun _ _ _ h => h) (Or.inr ⟨by rfl, rfl⟩) (by assumption) ?_))
  (try simp only [Act.put, List.setIfInBounds_toArray, List.set_cons_zero, List.set_cons_succ])
  (first | (refine Reg.take 4 (v := ?_) rfl (by kernel_rfl) (by kernel_rfl) (by kernel_rfl) (fun _ _ _ h => h) (Or.inl ⟨by rfl, ?_⟩) (by assumption) ?_; rotate_left; (focus ((intro W hSW); (try dsimp only at hSW); (try go_split_ands); go_simp; (try (with_reducible rfl)); done))) | (refine Reg.take 4 (v := undef) rfl (by kernel_rfl) (by kernel_rfl) (by kernel_rfl) (fun _ _ _ h => h) (Or.inr ⟨by rfl, rfl⟩) (by assumption) ?_))
  (try simp only [Act.put, List.setIfInBounds_toArray, List.set_cons_zero, List.set_cons_succ])
  refine Reg.step 5 rfl (by kernel_rfl) (by rfl) (fun K hK => ?_)
  go_simp
  refine (HM w2 LL2.out).out.mono ?_
  rintro e' w3 ⟨rfl, hb⟩
  have LL3 := Lib.hid (LL2.out.trans (hb.mono LL2.out.size))
  clear hb
  refine hK.out _ _ (HS _ LL3.out) (fun hHeld2 => ?_)
  clear hK K
  (try simp only [Act.put, List.setIfInBounds_toArray, List.set_cons_zero, List.set_cons_succ])
  (first | (refine Reg.take 6 (v := ?_) rfl (by kernel_rfl) (by kernel_rfl) (by kernel_rfl) (fun _ _ _ h => h) (Or.inl ⟨by rfl, ?_⟩) (by assumption) ?_; rotate_left; (focus ((intro W hSW); (try dsimp only at hSW); (try go_split_ands); go_simp; (try (with_reducible rfl)); done))) | (refine Reg.take 6 (v := undef) rfl (by kernel_rfl) (by kernel_rfl) (by kernel_rfl) (fun _ _ _ h => h) (Or.inr ⟨by rfl, rfl⟩) (by assumption) ?_))
  (try simp only [Act.put, List.setIfInBounds_toArray, List.set_cons_zero, List.set_cons_succ])
  (first | (refine Reg.take 7 (v := ?_) rfl (by kernel_rfl) (by kernel_rfl) (by kernel_rfl) (fun _ _ _ h => h) (Or.inl ⟨by rfl, ?_⟩) (by assumption) ?_; rotate_left; (focus ((intro W hSW); (try dsimp only at hSW); (try go_split_ands); go_simp; (try (with_reducible rfl)); done))) | (refine Reg.take 7 (v := undef) rfl (by kernel_rfl) (by kernel_rfl) (by kernel_rfl) (fun _ _ _ h => h) (Or.inr ⟨by rfl, rfl⟩) (by assumption) ?_))
  (try simp only [Act.put, List.setIfInBounds_toArray, List.set_cons_zero, List.set_cons_succ])
  (first | (refine Reg.take 8 (v := ?_) rfl (by kernel_rfl) (by kernel_rfl) (by kernel_rfl) (fun _ _ _ h => h) (Or.inl ⟨by rfl, ?_⟩) (by assumption) ?_; rotate_left; (focus ((intro W hSW); (try dsimp only at hSW); (try go_split_ands); go_simp; (try (with_reducible rfl)); done))) | (refine Reg.take 8 (v := undef) rfl (by kernel_rfl) (by kernel_rfl) (by kernel_rfl) (fun _ _ _ h => h) (Or.inr ⟨by rfl, rfl⟩) (by assumption) ?_))
  (try simp only [Act.put, List.setIfInBounds_toArray, List.set_cons_zero, List.set_cons_succ])
  (first | (refine Reg.take 9 (v := ?_) rfl (by kernel_rfl) (by kernel_rfl) (by kernel_rfl) (fun _ _ _ h => h) (Or.inl ⟨by rfl, ?_⟩) (by assumption) ?_; rotate_left; (focus ((intro W hSW); (try dsimp only at hSW); (try go_split_ands); go_simp; (try (with_reducible rfl)); done))) | (refine Reg.take 9 (v := undef) rfl (by kernel_rfl) (by kernel_rfl) (by kernel_rfl) (fun _ _ _ h => h) (Or.inr ⟨by rfl, rfl⟩) (by assumption) ?_))
  (try simp only [Act.put, List.setIfInBounds_toArray, List.set_cons_zero, List.set_cons_succ])
  (first | (refine Reg.take 10 (v := ?_) rfl (by kernel_rfl) (by kernel_rfl) (by kernel_rfl) (fun _ _ _ h => h) (Or.inl ⟨by rfl, ?_⟩) (by assumption) ?_; rotate_left; (focus ((intro W hSW); (try dsimp only at hSW); (try go_split_ands); go_simp; (try (with_reducible rfl)); done))) | (refine Reg.take 10 (v := undef) rfl (by kernel_rfl) (by kernel_rfl) (by kernel_rfl) (fun _ _ _ h => h) (Or.inr ⟨by rfl, rfl⟩) (by assumption) ?_))
  (try simp only [Act.put, List.setIfInBounds_toArray, List.set_cons_zero, List.set_cons_succ])
  refine wpAnyH_done (by kernel_rfl) ?_ _
  clear hHeld hHeld2
  have HCF := Lib.hid (contains_any (OwnsF.row (D1.out.below LL3.out).f (by omega)) 82 #[.pointer (some ⟨w.heap.size, 0, none⟩)] (enters_of Tryz.func82 (by kernel_rfl) rfl) (inW z) (fun W y hW => away1_any z w.heap.size y W (Lea.Cells.below Z1.out (LL3.out.trans (hW.mono LL3.out.size)))))
  obtain ⟨m0, m1, m2, m3, m4, m5, m6⟩ := (HS _ LL3.out).1
  have HAW : Hid (awayB x.p z = ((o.1 != -1) || x.p.wt.any (inW z))) := by show _ = _; unfold awayB; rw [HOB.out]
  rcases e1 : (o.1 != -1)
  · go_wp2_with fail
    refine HCF.out.mono ?_
    rintro e w4 ⟨rfl, hb⟩
    have LL4 := Lib.hid (LL3.out.trans (hb.mono LL3.out.size))
    clear hb m0 m1 m2 m3 m4 m5 m6
    go_wp2_with fail
    go_ret
    exact ⟨by rw [HAW.out, e1]; rfl, L1.out.trans (LL4.out.mono L1.out.size)⟩
  · go_wp2_with fail
    go_ret
    exact ⟨by rw [HAW.out, e1]; rfl, L1.out.trans (LL3.out.mono L1.out.size)⟩
end Coo
end Go.Proofs.YtmflngclncidjaaGreat
/-
  FENCES OF ONE'S OWN: one is written; rows' heads and ends as cells. (Written by gen_coocopy.py.)
-/
namespace Go.Proofs.YtmflngclncidjaaGreat
open Go.RowKit Mem
namespace Coo
open Lea (Cells But OneBox)
/-- Two copies that open a row and fill the gap; two that lay a new row's middle and end. -/
theorem splice_in {α : Type} (X1 X2 R Y : List α) (a b : Nat) (ha : X1.length = a) (hb : Y.length = b) (hR : b ≤ R.length) :
    splice (splice (X1 ++ X2 ++ R) (a + b) X2) a Y = X1 ++ Y ++ X2 ++ R.drop b := by
  subst ha hb
  unfold splice
  have e0 : ((X1 ++ X2 ++ R).take (X1.length + Y.length)).length = X1.length + Y.length := by simp; omega
  have e1 : ((X1 ++ X2 ++ R).take (X1.length + Y.length)).take X1.length = X1 := by
    rw [List.take_take, Nat.min_eq_left (by omega), List.append_assoc, List.take_append_of_le_length (Nat.le_refl _), List.take_length]
  have e2 : (X1 ++ X2 ++ R).drop (X1.length + Y.length + X2.length) = R.drop Y.length := by
    rw [List.drop_append, List.drop_eq_nil_of_le (by simp only [List.length_append]; omega), List.nil_append]
    congr 1
    simp only [List.length_append]
    omega
  rw [e2]
  rw [List.take_append_of_le_length (by omega), e1, List.drop_append, e0, List.drop_eq_nil_of_le (by omega)]
  simp
theorem flat_take (l : List Fv) (i : Nat) : (l.flatMap cellsF).take (i * 3) = (l.take i).flatMap cellsF := by
  induction l generalizing i with
  | nil => simp
  | cons x l ih =>
    rcases i with _ | i
    · simp
    · rw [List.flatMap_cons, List.take_succ_cons, List.flatMap_cons, List.take_append, List.take_of_length_le (by rw [fence_len]; omega), fence_len, show (i + 1) * 3 - 3 = i * 3 by omega, ih]
theorem flat_drop (l : List Fv) (i : Nat) : (l.flatMap cellsF).drop (i * 3) = (l.drop i).flatMap cellsF := by
  induction l generalizing i with
  | nil => simp
  | cons x l ih =>
    rcases i with _ | i
    · simp
    · rw [List.flatMap_cons, List.drop_succ_cons, List.drop_append, List.drop_eq_nil_of_le (by rw [fence_len]; omega), fence_len, show (i + 1) * 3 - 3 = i * 3 by omega, ih, List.nil_append]

theorem isNone_own {A : Option Addr} {base : Nat} {w : World} {n c : Nat} {l : List Fv} (h : OwnsF base w (.slice A n c) n l) (h0 : 0 < n) : ∃ g cur, A = some ⟨g, 0, none⟩ ∧ base ≤ g ∧ Cells w g 51 cur ∧ n ≤ c ∧ c ≤ maxLen ∧ cur.size = c * 3 ∧ cur.toList.take (n * 3) = l.flatMap cellsF := by
  rcases h.1.2 with ⟨-, h1⟩ | ⟨g, cap, cur, e, hb, hg, hnc, hcm, hs, ht⟩
  · omega
  · injection e with e1 _ e3
    subst e1 e3
    exact ⟨g, cur, rfl, hb, hg, hnc, hcm, hs, ht⟩
theorem own_made {w : World} {base g n c : Nat} {cur : List Value} {l : List Fv} (hg : Cells w g 51 cur.toArray) (hb : base ≤ g) (hnc : n ≤ c) (hcm : c ≤ maxLen) (hs : cur.length = c * 3) (ht : cur.take (n * 3) = l.flatMap cellsF) (hl : l.length = n) : OwnsF base w (.slice (some ⟨g, 0, none⟩) n c) n l :=
  ⟨⟨by rw [flat_len, hl], .inr ⟨g, c, cur.toArray, rfl, hb, hg, hnc, hcm, by simpa using hs, by simpa using ht⟩⟩, hl⟩

/-- Where nothing that lay there has changed, nothing but any block has. -/
theorem grown_below {w w' : World} (h : Below w.heap.size w w') (r : Option Nat) : w.grownBy w' r := ⟨h.os, h.tape, h.output, h.size, fun k hk _ => h.block k hk⟩

/-- One number of one fence of a row of one's own is written. -/
theorem OwnsF.put {base : Nat} {w : World} {A : Option Addr} {n c : Nat} {l : List Fv} (h : OwnsF base w (.slice A n c) n l) {k : Nat} {x : Fv} (hx : l[k]? = some x) :
    ∃ g, A = some ⟨g, 0, none⟩ ∧ base ≤ g ∧ g < w.heap.size ∧ (w.cell? ⟨g, k * 3, none⟩ = some (.int .i64 x.zone) ∧ w.cell? ⟨g, k * 3 + 1, none⟩ = some (.int .i64 x.host) ∧ w.cell? ⟨g, k * 3 + 2, none⟩ = some (.int .i64 x.epoch)) ∧ (∀ i, w.frozen? ⟨g, i, none⟩ = false) ∧
      ∀ (j : Nat) (v : Value) (y : Fv), j < 3 → cellsF y = (cellsF x).set j v → OwnsF base (w.setCell ⟨g, k * 3 + j, none⟩ v) (.slice A n c) n (l.set k y) := by
  have hk := (List.getElem?_eq_some_iff.1 hx).1
  rcases h.1.2 with ⟨-, h1⟩ | ⟨g, cap, cur, e, hb, hg, hnc, hcm, hs, ht⟩
  · have := h.2; omega
  · injection e with e1 _ e3
    subst e1 e3
    have hcell : ∀ j u, (cellsF x)[j]? = some u → w.cell? ⟨g, k * 3 + j, none⟩ = some u := fun j u hu => by
      have := World.ownsRow.cells (g := g) h.1 rfl (k * 3 + j) u (flat_get l k j x u hx hu)
      rwa [Mem.add_none, Nat.zero_add] at this
    refine ⟨g, rfl, hb, (Array.getElem?_eq_some_iff.1 hg).1, ⟨hcell 0 _ rfl, hcell 1 _ rfl, hcell 2 _ rfl⟩, fun i => Lea.frozen_of hg i, fun j v y hj hy => ⟨?_, by rw [List.length_set]; exact h.2⟩⟩
    have hst := (World.ownsRow.stored h.1 (k * 3 + j) v).1
    have he : (l.flatMap cellsF).set (k * 3 + j) v = (l.set k y).flatMap cellsF := by
      apply List.ext_getElem?
      intro i
      rw [List.getElem?_set, flat_len]
      have hl4 : ((l.set k y).flatMap cellsF).length = l.length * 3 := by rw [flat_len, List.length_set]
      by_cases hi : k * 3 + j = i
      · subst hi
        rw [if_pos rfl, if_pos (by omega)]
        exact (flat_get _ k j y _ (by simp [hk]) (by rw [hy, List.getElem?_set, if_pos rfl, if_pos (by rw [fence_len]; exact hj)])).symm
      · rw [if_neg hi]
        rcases Nat.lt_or_ge i (l.length * 3) with h1 | h1
        · obtain ⟨u, hu⟩ : ∃ u, (l.flatMap cellsF)[i]? = some u := ⟨_, List.getElem?_eq_getElem (by rw [flat_len]; exact h1)⟩
          obtain ⟨z, hz, hzu⟩ := flat_inv l i u hu
          rw [hu]
          by_cases hik : k = i / 3
          · subst hik
            have hxz := hx.symm.trans hz
            injection hxz with hxz
            subst hxz
            have := flat_get (l.set (i / 3) y) (i / 3) (i % 3) y u (by simp [hk]) (by
              rw [hy, List.getElem?_set, if_neg (by omega)]; exact hzu)
            rw [show i / 3 * 3 + i % 3 = i by omega] at this
            exact this.symm
          · have := flat_get (l.set k y) (i / 3) (i % 3) z u (by rw [List.getElem?_set, if_neg hik]; exact hz) hzu
            rw [show i / 3 * 3 + i % 3 = i by omega] at this
            exact this.symm
        · rw [List.getElem?_eq_none (by rw [flat_len]; exact h1), List.getElem?_eq_none (by rw [hl4]; exact h1)]
    rw [← he]
    exact hst
theorem set_at {l : List Fv} {k : Nat} (h : k < l.length) (y : Fv) : (l.set k y)[k]? = some y := by simp [h]
theorem OwnsF.put_ {base g : Nat} {w : World} {n c : Nat} {l : List Fv} (h : OwnsF base w (.slice (some ⟨g, 0, none⟩) n c) n l) {k : Nat} {x : Fv} (hx : l[k]? = some x) (j : Nat) (v : Value) (y : Fv) (hj : j < 3) (hy : cellsF y = (cellsF x).set j v) :
    OwnsF base (w.setCell ⟨g, k * 3 + j, none⟩ v) (.slice (some ⟨g, 0, none⟩) n c) n (l.set k y) := by
  obtain ⟨g', hA, -, -, -, -, h0⟩ := OwnsF.put h hx
  injection hA with hA
  injection hA with hA
  subst hA
  exact h0 j v y hj hy
def set3W (w : World) (g k : Nat) (y : Fv) : World := (((w.setCell ⟨g, k * 3, none⟩ (.int .i64 y.zone)).setCell ⟨g, k * 3 + 1, none⟩ (.int .i64 y.host)).setCell ⟨g, k * 3 + 2, none⟩ (.int .i64 y.epoch))
/-- A fence of a row of one's own is written whole. -/
theorem OwnsF.put3 {base g : Nat} {w : World} {n c : Nat} {l : List Fv} (h : OwnsF base w (.slice (some ⟨g, 0, none⟩) n c) n l) {k : Nat} {x : Fv} (hx : l[k]? = some x) (y : Fv) : OwnsF base (set3W w g k y) (.slice (some ⟨g, 0, none⟩) n c) n (l.set k y) := by
  have hk := (List.getElem?_eq_some_iff.1 hx).1
  have e0 := OwnsF.put_ h hx 0 (.int .i64 y.zone) ⟨y.zone, x.host, x.epoch⟩ (by omega) rfl
  rw [Nat.add_zero] at e0
  have e1 := OwnsF.put_ e0 (set_at hk _) 1 (.int .i64 y.host) ⟨y.zone, y.host, x.epoch⟩ (by omega) rfl
  rw [List.set_set] at e1
  have e2 := OwnsF.put_ e1 (set_at hk _) 2 (.int .i64 y.epoch) y (by omega) rfl
  rw [List.set_set] at e2
  exact e2
theorem belowk {B g : Nat} {a w : World} (h : Below B a w) (hg : B ≤ g) (i : Nat) (v : Value) : Below B a (w.setCell ⟨g, i, none⟩ v) := h.setCell (p := ⟨g, i, none⟩) hg v

/-- One fence, laid as a row of one's own. -/
theorem OwnsF.built {base : Nat} {w : World} (x : Fv) (hb : base ≤ w.heap.size) : OwnsF base (w.alloc (.cells #[.int .i64 x.zone, .int .i64 x.host, .int .i64 x.epoch] 51)) (.slice (some ⟨w.heap.size, 0, none⟩) 1 1) 1 [x] :=
  ⟨⟨by simp [cellsF], .inr ⟨w.heap.size, 1, _, rfl, hb, heap_alloc_new w _, Nat.le_refl _, by unfold maxLen; omega, rfl, by simp [cellsF]⟩⟩, rfl⟩

end Coo
end Go.Proofs.YtmflngclncidjaaGreat
