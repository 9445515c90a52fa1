/-
  SEVERAL TEXTS IN ONE FILE: CooEq, CooDoCall, CooLive.
-/
import Derived.Test.YtmflngclncidjaaGreatJ06
import Derived.Laws.StructEq
import Derived.Test.YtmflngclncidjaaGreatJ25
/-
  WALKS: slices.Equal over leases, spans, fences that are the same; Same. (Written by gen_cooeq.py.)
-/
namespace Go.Proofs.YtmflngclncidjaaGreat
open Go.RowKit Mem
namespace Coo
open Lea (Cells But OneBox Lv Tv)
open Spa (Sp)

theorem lease_guard : Tryz.prog.eqGuardType Tryz.prog.depth 65 = false := by kernel_rfl
theorem lease_equal (x : Lv) (w : World) : (Op.equalIn 10000 65 (.agg #[.int .i64 x.key, .int .i64 x.host, .int .i64 x.epoch, .int .i64 x.til]) (.agg #[.int .i64 x.key, .int .i64 x.host, .int .i64 x.epoch, .int .i64 x.til])).run Tryz.prog w = .ok true w := by
  have u3 := Tryz.underlying3
  have a3 := Tryz.isAgg3
  have z3 := Tryz.sizeOf3
  have hS : Tryz.prog.underlying 65 = some (.struct (Tryz.prog.fieldsOf 65)) := by kernel_rfl
  have hp : Tryz.prog.stoodInHeld 65 = false := by kernel_rfl
  rw [show (10000 : Nat) = 9999 + 1 from rfl, run_equalIn_agg w 9999 65 _ _ hS hp]
  simp only [Program.fieldsOf, Tryz.underlying65]
  go_simp
  try simp
theorem lease_eql (x : Lv) (w : World) : (binOp .eql 65 (.agg #[.int .i64 x.key, .int .i64 x.host, .int .i64 x.epoch, .int .i64 x.til]) (.agg #[.int .i64 x.key, .int .i64 x.host, .int .i64 x.epoch, .int .i64 x.til])).run Tryz.prog w = .ok (.bool true) w := by
  rw [run_eql_struct, lease_equal]; rfl
theorem lease_neq (x : Lv) (w : World) : (binOp .neq 65 (.agg #[.int .i64 x.key, .int .i64 x.host, .int .i64 x.epoch, .int .i64 x.til]) (.agg #[.int .i64 x.key, .int .i64 x.host, .int .i64 x.epoch, .int .i64 x.til])).run Tryz.prog w = .ok (.bool false) w := by
  rw [run_neq_struct, lease_equal]; rfl

set_option maxRecDepth 100000 in
set_option maxHeartbeats 3200000 in
theorem lease_same {w : World} {A B : Option Addr} {n c d : Nat} {l : List Lv} (h : Lea.RowL w A n c l) (h2 : Lea.RowL w B n d l) (hn : n ≤ 1000000) :
    Calls Tryz.prog 21 #[.slice A n c, .slice B n d] w fun e w' => e = .returned (.bool true) ∧ Below w.heap.size w w' := by
  have HA := Lib.hid h
  have HB := Lib.hid h2
  have hbig := h.big
  clear h h2
  go_enter Tryz.func21, Tryz.ntmps21
  go_wp2
  go_loopw [5, 13] (fun _ i wr => ∃ k : Nat, i = .int .i64 k ∧ k ≤ n ∧ Hid (Below w.heap.size w wr)) (fun _ i _ => n - (intOf i).toNat)
  case atStart => exact ⟨0, rfl, by omega, Below.refl _ _⟩
  case round =>
    obtain ⟨k, rfl, hk, hH⟩ := hrel
    by_cases hlt : k < n
    · obtain ⟨x, hx⟩ := HA.out.get hlt
      obtain ⟨b, o, hA, c0, c1, c2, c3⟩ := Lea.RowS.lease_at (RowS.below HA.out hH.out) hx
      obtain ⟨b', o', hB, d0, d1, d2, d3⟩ := Lea.RowS.lease_at (RowS.below HB.out hH.out) hx
      subst hA hB
      have hk0 : (0 : Int) ≤ (k : Int) := by omega
      have hkn : (k : Int) < (n : Int) := by omega
      have hne := fun w => lease_neq x w
      have hgd := lease_guard
      clear hx
      go_upto_region 6 with fail
      refine wp_region_held_drew (S := fun W => (W.cell? ⟨b, o + k * 4, none⟩ = some (.int .i64 x.key) ∧ W.cell? ⟨b, o + k * 4 + 1, none⟩ = some (.int .i64 x.host) ∧ W.cell? ⟨b, o + k * 4 + 2, none⟩ = some (.int .i64 x.epoch) ∧ W.cell? ⟨b, o + k * 4 + 3, none⟩ = some (.int .i64 x.til)) ∧ (W.cell? ⟨b', o' + k * 4, none⟩ = some (.int .i64 x.key) ∧ W.cell? ⟨b', o' + k * 4 + 1, none⟩ = some (.int .i64 x.host) ∧ W.cell? ⟨b', o' + k * 4 + 2, none⟩ = some (.int .i64 x.epoch) ∧ W.cell? ⟨b', o' + k * 4 + 3, none⟩ = some (.int .i64 x.til))) (by kernel_rfl) ⟨⟨c0, c1, c2, c3⟩, ⟨d0, d1, d2, d3⟩⟩ (fun hHeld => ?_)
      (first | (refine Reg.take 0 (v := ?_) rfl (by kernel_rfl) (by kernel_rfl) (by kernel_rfl) (fun _ _ _ h => h) (Or.inl ⟨by rfl, ?_⟩) (by assumption) ?_; rotate_left; (focus ((intro W hSW); (try dsimp only at hSW); (try go_split_ands); go_simp; (try (with_reducible rfl)); done))) | (refine Reg.take 0 (v := undef) rfl (by kernel_rfl) (by kernel_rfl) (by kernel_rfl) (fun _ _ _ h => h) (Or.inr ⟨by rfl, rfl⟩) (by assumption) ?_))
      (try simp only [Act.put, List.setIfInBounds_toArray, List.set_cons_zero, List.set_cons_succ])
      (first | (refine Reg.take 1 (v := ?_) rfl (by kernel_rfl) (by kernel_rfl) (by kernel_rfl) (fun _ _ _ h => h) (Or.inl ⟨by rfl, ?_⟩) (by assumption) ?_; rotate_left; (focus ((intro W hSW); (try dsimp only at hSW); (try go_split_ands); go_simp; (try (with_reducible rfl)); done))) | (refine Reg.take 1 (v := undef) rfl (by kernel_rfl) (by kernel_rfl) (by kernel_rfl) (fun _ _ _ h => h) (Or.inr ⟨by rfl, rfl⟩) (by assumption) ?_))
      (try simp only [Act.put, List.setIfInBounds_toArray, List.set_cons_zero, List.set_cons_succ])
      (first | (refine Reg.take 2 (v := ?_) rfl (by kernel_rfl) (by kernel_rfl) (by kernel_rfl) (fun _ _ _ h => h) (Or.inl ⟨by rfl, ?_⟩) (by assumption) ?_; rotate_left; (focus ((intro W hSW); (try dsimp only at hSW); (try go_split_ands); go_simp; (try (with_reducible rfl)); done))) | (refine Reg.take 2 (v := undef) rfl (by kernel_rfl) (by kernel_rfl) (by kernel_rfl) (fun _ _ _ h => h) (Or.inr ⟨by rfl, rfl⟩) (by assumption) ?_))
      (try simp only [Act.put, List.setIfInBounds_toArray, List.set_cons_zero, List.set_cons_succ])
      (first | (refine Reg.take 3 (v := ?_) rfl (by kernel_rfl) (by kernel_rfl) (by kernel_rfl) (fun _ _ _ h => h) (Or.inl ⟨by rfl, ?_⟩) (by assumption) ?_; rotate_left; (focus ((intro W hSW); (try dsimp only at hSW); (try go_split_ands); go_simp; (try (with_reducible rfl)); done))) | (refine Reg.take 3 (v := undef) rfl (by kernel_rfl) (by kernel_rfl) (by kernel_rfl) (fun _ _ _ h => h) (Or.inr ⟨by rfl, rfl⟩) (by assumption) ?_))
      (try simp only [Act.put, List.setIfInBounds_toArray, List.set_cons_zero, List.set_cons_succ])
      (first | (refine Reg.take 4 (v := ?_) rfl (by kernel_rfl) (by kernel_rfl) (by kernel_rfl) (fun _ _ _ h => h) (Or.inl ⟨by rfl, ?_⟩) (by assumption) ?_; rotate_left; (focus ((intro W hSW); (try dsimp only at hSW); (try go_split_ands); go_simp; (try (with_reducible rfl)); done))) | (refine Reg.take 4 (v := undef) rfl (by kernel_rfl) (by kernel_rfl) (by kernel_rfl) (fun _ _ _ h => h) (Or.inr ⟨by rfl, rfl⟩) (by assumption) ?_))
      (try simp only [Act.put, List.setIfInBounds_toArray, List.set_cons_zero, List.set_cons_succ])
      (first | (refine Reg.take 5 (v := ?_) rfl (by kernel_rfl) (by kernel_rfl) (by kernel_rfl) (fun _ _ _ h => h) (Or.inl ⟨by rfl, ?_⟩) (by assumption) ?_; rotate_left; (focus ((intro W hSW); (try dsimp only at hSW); (try go_split_ands); go_simp; (try (with_reducible rfl)); done))) | (refine Reg.take 5 (v := undef) rfl (by kernel_rfl) (by kernel_rfl) (by kernel_rfl) (fun _ _ _ h => h) (Or.inr ⟨by rfl, rfl⟩) (by assumption) ?_))
      (try simp only [Act.put, List.setIfInBounds_toArray, List.set_cons_zero, List.set_cons_succ])
      (first | (refine Reg.take 6 (v := ?_) rfl (by kernel_rfl) (by kernel_rfl) (by kernel_rfl) (fun _ _ _ h => h) (Or.inl ⟨by rfl, ?_⟩) (by assumption) ?_; rotate_left; (focus ((intro W hSW); (try dsimp only at hSW); (try go_split_ands); go_simp; (try (with_reducible rfl)); done))) | (refine Reg.take 6 (v := undef) rfl (by kernel_rfl) (by kernel_rfl) (by kernel_rfl) (fun _ _ _ h => h) (Or.inr ⟨by rfl, rfl⟩) (by assumption) ?_))
      (try simp only [Act.put, List.setIfInBounds_toArray, List.set_cons_zero, List.set_cons_succ])
      (first | (refine Reg.take 7 (v := ?_) rfl (by kernel_rfl) (by kernel_rfl) (by kernel_rfl) (fun _ _ _ h => h) (Or.inl ⟨by rfl, ?_⟩) (by assumption) ?_; rotate_left; (focus ((intro W hSW); (try dsimp only at hSW); (try go_split_ands); go_simp; (try (with_reducible rfl)); done))) | (refine Reg.take 7 (v := undef) rfl (by kernel_rfl) (by kernel_rfl) (by kernel_rfl) (fun _ _ _ h => h) (Or.inr ⟨by rfl, rfl⟩) (by assumption) ?_))
      (try simp only [Act.put, List.setIfInBounds_toArray, List.set_cons_zero, List.set_cons_succ])
      refine Reg.step 8 rfl (by kernel_rfl) (by rfl) (fun K hK => ?_)
      go_simp
      refine hK.out _ _ hHeld (fun hHeld2 => ?_)
      clear hK K
      (try simp only [Act.put, List.setIfInBounds_toArray, List.set_cons_zero, List.set_cons_succ])
      refine wpAnyH_done (by kernel_rfl) ?_ _
      go_wp2_with fail
      go_roundw
      case rel => exact ⟨k + 1, by go_num, by omega, hH.out.drew⟩
      case measure => simp [intOf]; omega
    · go_wp2_with fail
      go_ret
      exact ⟨rfl, hH.out⟩

theorem span_guard : Tryz.prog.eqGuardType Tryz.prog.depth 48 = false := by kernel_rfl
theorem span_equal (x : Sp) (w : World) : (Op.equalIn 10000 48 (.agg #[.int .i64 x.fr, .int .i64 x.to, .int .i64 x.own, .int .i64 x.ep]) (.agg #[.int .i64 x.fr, .int .i64 x.to, .int .i64 x.own, .int .i64 x.ep])).run Tryz.prog w = .ok true w := by
  have u3 := Tryz.underlying3
  have a3 := Tryz.isAgg3
  have z3 := Tryz.sizeOf3
  have hS : Tryz.prog.underlying 48 = some (.struct (Tryz.prog.fieldsOf 48)) := by kernel_rfl
  have hp : Tryz.prog.stoodInHeld 48 = false := by kernel_rfl
  rw [show (10000 : Nat) = 9999 + 1 from rfl, run_equalIn_agg w 9999 48 _ _ hS hp]
  simp only [Program.fieldsOf, Tryz.underlying48]
  go_simp
  try simp
theorem span_eql (x : Sp) (w : World) : (binOp .eql 48 (.agg #[.int .i64 x.fr, .int .i64 x.to, .int .i64 x.own, .int .i64 x.ep]) (.agg #[.int .i64 x.fr, .int .i64 x.to, .int .i64 x.own, .int .i64 x.ep])).run Tryz.prog w = .ok (.bool true) w := by
  rw [run_eql_struct, span_equal]; rfl
theorem span_neq (x : Sp) (w : World) : (binOp .neq 48 (.agg #[.int .i64 x.fr, .int .i64 x.to, .int .i64 x.own, .int .i64 x.ep]) (.agg #[.int .i64 x.fr, .int .i64 x.to, .int .i64 x.own, .int .i64 x.ep])).run Tryz.prog w = .ok (.bool false) w := by
  rw [run_neq_struct, span_equal]; rfl

set_option maxRecDepth 100000 in
set_option maxHeartbeats 3200000 in
theorem span_same {w : World} {A B : Option Addr} {n c d : Nat} {l : List Sp} (h : Spa.RowL w A n c l) (h2 : Spa.RowL w B n d l) (hn : n ≤ 1000000) :
    Calls Tryz.prog 22 #[.slice A n c, .slice B n d] w fun e w' => e = .returned (.bool true) ∧ Below w.heap.size w w' := by
  have HA := Lib.hid h
  have HB := Lib.hid h2
  have hbig := h.big
  clear h h2
  go_enter Tryz.func22, Tryz.ntmps22
  go_wp2
  go_loopw [5, 13] (fun _ i wr => ∃ k : Nat, i = .int .i64 k ∧ k ≤ n ∧ Hid (Below w.heap.size w wr)) (fun _ i _ => n - (intOf i).toNat)
  case atStart => exact ⟨0, rfl, by omega, Below.refl _ _⟩
  case round =>
    obtain ⟨k, rfl, hk, hH⟩ := hrel
    by_cases hlt : k < n
    · obtain ⟨x, hx⟩ := HA.out.get hlt
      obtain ⟨b, o, hA, c0, c1, c2, c3⟩ := Spa.RowS.span_at (RowS.below HA.out hH.out) hx
      obtain ⟨b', o', hB, d0, d1, d2, d3⟩ := Spa.RowS.span_at (RowS.below HB.out hH.out) hx
      subst hA hB
      have hk0 : (0 : Int) ≤ (k : Int) := by omega
      have hkn : (k : Int) < (n : Int) := by omega
      have hne := fun w => span_neq x w
      have hgd := span_guard
      clear hx
      go_upto_region 6 with fail
      refine wp_region_held_drew (S := fun W => (W.cell? ⟨b, o + k * 4, none⟩ = some (.int .i64 x.fr) ∧ W.cell? ⟨b, o + k * 4 + 1, none⟩ = some (.int .i64 x.to) ∧ W.cell? ⟨b, o + k * 4 + 2, none⟩ = some (.int .i64 x.own) ∧ W.cell? ⟨b, o + k * 4 + 3, none⟩ = some (.int .i64 x.ep)) ∧ (W.cell? ⟨b', o' + k * 4, none⟩ = some (.int .i64 x.fr) ∧ W.cell? ⟨b', o' + k * 4 + 1, none⟩ = some (.int .i64 x.to) ∧ W.cell? ⟨b', o' + k * 4 + 2, none⟩ = some (.int .i64 x.own) ∧ W.cell? ⟨b', o' + k * 4 + 3, none⟩ = some (.int .i64 x.ep))) (by kernel_rfl) ⟨⟨c0, c1, c2, c3⟩, ⟨d0, d1, d2, d3⟩⟩ (fun hHeld => ?_)
      (first | (refine Reg.take 0 (v := ?_) rfl (by kernel_rfl) (by kernel_rfl) (by kernel_rfl) (fun _ _ _ h => h) (Or.inl ⟨by rfl, ?_⟩) (by assumption) ?_; rotate_left; (focus ((intro W hSW); (try dsimp only at hSW); (try go_split_ands); go_simp; (try (with_reducible rfl)); done))) | (refine Reg.take 0 (v := undef) rfl (by kernel_rfl) (by kernel_rfl) (by kernel_rfl) (fun _ _ _ h => h) (Or.inr ⟨by rfl, rfl⟩) (by assumption) ?_))
      (try simp only [Act.put, List.setIfInBounds_toArray, List.set_cons_zero, List.set_cons_succ])
      (first | (refine Reg.take 1 (v := ?_) rfl (by kernel_rfl) (by kernel_rfl) (by kernel_rfl) (fun _ _ _ h => h) (Or.inl ⟨by rfl, ?_⟩) (by assumption) ?_; rotate_left; (focus ((intro W hSW); (try dsimp only at hSW); (try go_split_ands); go_simp; (try (with_reducible rfl)); done))) | (refine Reg.take 1 (v := undef) rfl (by kernel_rfl) (by kernel_rfl) (by kernel_rfl) (fun _ _ _ h => h) (Or.inr ⟨by rfl, rfl⟩) (by assumption) ?_))
      (try simp only [Act.put, List.setIfInBounds_toArray, List.set_cons_zero, List.set_cons_succ])
      (first | (refine Reg.take 2 (v := ?_) rfl (by kernel_rfl) (by kernel_rfl) (by kernel_rfl) (fun _ _ _ h => h) (Or.inl ⟨by rfl, ?_⟩) (by assumption) ?_; rotate_left; (focus ((intro W hSW); (try dsimp only at hSW); (try go_split_ands); go_simp; (try (with_reducible rfl)); done))) | (refine Reg.take 2 (v := undef) rfl (by kernel_rfl) (by kernel_rfl) (by kernel_rfl) (fun _ _ _ h => h) (Or.inr ⟨by rfl, rfl⟩) (by assumption) ?_))
      (try simp only [Act.put, List.setIfInBounds_toArray, List.set_cons_zero, List.set_cons_succ])
      (first | (refine Reg.take 3 (v := ?_) rfl (by kernel_rfl) (by kernel_rfl) (by kernel_rfl) (fun _ _ _ h => h) (Or.inl ⟨by rfl, ?_⟩) (by assumption) ?_; rotate_left; (focus ((intro W hSW); (try dsimp only at hSW); (try go_split_ands); go_simp; (try (with_reducible rfl)); done))) | (refine Reg.take 3 (v := undef) rfl (by kernel_rfl) (by kernel_rfl) (by kernel_rfl) (fun _ _ _ h => h) (Or.inr ⟨by rfl, rfl⟩) (by assumption) ?_))
      (try simp only [Act.put, List.setIfInBounds_toArray, List.set_cons_zero, List.set_cons_succ])
      (first | (refine Reg.take 4 (v := ?_) rfl (by kernel_rfl) (by kernel_rfl) (by kernel_rfl) (fun _ _ _ h => h) (Or.inl ⟨by rfl, ?_⟩) (by assumption) ?_; rotate_left; (focus ((intro W hSW); (try dsimp only at hSW); (try go_split_ands); go_simp; (try (with_reducible rfl)); done))) | (refine Reg.take 4 (v := undef) rfl (by kernel_rfl) (by kernel_rfl) (by kernel_rfl) (fun _ _ _ h => h) (Or.inr ⟨by rfl, rfl⟩) (by assumption) ?_))
      (try simp only [Act.put, List.setIfInBounds_toArray, List.set_cons_zero, List.set_cons_succ])
      (first | (refine Reg.take 5 (v := ?_) rfl (by kernel_rfl) (by kernel_rfl) (by kernel_rfl) (fun _ _ _ h => h) (Or.inl ⟨by rfl, ?_⟩) (by assumption) ?_; rotate_left; (focus ((intro W hSW); (try dsimp only at hSW); (try go_split_ands); go_simp; (try (with_reducible rfl)); done))) | (refine Reg.take 5 (v := undef) rfl (by kernel_rfl) (by kernel_rfl) (by kernel_rfl) (fun _ _ _ h => h) (Or.inr ⟨by rfl, rfl⟩) (by assumption) ?_))
      (try simp only [Act.put, List.setIfInBounds_toArray, List.set_cons_zero, List.set_cons_succ])
      (first | (refine Reg.take 6 (v := ?_) rfl (by kernel_rfl) (by kernel_rfl) (by kernel_rfl) (fun _ _ _ h => h) (Or.inl ⟨by rfl, ?_⟩) (by assumption) ?_; rotate_left; (focus ((intro W hSW); (try dsimp only at hSW); (try go_split_ands); go_simp; (try (with_reducible rfl)); done))) | (refine Reg.take 6 (v := undef) rfl (by kernel_rfl) (by kernel_rfl) (by kernel_rfl) (fun _ _ _ h => h) (Or.inr ⟨by rfl, rfl⟩) (by assumption) ?_))
      (try simp only [Act.put, List.setIfInBounds_toArray, List.set_cons_zero, List.set_cons_succ])
      (first | (refine Reg.take 7 (v := ?_) rfl (by kernel_rfl) (by kernel_rfl) (by kernel_rfl) (fun _ _ _ h => h) (Or.inl ⟨by rfl, ?_⟩) (by assumption) ?_; rotate_left; (focus ((intro W hSW); (try dsimp only at hSW); (try go_split_ands); go_simp; (try (with_reducible rfl)); done))) | (refine Reg.take 7 (v := undef) rfl (by kernel_rfl) (by kernel_rfl) (by kernel_rfl) (fun _ _ _ h => h) (Or.inr ⟨by rfl, rfl⟩) (by assumption) ?_))
      (try simp only [Act.put, List.setIfInBounds_toArray, List.set_cons_zero, List.set_cons_succ])
      refine Reg.step 8 rfl (by kernel_rfl) (by rfl) (fun K hK => ?_)
      go_simp
      refine hK.out _ _ hHeld (fun hHeld2 => ?_)
      clear hK K
      (try simp only [Act.put, List.setIfInBounds_toArray, List.set_cons_zero, List.set_cons_succ])
      refine wpAnyH_done (by kernel_rfl) ?_ _
      go_wp2_with fail
      go_roundw
      case rel => exact ⟨k + 1, by go_num, by omega, hH.out.drew⟩
      case measure => simp [intOf]; omega
    · go_wp2_with fail
      go_ret
      exact ⟨rfl, hH.out⟩

theorem fence_guard : Tryz.prog.eqGuardType Tryz.prog.depth 51 = false := by kernel_rfl
theorem fence_equal (x : Fv) (w : World) : (Op.equalIn 10000 51 (.agg #[.int .i64 x.zone, .int .i64 x.host, .int .i64 x.epoch]) (.agg #[.int .i64 x.zone, .int .i64 x.host, .int .i64 x.epoch])).run Tryz.prog w = .ok true w := by
  have u3 := Tryz.underlying3
  have a3 := Tryz.isAgg3
  have z3 := Tryz.sizeOf3
  have hS : Tryz.prog.underlying 51 = some (.struct (Tryz.prog.fieldsOf 51)) := by kernel_rfl
  have hp : Tryz.prog.stoodInHeld 51 = false := by kernel_rfl
  rw [show (10000 : Nat) = 9999 + 1 from rfl, run_equalIn_agg w 9999 51 _ _ hS hp]
  simp only [Program.fieldsOf, Tryz.underlying51]
  go_simp
  try simp
theorem fence_eql (x : Fv) (w : World) : (binOp .eql 51 (.agg #[.int .i64 x.zone, .int .i64 x.host, .int .i64 x.epoch]) (.agg #[.int .i64 x.zone, .int .i64 x.host, .int .i64 x.epoch])).run Tryz.prog w = .ok (.bool true) w := by
  rw [run_eql_struct, fence_equal]; rfl
theorem fence_neq (x : Fv) (w : World) : (binOp .neq 51 (.agg #[.int .i64 x.zone, .int .i64 x.host, .int .i64 x.epoch]) (.agg #[.int .i64 x.zone, .int .i64 x.host, .int .i64 x.epoch])).run Tryz.prog w = .ok (.bool false) w := by
  rw [run_neq_struct, fence_equal]; rfl

set_option maxRecDepth 100000 in
set_option maxHeartbeats 3200000 in
theorem fence_same {w : World} {A B : Option Addr} {n c d : Nat} {l : List Fv} (h : RowF w A n c l) (h2 : RowF w B n d l) (hn : n ≤ 1000000) :
    Calls Tryz.prog 23 #[.slice A n c, .slice B n d] w fun e w' => e = .returned (.bool true) ∧ Below w.heap.size w w' := by
  have HA := Lib.hid h
  have HB := Lib.hid h2
  have hbig := h.big
  clear h h2
  go_enter Tryz.func23, Tryz.ntmps23
  go_wp2
  go_loopw [5, 13] (fun _ i wr => ∃ k : Nat, i = .int .i64 k ∧ k ≤ n ∧ Hid (Below w.heap.size w wr)) (fun _ i _ => n - (intOf i).toNat)
  case atStart => exact ⟨0, rfl, by omega, Below.refl _ _⟩
  case round =>
    obtain ⟨k, rfl, hk, hH⟩ := hrel
    by_cases hlt : k < n
    · obtain ⟨x, hx⟩ := HA.out.get hlt
      obtain ⟨b, o, hA, c0, c1, c2⟩ := RowS.fence_at (RowS.below HA.out hH.out) hx
      obtain ⟨b', o', hB, d0, d1, d2⟩ := RowS.fence_at (RowS.below HB.out hH.out) hx
      subst hA hB
      have hk0 : (0 : Int) ≤ (k : Int) := by omega
      have hkn : (k : Int) < (n : Int) := by omega
      have hne := fun w => fence_neq x w
      have hgd := fence_guard
      clear hx
      go_upto_region 6 with fail
      refine wp_region_held_drew (S := fun W => (W.cell? ⟨b, o + k * 3, none⟩ = some (.int .i64 x.zone) ∧ W.cell? ⟨b, o + k * 3 + 1, none⟩ = some (.int .i64 x.host) ∧ W.cell? ⟨b, o + k * 3 + 2, none⟩ = some (.int .i64 x.epoch)) ∧ (W.cell? ⟨b', o' + k * 3, none⟩ = some (.int .i64 x.zone) ∧ W.cell? ⟨b', o' + k * 3 + 1, none⟩ = some (.int .i64 x.host) ∧ W.cell? ⟨b', o' + k * 3 + 2, none⟩ = some (.int .i64 x.epoch))) (by kernel_rfl) ⟨⟨c0, c1, c2⟩, ⟨d0, d1, d2⟩⟩ (fun hHeld => ?_)
      (first | (refine Reg.take 0 (v := ?_) rfl (by kernel_rfl) (by kernel_rfl) (by kernel_rfl) (fun _ _ _ h => h) (Or.inl ⟨by rfl, ?_⟩) (by assumption) ?_; rotate_left; (focus ((intro W hSW); (try dsimp only at hSW); (try go_split_ands); go_simp; (try (with_reducible rfl)); done))) | (refine Reg.take 0 (v := undef) rfl (by kernel_rfl) (by kernel_rfl) (by kernel_rfl) (fun _ _ _ h => h) (Or.inr ⟨by rfl, rfl⟩) (by assumption) ?_))
      (try simp only [Act.put, List.setIfInBounds_toArray, List.set_cons_zero, List.set_cons_succ])
      (first | (refine Reg.take 1 (v := ?_) rfl (by kernel_rfl) (by kernel_rfl) (by kernel_rfl) (fun _ _ _ h => h) (Or.inl ⟨by rfl, ?_⟩) (by assumption) ?_; rotate_left; (focus ((intro W hSW); (try dsimp only at hSW); (try go_split_ands); go_simp; (try (with_reducible rfl)); done))) | (refine Reg.take 1 (v := undef) rfl (by kernel_rfl) (by kernel_rfl) (by kernel_rfl) (fun _ _ _ h => h) (Or.inr ⟨by rfl, rfl⟩) (by assumption) ?_))
      (try simp only [Act.put, List.setIfInBounds_toArray, List.set_cons_zero, List.set_cons_succ])
      (first | (refine Reg.take 2 (v := ?_) rfl (by kernel_rfl) (by kernel_rfl) (by kernel_rfl) (fun _ _ _ h => h) (Or.inl ⟨by rfl, ?_⟩) (by assumption) ?_; rotate_left; (focus ((intro W hSW); (try dsimp only at hSW); (try go_split_ands); go_simp; (try (with_reducible rfl)); done))) | (refine Reg.take 2 (v := undef) rfl (by kernel_rfl) (by kernel_rfl) (by kernel_rfl) (fun _ _ _ h => h) (Or.inr ⟨by rfl, rfl⟩) (by assumption) ?_))
      (try simp only [Act.put, List.setIfInBounds_toArray, List.set_cons_zero, List.set_cons_succ])
      (first | (refine Reg.take 3 (v := ?_) rfl (by kernel_rfl) (by kernel_rfl) (by kernel_rfl) (fun _ _ _ h => h) (Or.inl ⟨by rfl, ?_⟩) (by assumption) ?_; rotate_left; (focus ((intro W hSW); (try dsimp only at hSW); (try go_split_ands); go_simp; (try (with_reducible rfl)); done))) | (refine Reg.take 3 (v := undef) rfl (by kernel_rfl) (by kernel_rfl) (by kernel_rfl) (fun _ _ _ h => h) (Or.inr ⟨by rfl, rfl⟩) (by assumption) ?_))
      (try simp only [Act.put, List.setIfInBounds_toArray, List.set_cons_zero, List.set_cons_succ])
      (first | (refine Reg.take 4 (v := ?_) rfl (by kernel_rfl) (by kernel_rfl) (by kernel_rfl) (fun _ _ _ h => h) (Or.inl ⟨by rfl, ?_⟩) (by assumption) ?_; rotate_left; (focus ((intro W hSW); (try dsimp only at hSW); (try go_split_ands); go_simp; (try (with_reducible rfl)); done))) | (refine Reg.take 4 (v := undef) rfl (by kernel_rfl) (by kernel_rfl) (by kernel_rfl) (fun _ _ _ h => h) (Or.inr ⟨by rfl, rfl⟩) (by assumption) ?_))
      (try simp only [Act.put, List.setIfInBounds_toArray, List.set_cons_zero, List.set_cons_succ])
      (first | (refine Reg.take 5 (v := ?_) rfl (by kernel_rfl) (by kernel_rfl) (by kernel_rfl) (fun _ _ _ h => h) (Or.inl ⟨by rfl, ?_⟩) (by assumption) ?_; rotate_left; (focus ((intro W hSW); (try dsimp only at hSW); (try go_split_ands); go_simp; (try (with_reducible rfl)); done))) | (refine Reg.take 5 (v := undef) rfl (by kernel_rfl) (by kernel_rfl) (by kernel_rfl) (fun _ _ _ h => h) (Or.inr ⟨by rfl, rfl⟩) (by assumption) ?_))
      (try simp only [Act.put, List.setIfInBounds_toArray, List.set_cons_zero, List.set_cons_succ])
      (first | (refine Reg.take 6 (v := ?_) rfl (by kernel_rfl) (by kernel_rfl) (by kernel_rfl) (fun _ _ _ h => h) (Or.inl ⟨by rfl, ?_⟩) (by assumption) ?_; rotate_left; (focus ((intro W hSW); (try dsimp only at hSW); (try go_split_ands); go_simp; (try (with_reducible rfl)); done))) | (refine Reg.take 6 (v := undef) rfl (by kernel_rfl) (by kernel_rfl) (by kernel_rfl) (fun _ _ _ h => h) (Or.inr ⟨by rfl, rfl⟩) (by assumption) ?_))
      (try simp only [Act.put, List.setIfInBounds_toArray, List.set_cons_zero, List.set_cons_succ])
      (first | (refine Reg.take 7 (v := ?_) rfl (by kernel_rfl) (by kernel_rfl) (by kernel_rfl) (fun _ _ _ h => h) (Or.inl ⟨by rfl, ?_⟩) (by assumption) ?_; rotate_left; (focus ((intro W hSW); (try dsimp only at hSW); (try go_split_ands); go_simp; (try (with_reducible rfl)); done))) | (refine Reg.take 7 (v := undef) rfl (by kernel_rfl) (by kernel_rfl) (by kernel_rfl) (fun _ _ _ h => h) (Or.inr ⟨by rfl, rfl⟩) (by assumption) ?_))
      (try simp only [Act.put, List.setIfInBounds_toArray, List.set_cons_zero, List.set_cons_succ])
      refine Reg.step 8 rfl (by kernel_rfl) (by rfl) (fun K hK => ?_)
      go_simp
      refine hK.out _ _ hHeld (fun hHeld2 => ?_)
      clear hK K
      (try simp only [Act.put, List.setIfInBounds_toArray, List.set_cons_zero, List.set_cons_succ])
      refine wpAnyH_done (by kernel_rfl) ?_ _
      go_wp2_with fail
      go_roundw
      case rel => exact ⟨k + 1, by go_num, by omega, hH.out.drew⟩
      case measure => simp [intOf]; omega
    · go_wp2_with fail
      go_ret
      exact ⟨rfl, hH.out⟩

set_option maxRecDepth 100000 in
set_option maxHeartbeats 3200000 in
theorem same_any {x y : Cx} {w : World} (h : CoordAt w x) (h' : CoordAt w y) (hp : y.p = x.p) (h1 : x.n ≤ 1000000) (h2 : x.m ≤ 1000000) (h3 : x.q ≤ 1000000) :
    Calls Tryz.prog 11 #[cxv x, cxv y] w fun e w' => e = .returned (.bool true) ∧ Below w.heap.size w w' := by
  obtain ⟨p, A, n, a, S, m, s, W, q, k⟩ := y
  dsimp only at hp
  subst hp
  have hn : n = x.n := by have := h.l.len; have := h'.l.len; dsimp only at *; omega
  have hm : m = x.m := by have := h.s.len; have := h'.s.len; dsimp only at *; omega
  have hq : q = x.q := by have := h.f.len; have := h'.f.len; dsimp only at *; omega
  subst hn hm hq
  have HX := Lib.hid h
  have HY := Lib.hid h'
  have HL := fun w (h : CoordAt w x) (h' : CoordAt w ⟨x.p, A, x.n, a, S, x.m, s, W, x.q, k⟩) => Lib.hid (lease_same h.l h'.l h1)
  have HS := fun w (h : CoordAt w x) (h' : CoordAt w ⟨x.p, A, x.n, a, S, x.m, s, W, x.q, k⟩) => Lib.hid (span_same h.s h'.s h2)
  have HF := fun w (h : CoordAt w x) (h' : CoordAt w ⟨x.p, A, x.n, a, S, x.m, s, W, x.q, k⟩) => Lib.hid (fence_same h.f h'.f h3)
  have L1 : Hid (Below w.heap.size w ((w.alloc (.cells #[.int .i64 x.p.t.last, .int .i64 x.p.t.now, .slice x.A x.n x.a, .slice x.S x.m x.s, .slice x.W x.q x.k, .int .i64 x.p.ttl, .int .i64 x.p.zones] 31)).alloc (.cells #[.int .i64 x.p.t.last, .int .i64 x.p.t.now, .slice A x.n a, .slice S x.m s, .slice W x.q k, .int .i64 x.p.ttl, .int .i64 x.p.zones] 31))) := ((Below.refl w.heap.size w).alloc (Nat.le_refl _) _).alloc (by simp) _
  have B1 : Hid (CBox ((w.alloc (.cells #[.int .i64 x.p.t.last, .int .i64 x.p.t.now, .slice x.A x.n x.a, .slice x.S x.m x.s, .slice x.W x.q x.k, .int .i64 x.p.ttl, .int .i64 x.p.zones] 31)).alloc (.cells #[.int .i64 x.p.t.last, .int .i64 x.p.t.now, .slice A x.n a, .slice S x.m s, .slice W x.q k, .int .i64 x.p.ttl, .int .i64 x.p.zones] 31)) w.heap.size x) := heap_alloc2_old w _ _
  have C1 : Hid (CBox ((w.alloc (.cells #[.int .i64 x.p.t.last, .int .i64 x.p.t.now, .slice x.A x.n x.a, .slice x.S x.m x.s, .slice x.W x.q x.k, .int .i64 x.p.ttl, .int .i64 x.p.zones] 31)).alloc (.cells #[.int .i64 x.p.t.last, .int .i64 x.p.t.now, .slice A x.n a, .slice S x.m s, .slice W x.q k, .int .i64 x.p.ttl, .int .i64 x.p.zones] 31)) (w.heap.size + 1) ⟨x.p, A, x.n, a, S, x.m, s, W, x.q, k⟩) := heap_alloc2_new w _ _
  clear h h'
  go_enter Tryz.func11, Tryz.ntmps11
  go_upto_region 1 with fail
  generalize (w.alloc (.cells #[.int .i64 x.p.t.last, .int .i64 x.p.t.now, .slice x.A x.n x.a, .slice x.S x.m x.s, .slice x.W x.q x.k, .int .i64 x.p.ttl, .int .i64 x.p.zones] 31)).alloc (.cells #[.int .i64 x.p.t.last, .int .i64 x.p.t.now, .slice A x.n a, .slice S x.m s, .slice W x.q k, .int .i64 x.p.ttl, .int .i64 x.p.zones] 31) = w1 at *
  obtain ⟨m0, m1, m2, m3, m4, m5, m6⟩ := seven B1.out
  obtain ⟨n0, n1, n2, n3, n4, n5, n6⟩ := seven C1.out
  dsimp only at n0 n1 n2 n3 n4 n5 n6
  go_wp2_with fail
  refine (HL w1 (HX.out.below L1.out) (HY.out.below L1.out)).out.mono ?_
  rintro e w2 ⟨rfl, hb⟩
  have L2 := Lib.hid (L1.out.trans (hb.mono L1.out.size))
  have B2 := Lib.hid (Lea.Cells.below B1.out hb)
  have C2 := Lib.hid (Lea.Cells.below C1.out hb)
  clear hb m0 m1 m2 m3 m4 m5 m6 n0 n1 n2 n3 n4 n5 n6 B1 C1 L1 HL
  obtain ⟨m0, m1, m2, m3, m4, m5, m6⟩ := seven B2.out
  obtain ⟨n0, n1, n2, n3, n4, n5, n6⟩ := seven C2.out
  dsimp only at n0 n1 n2 n3 n4 n5 n6
  go_wp2_with fail
  refine (HS w2 (HX.out.below L2.out) (HY.out.below L2.out)).out.mono ?_
  rintro e w3 ⟨rfl, hb⟩
  have L3 := Lib.hid (L2.out.trans (hb.mono L2.out.size))
  have B3 := Lib.hid (Lea.Cells.below B2.out hb)
  have C3 := Lib.hid (Lea.Cells.below C2.out hb)
  clear hb m0 m1 m2 m3 m4 m5 m6 n0 n1 n2 n3 n4 n5 n6 B2 C2 L2 HS
  obtain ⟨m0, m1, m2, m3, m4, m5, m6⟩ := seven B3.out
  obtain ⟨n0, n1, n2, n3, n4, n5, n6⟩ := seven C3.out
  dsimp only at n0 n1 n2 n3 n4 n5 n6
  go_wp2_with fail
  refine (HF w3 (HX.out.below L3.out) (HY.out.below L3.out)).out.mono ?_
  rintro e w4 ⟨rfl, hb⟩
  have L4 := Lib.hid (L3.out.trans (hb.mono L3.out.size))
  have B4 := Lib.hid (Lea.Cells.below B3.out hb)
  have C4 := Lib.hid (Lea.Cells.below C3.out hb)
  clear hb m0 m1 m2 m3 m4 m5 m6 n0 n1 n2 n3 n4 n5 n6 B3 C3 L3 HF
  obtain ⟨m0, m1, m2, m3, m4, m5, m6⟩ := seven B4.out
  obtain ⟨n0, n1, n2, n3, n4, n5, n6⟩ := seven C4.out
  dsimp only at n0 n1 n2 n3 n4 n5 n6
  go_wp2_with fail
  go_ret
  exact ⟨rfl, L4.out⟩
end Coo
end Go.Proofs.YtmflngclncidjaaGreat
/-
  A WALK OVER Do. (Written by gen_cooall.py.)
-/
namespace Go.Proofs.YtmflngclncidjaaGreat
open Go.RowKit Mem
namespace Coo
open Lea (Cells But OneBox Lv Tv)
open Spa (Sp)
theorem results_two {P : Program} {fn : Func} {p u : Tmp} {ty ty2 : TypeId} (h : fn.results = #[.cell p ty, .cell u ty2]) (tmps : Array Value) (w : World) (g g2 : Nat) (t t2 : TypeId) (cs cs2 : Array Value) (fr fr2 : Nat × Nat) (d d2 : TypeDesc)
    (hp : tmps.getD p undef = .pointer (some ⟨g, 0, none⟩)) (hg : w.heap[g]? = some (.cells cs t fr)) (hu : P.underlying ty = some d) (hd : (match d with | .struct _ | .array _ _ => true | _ => false) = true) (hi : (P.info? ty).map (·.size) = some cs.size)
    (hp2 : tmps.getD u undef = .pointer (some ⟨g2, 0, none⟩)) (hg2 : w.heap[g2]? = some (.cells cs2 t2 fr2)) (hu2 : P.underlying ty2 = some d2) (hd2 : (match d2 with | .struct _ | .array _ _ => true | _ => false) = true) (hi2 : (P.info? ty2).map (·.size) = some cs2.size) :
    (results fn tmps).run P w = .ok (.tuple #[.agg cs, .agg cs2]) w := by
  have hp' : tmps[p]?.getD undef = .pointer (some ⟨g, 0, none⟩) := by simpa using hp
  have hp2' : tmps[u]?.getD undef = .pointer (some ⟨g2, 0, none⟩) := by simpa using hp2
  simp [results, h, hp', hp2', asAddr, Result.andThen, run_loadVar_row w g t ty cs fr d hg hu hd hi, run_loadVar_row w g2 t2 ty2 cs2 fr2 d2 hg2 hu2 hd2 hi2]


/-- What Do gave. -/
def Did (w : World) (r : Cv × An) (en : Ending) (w' : World) : Prop :=
  ∃ x' B n d, en = .returned (.tuple #[cxv x', anv r.2.e r.2.epoch B n d]) ∧ x'.p = r.1 ∧ CoordAt w' x' ∧ RowF w' B n d r.2.todo ∧ Below w.heap.size w w' ∧ Fresh w x'
theorem all_one (c : Cv) (e : Ev) : allC c [e] = ((doC c e).1, [(doC c e).2]) := rfl
theorem one_ev {w : World} {e : Ev} {q : Nat} (h : EBox w q e) : RowS cellsE 8 w (some ⟨q, 0, none⟩) 1 1 [e] := by
  refine ⟨rfl, by omega, by omega, fun _ => ⟨_, _, rfl, Lea.Cells.lt h, fun i y hy j u hu => ?_⟩⟩
  have hi : i = 0 := by have := (List.getElem?_eq_some_iff.1 hy).1; simpa using this
  subst hi
  simp at hy
  subst hy
  rw [show 0 + 0 * 8 + j = j by omega, Lea.Cells.cell h]
  simpa [cellsE] using hu
theorem four_new (w : World) (x : Cx) (e : Ev) {W : World} (hW : W = (((w.alloc (.cells #[.int .i64 x.p.t.last, .int .i64 x.p.t.now, .slice x.A x.n x.a, .slice x.S x.m x.s, .slice x.W x.q x.k, .int .i64 x.p.ttl, .int .i64 x.p.zones] 31)).alloc (.cells #[.int .i64 e.d, .int .i64 e.host, .int .i64 e.zone, .int .i64 e.epoch, .int .i64 e.fr, .int .i64 e.to, .int .i64 e.now, .int .i64 e.key] 36)).alloc (.cells #[.int .i64 0, .int .i64 0, .slice none 0 0, .slice none 0 0, .slice none 0 0, .int .i64 0, .int .i64 0] 31)).alloc (.cells #[.int .i64 0, .int .i64 0, .slice none 0 0] 39)) :
    Hid (Below w.heap.size w W) ∧ Hid (CBox W w.heap.size x) ∧ Hid (EBox W (w.heap.size + 1) e) ∧ Hid (Cells W (w.heap.size + 1 + 1) 31 #[.int .i64 0, .int .i64 0, .slice none 0 0, .slice none 0 0, .slice none 0 0, .int .i64 0, .int .i64 0]) ∧ Hid (ABox W (w.heap.size + 1 + 1 + 1) 0 0 none 0 0) := by
  subst hW
  have b1 : Below w.heap.size w (w.alloc (.cells #[.int .i64 x.p.t.last, .int .i64 x.p.t.now, .slice x.A x.n x.a, .slice x.S x.m x.s, .slice x.W x.q x.k, .int .i64 x.p.ttl, .int .i64 x.p.zones] 31)) := (Below.refl _ w).alloc (Nat.le_refl _) _
  have h1 : CBox (w.alloc (.cells #[.int .i64 x.p.t.last, .int .i64 x.p.t.now, .slice x.A x.n x.a, .slice x.S x.m x.s, .slice x.W x.q x.k, .int .i64 x.p.ttl, .int .i64 x.p.zones] 31)) w.heap.size x := Cells.new w _ _
  have s1 : (w.alloc (.cells #[.int .i64 x.p.t.last, .int .i64 x.p.t.now, .slice x.A x.n x.a, .slice x.S x.m x.s, .slice x.W x.q x.k, .int .i64 x.p.ttl, .int .i64 x.p.zones] 31)).heap.size = w.heap.size + 1 := by simp
  generalize w.alloc (.cells #[.int .i64 x.p.t.last, .int .i64 x.p.t.now, .slice x.A x.n x.a, .slice x.S x.m x.s, .slice x.W x.q x.k, .int .i64 x.p.ttl, .int .i64 x.p.zones] 31) = w1 at *
  have b2 : Below w1.heap.size w1 (w1.alloc (.cells #[.int .i64 e.d, .int .i64 e.host, .int .i64 e.zone, .int .i64 e.epoch, .int .i64 e.fr, .int .i64 e.to, .int .i64 e.now, .int .i64 e.key] 36)) := (Below.refl _ w1).alloc (Nat.le_refl _) _
  have h2 : EBox (w1.alloc (.cells #[.int .i64 e.d, .int .i64 e.host, .int .i64 e.zone, .int .i64 e.epoch, .int .i64 e.fr, .int .i64 e.to, .int .i64 e.now, .int .i64 e.key] 36)) w1.heap.size e := Cells.new w1 _ _
  have s2 : (w1.alloc (.cells #[.int .i64 e.d, .int .i64 e.host, .int .i64 e.zone, .int .i64 e.epoch, .int .i64 e.fr, .int .i64 e.to, .int .i64 e.now, .int .i64 e.key] 36)).heap.size = w1.heap.size + 1 := by simp
  generalize w1.alloc (.cells #[.int .i64 e.d, .int .i64 e.host, .int .i64 e.zone, .int .i64 e.epoch, .int .i64 e.fr, .int .i64 e.to, .int .i64 e.now, .int .i64 e.key] 36) = w2 at *
  have b3 : Below w2.heap.size w2 (w2.alloc (.cells #[.int .i64 0, .int .i64 0, .slice none 0 0, .slice none 0 0, .slice none 0 0, .int .i64 0, .int .i64 0] 31)) := (Below.refl _ w2).alloc (Nat.le_refl _) _
  have h3 : Cells (w2.alloc (.cells #[.int .i64 0, .int .i64 0, .slice none 0 0, .slice none 0 0, .slice none 0 0, .int .i64 0, .int .i64 0] 31)) w2.heap.size 31 #[.int .i64 0, .int .i64 0, .slice none 0 0, .slice none 0 0, .slice none 0 0, .int .i64 0, .int .i64 0] := Cells.new w2 _ _
  have s3 : (w2.alloc (.cells #[.int .i64 0, .int .i64 0, .slice none 0 0, .slice none 0 0, .slice none 0 0, .int .i64 0, .int .i64 0] 31)).heap.size = w2.heap.size + 1 := by simp
  generalize w2.alloc (.cells #[.int .i64 0, .int .i64 0, .slice none 0 0, .slice none 0 0, .slice none 0 0, .int .i64 0, .int .i64 0] 31) = w3 at *
  have b4 : Below w3.heap.size w3 (w3.alloc (.cells #[.int .i64 0, .int .i64 0, .slice none 0 0] 39)) := (Below.refl _ w3).alloc (Nat.le_refl _) _
  have h4 : ABox (w3.alloc (.cells #[.int .i64 0, .int .i64 0, .slice none 0 0] 39)) w3.heap.size 0 0 none 0 0 := Cells.new w3 _ _
  generalize w3.alloc (.cells #[.int .i64 0, .int .i64 0, .slice none 0 0] 39) = w4 at *
  rw [s3, s2, s1] at h4
  rw [s2, s1] at h3
  rw [s1] at h2
  exact ⟨((b1.trans (b2.mono b1.size)).trans (b3.mono (by omega))).trans (b4.mono (by omega)), Lea.Cells.below (Lea.Cells.below (Lea.Cells.below h1 b2) b3) b4, Lea.Cells.below (Lea.Cells.below h2 b3) b4, Lea.Cells.below h3 b4, h4⟩

set_option maxRecDepth 100000 in
set_option maxHeartbeats 12800000 in
theorem do_call {x : Cx} {w : World} {e : Ev} {N : Nat} (h : CoordAt w x) (hi : Inv x.p) (hbd : Bd x.p N) (hN : N + 1 ≤ 100000) (hnow : e.now ≤ 1152921504606846976) :
    Calls Tryz.prog 10 #[cxv x, evv e] w (Did w (doC x.p e)) := by
  unfold Did
  have HR := Lib.hid h
  have HA := fun w q (h : CoordAt w x) (he : EBox w q e) => Lib.hid (all_any h (one_ev he) hi hbd hN (by omega) (fun y hy => by rw [List.mem_singleton.1 hy]; exact hnow))
  unfold Gone at HA
  obtain ⟨W4, hW4⟩ : ∃ W4, W4 = (((w.alloc (.cells #[.int .i64 x.p.t.last, .int .i64 x.p.t.now, .slice x.A x.n x.a, .slice x.S x.m x.s, .slice x.W x.q x.k, .int .i64 x.p.ttl, .int .i64 x.p.zones] 31)).alloc (.cells #[.int .i64 e.d, .int .i64 e.host, .int .i64 e.zone, .int .i64 e.epoch, .int .i64 e.fr, .int .i64 e.to, .int .i64 e.now, .int .i64 e.key] 36)).alloc (.cells #[.int .i64 0, .int .i64 0, .slice none 0 0, .slice none 0 0, .slice none 0 0, .int .i64 0, .int .i64 0] 31)).alloc (.cells #[.int .i64 0, .int .i64 0, .slice none 0 0] 39) := ⟨_, rfl⟩
  obtain ⟨L4, C4, E4, Z4, A4⟩ := four_new w x e hW4
  have GW4 : Hid (w.heap.size ≤ W4.heap.size) := L4.out.size
  generalize hr : doC x.p e = r at *
  have HRE : Hid (allC x.p [e] = (r.1, [r.2])) := by show _ = _; rw [all_one, hr]
  clear h hi hbd hN hnow hr
  go_enter Tryz.func10, Tryz.ntmps10
  go_upto_region 1 with fail
  rw [← hW4]
  clear hW4
  generalize W4 = w4 at *
  have hr3 : Hid (w.heap.size < w.heap.size + 1 + 1 ∧ w.heap.size + 1 + 1 < w.heap.size + 1 + 1 + 1) := ⟨by omega, by omega⟩
  generalize w.heap.size + 1 + 1 + 1 = r3 at *
  generalize w.heap.size + 1 + 1 = r2 at *
  obtain ⟨m0, m1, m2, m3, m4, m5, m6⟩ := seven C4.out
  obtain ⟨y0, y1, y2, y3, y4, y5, y6, y7⟩ := EBox.cells E4.out
  have b5 : Below w4.heap.size w4 (w4.alloc (.cells #[.int .i64 e.d, .int .i64 e.host, .int .i64 e.zone, .int .i64 e.epoch, .int .i64 e.fr, .int .i64 e.to, .int .i64 e.now, .int .i64 e.key] 36)) := (Below.refl _ w4).alloc (Nat.le_refl _) _
  have X5 : Hid (EBox (w4.alloc (.cells #[.int .i64 e.d, .int .i64 e.host, .int .i64 e.zone, .int .i64 e.epoch, .int .i64 e.fr, .int .i64 e.to, .int .i64 e.now, .int .i64 e.key] 36)) w4.heap.size e) := Cells.new w4 _ _
  have HA5 := HA _ _ (HR.out.below (L4.out.trans (b5.mono L4.out.size))) X5.out
  have B5 := Lib.hid b5
  clear b5 HA
  go_wp2_with fail
  refine HA5.out.mono ?_
  rintro e' w6 ⟨x1, B, es, rfl, hp, hat, hrow, htd, hmp, hb, hfr, hBf⟩
  rw [HRE.out] at hp hmp
  obtain ⟨y, rfl⟩ : ∃ y, es = [y] := List.length_eq_one_iff.1 hrow.len
  have HY : Hid (y.p = r.2) := by show _ = _; simpa using hmp
  have LL6 := Lib.hid (B5.out.trans (hb.mono B5.out.size))
  have G4 : Hid (r2 < w4.heap.size ∧ r3 < w4.heap.size) := ⟨Lea.Cells.lt Z4.out, Lea.Cells.lt A4.out⟩
  have G5 : Hid (w4.heap.size ≤ (w4.alloc (.cells #[.int .i64 e.d, .int .i64 e.host, .int .i64 e.zone, .int .i64 e.epoch, .int .i64 e.fr, .int .i64 e.to, .int .i64 e.now, .int .i64 e.key] 36)).heap.size) := B5.out.size
  have HX := Lib.hid hp
  obtain ⟨hRF, hRB⟩ := htd y (by simp)
  obtain ⟨b, o, rfl, hbl, hec⟩ := hrow.elem (i := 0) rfl
  have HBQ : Hid (w4.heap.size ≤ b) := Nat.le_trans G5.out (hBf b o rfl)
  have hcc : ∀ W : World, W.heap[b]? = w6.heap[b]? → W.cell? ⟨b, o, none⟩ = some (.int .i64 y.p.e) ∧ W.cell? ⟨b, o + 1, none⟩ = some (.int .i64 y.p.epoch) ∧ W.cell? ⟨b, o + 2, none⟩ = some (.slice y.B y.n y.k) := by
    intro W hW
    have h0 := hec W hW 0 _ rfl
    have h1 := hec W hW 1 _ rfl
    have h2 := hec W hW 2 _ rfl
    simp only [Nat.zero_mul, Nat.add_zero] at h0 h1 h2
    exact ⟨h0, h1, h2⟩
  have HCC := Lib.hid hcc
  have FR : Hid (Fresh w4 x1) := ⟨fun k o e => Nat.le_trans G5.out (hfr.l k o e), fun k o e => Nat.le_trans G5.out (hfr.s k o e), fun k o e => Nat.le_trans G5.out (hfr.f k o e)⟩
  have RFB : Hid (∀ k o, y.B = some ⟨k, o, none⟩ → 0 < y.n → w4.heap.size ≤ k) := fun k o e h0 => Nat.le_trans G5.out (hRB k o e h0)
  have AT6 := Lib.hid hat
  have RF6 := Lib.hid hRF
  have HBL := Lib.hid hbl
  have HBL6 : Hid (b < w6.heap.size) := hbl
  clear hp hmp hat hrow htd hb hfr hBf hRF hRB hec hcc hbl m0 m1 m2 m3 m4 m5 m6 y0 y1 y2 y3 y4 y5 y6 y7 B5 X5 HA5 C4 E4
  have b7 : Below w6.heap.size w6 (w6.alloc (.cells #[.int .i64 x1.p.t.last, .int .i64 x1.p.t.now, .slice x1.A x1.n x1.a, .slice x1.S x1.m x1.s, .slice x1.W x1.q x1.k, .int .i64 x1.p.ttl, .int .i64 x1.p.zones] 31)) := (Below.refl _ w6).alloc (Nat.le_refl _) _
  have C7 : Hid (CBox (w6.alloc (.cells #[.int .i64 x1.p.t.last, .int .i64 x1.p.t.now, .slice x1.A x1.n x1.a, .slice x1.S x1.m x1.s, .slice x1.W x1.q x1.k, .int .i64 x1.p.ttl, .int .i64 x1.p.zones] 31)) w6.heap.size x1) := Cells.new w6 _ _
  have HB7 : Hid ((w6.alloc (.cells #[.int .i64 x1.p.t.last, .int .i64 x1.p.t.now, .slice x1.A x1.n x1.a, .slice x1.S x1.m x1.s, .slice x1.W x1.q x1.k, .int .i64 x1.p.ttl, .int .i64 x1.p.zones] 31)).heap[b]? = w6.heap[b]?) := b7.block b HBL.out
  have LL7 := Lib.hid (LL6.out.trans (b7.mono LL6.out.size))
  have AT7 := Lib.hid (AT6.out.below b7)
  have RF7 := Lib.hid (RowS.below RF6.out b7)
  have G6 : Hid (w4.heap.size ≤ w6.heap.size) := LL6.out.size
  have HBL7 : Hid (b < (w6.alloc (.cells #[.int .i64 x1.p.t.last, .int .i64 x1.p.t.now, .slice x1.A x1.n x1.a, .slice x1.S x1.m x1.s, .slice x1.W x1.q x1.k, .int .i64 x1.p.ttl, .int .i64 x1.p.zones] 31)).heap.size) := Nat.lt_of_lt_of_le HBL6.out b7.size
  clear b7 AT6 RF6 LL6
  go_upto_region 2 with fail
  have HC7 := Lib.hid (fun (W : World) (h : W.heap[b]? = w6.heap[b]?) (hc : CBox W w6.heap.size x1) => And.intro (seven hc) (HCC.out W h))
  generalize w6.alloc (.cells #[.int .i64 x1.p.t.last, .int .i64 x1.p.t.now, .slice x1.A x1.n x1.a, .slice x1.S x1.m x1.s, .slice x1.W x1.q x1.k, .int .i64 x1.p.ttl, .int .i64 x1.p.zones] 31) = w7 at *
  generalize hwb : w6.heap[b]? = wb at *
  clear hwb HCC HBL
  generalize w6.heap.size = pC at *
  refine wp_region_held_drew (S := fun W => (W.cell? ⟨pC, 0, none⟩ = some (.int .i64 x1.p.t.last) ∧ W.cell? ⟨pC, 1, none⟩ = some (.int .i64 x1.p.t.now) ∧ W.cell? ⟨pC, 2, none⟩ = some (.slice x1.A x1.n x1.a) ∧ W.cell? ⟨pC, 3, none⟩ = some (.slice x1.S x1.m x1.s) ∧ W.cell? ⟨pC, 4, none⟩ = some (.slice x1.W x1.q x1.k) ∧ W.cell? ⟨pC, 5, none⟩ = some (.int .i64 x1.p.ttl) ∧ W.cell? ⟨pC, 6, none⟩ = some (.int .i64 x1.p.zones)) ∧ (W.cell? ⟨b, o, none⟩ = some (.int .i64 y.p.e) ∧ W.cell? ⟨b, o + 1, none⟩ = some (.int .i64 y.p.epoch) ∧ W.cell? ⟨b, o + 2, none⟩ = some (.slice y.B y.n y.k))) (by kernel_rfl) (HC7.out _ HB7.out C7.out) (fun hHeld => ?_)
  have Z8 : Hid (Cells w7.drew r2 31 #[.int .i64 0, .int .i64 0, .slice none 0 0, .slice none 0 0, .slice none 0 0, .int .i64 0, .int .i64 0]) := Lea.Cells.below Z4.out LL7.out.drew
  have A8 : Hid (ABox w7.drew r3 0 0 none 0 0) := Lea.Cells.below A4.out LL7.out.drew
  have AT8 : Hid (CoordAt w7.drew x1) := AT7.out.below (Below.refl _ w7).drew
  have RF8 : Hid (RowF w7.drew y.B y.n y.k y.p.todo) := RowS.below RF7.out (Below.refl _ w7).drew
  have C8 : Hid (CBox w7.drew pC x1) := C7
  have HB8 : Hid (w7.drew.heap[b]? = wb) := HB7
  have L8 : Hid (Below w.heap.size w w7.drew) := L4.out.trans (LL7.out.drew.mono L4.out.size)
  have HBL8 : Hid (b < w7.drew.heap.size) := HBL7
  clear Z4 A4 AT7 RF7 C7 HB7 LL7 HBL7 HBL6
  generalize w7.drew = w8 at *
  (first | (refine Reg.take 0 (v := ?_) rfl (by kernel_rfl) (by kernel_rfl) (by kernel_rfl) (fun _ _ _ h => h) (Or.inl ⟨by rfl, ?_⟩) (by assumption) ?_; rotate_left; (focus ((intro W hSW); (try dsimp only at hSW); (try go_split_ands); go_simp; (try (with_reducible rfl)); done))) | (refine Reg.take 0 (v := undef) rfl (by kernel_rfl) (by kernel_rfl) (by kernel_rfl) (fun _ _ _ h => h) (Or.inr ⟨by rfl, rfl⟩) (by assumption) ?_))
  (try simp only [Act.put, List.setIfInBounds_toArray, List.set_cons_zero, List.set_cons_succ])
  (first | (refine Reg.take 1 (v := ?_) rfl (by kernel_rfl) (by kernel_rfl) (by kernel_rfl) (fun _ _ _ h => h) (Or.inl ⟨by rfl, ?_⟩) (by assumption) ?_; rotate_left; (focus ((intro W hSW); (try dsimp only at hSW); (try go_split_ands); go_simp; (try (with_reducible rfl)); done))) | (refine Reg.take 1 (v := undef) rfl (by kernel_rfl) (by kernel_rfl) (by kernel_rfl) (fun _ _ _ h => h) (Or.inr ⟨by rfl, rfl⟩) (by assumption) ?_))
  (try simp only [Act.put, List.setIfInBounds_toArray, List.set_cons_zero, List.set_cons_succ])
  (first | (refine Reg.take 2 (v := ?_) rfl (by kernel_rfl) (by kernel_rfl) (by kernel_rfl) (fun _ _ _ h => h) (Or.inl ⟨by rfl, ?_⟩) (by assumption) ?_; rotate_left; (focus ((intro W hSW); (try dsimp only at hSW); (try go_split_ands); go_simp; (try (with_reducible rfl)); done))) | (refine Reg.take 2 (v := undef) rfl (by kernel_rfl) (by kernel_rfl) (by kernel_rfl) (fun _ _ _ h => h) (Or.inr ⟨by rfl, rfl⟩) (by assumption) ?_))
  (try simp only [Act.put, List.setIfInBounds_toArray, List.set_cons_zero, List.set_cons_succ])
  (first | (refine Reg.take 3 (v := ?_) rfl (by kernel_rfl) (by kernel_rfl) (by kernel_rfl) (fun _ _ _ h => h) (Or.inl ⟨by rfl, ?_⟩) (by assumption) ?_; rotate_left; (focus ((intro W hSW); (try dsimp only at hSW); (try go_split_ands); go_simp; (try (with_reducible rfl)); done))) | (refine Reg.take 3 (v := undef) rfl (by kernel_rfl) (by kernel_rfl) (by kernel_rfl) (fun _ _ _ h => h) (Or.inr ⟨by rfl, rfl⟩) (by assumption) ?_))
  (try simp only [Act.put, List.setIfInBounds_toArray, List.set_cons_zero, List.set_cons_succ])
  refine Reg.step 4 rfl (by kernel_rfl) (by rfl) (fun K hK => ?_)
  have v0 : w8.cell? ⟨r2, 0, none⟩ = some (.int .i64 0) := Lea.Cells.cell Z8.out 0
  have v1 : w8.cell? ⟨r2, 1, none⟩ = some (.int .i64 0) := Lea.Cells.cell Z8.out 1
  have v2 : w8.cell? ⟨r2, 2, none⟩ = some (.slice none 0 0) := Lea.Cells.cell Z8.out 2
  have v3 : w8.cell? ⟨r2, 3, none⟩ = some (.slice none 0 0) := Lea.Cells.cell Z8.out 3
  have v4 : w8.cell? ⟨r2, 4, none⟩ = some (.slice none 0 0) := Lea.Cells.cell Z8.out 4
  have v5 : w8.cell? ⟨r2, 5, none⟩ = some (.int .i64 0) := Lea.Cells.cell Z8.out 5
  have v6 : w8.cell? ⟨r2, 6, none⟩ = some (.int .i64 0) := Lea.Cells.cell Z8.out 6
  obtain ⟨f0, f1, f2, f3, f4, f5, f6⟩ := seven_frozen Z8.out
  go_simp
  clear v0 v1 v2 v3 v4 v5 v6 f0 f1 f2 f3 f4 f5 f6
  have hst := cells_set7 Z8.out (.int .i64 x1.p.t.last) (.int .i64 x1.p.t.now) (.slice x1.A x1.n x1.a) (.slice x1.S x1.m x1.s) (.slice x1.W x1.q x1.k) (.int .i64 x1.p.ttl) (.int .i64 x1.p.zones)
  have bt := but_set7 w8 r2 (.int .i64 x1.p.t.last) (.int .i64 x1.p.t.now) (.slice x1.A x1.n x1.a) (.slice x1.S x1.m x1.s) (.slice x1.W x1.q x1.k) (.int .i64 x1.p.ttl) (.int .i64 x1.p.zones)
  generalize hw9 : ((((((w8.setCell ⟨r2, 0, none⟩ (.int .i64 x1.p.t.last)).setCell ⟨r2, 1, none⟩ (.int .i64 x1.p.t.now)).setCell ⟨r2, 2, none⟩ (.slice x1.A x1.n x1.a)).setCell ⟨r2, 3, none⟩ (.slice x1.S x1.m x1.s)).setCell ⟨r2, 4, none⟩ (.slice x1.W x1.q x1.k)).setCell ⟨r2, 5, none⟩ (.int .i64 x1.p.ttl)).setCell ⟨r2, 6, none⟩ (.int .i64 x1.p.zones) = w9 at *
  clear hw9
  have hb2 : b ≠ r2 := by have := HBQ.out; have := G4.out; omega
  have C9 := Lib.hid (Lea.Cells.but C8.out bt (by have := G6.out; have := G4.out; omega))
  have HB9 : Hid (w9.heap[b]? = wb) := by
    show _ = _
    rw [← HB8.out]
    exact bt.by_.block b HBL8.out (fun h => hb2 (by injection h))
  have hq2 : ∀ k, w4.heap.size ≤ k → k ≠ r2 := fun k hk => by have := G4.out; omega
  have hq3 : ∀ k, w4.heap.size ≤ k → k ≠ r3 := fun k hk => by have := G4.out; omega
  have HQ3 := Lib.hid hq3
  have AT9 : Hid (CoordAt w9 x1) := ⟨RowS.butBlock AT8.out.l (fun q o e _ => hq2 q (FR.out.l q o e)) bt, RowS.butBlock AT8.out.s (fun q o e _ => hq2 q (FR.out.s q o e)) bt, RowS.butBlock AT8.out.f (fun q o e _ => hq2 q (FR.out.f q o e)) bt⟩
  have RF9 := Lib.hid (RowS.keepBut RF8.out (fun q o e h0 => hq2 q (RFB.out q o e h0)) bt)
  have A9 := Lib.hid (Lea.Cells.but A8.out bt (cells_ne A8.out Z8.out (by decide)))
  have R9 := Lib.hid hst
  have L9 := Lib.hid (L8.out.trans (bt.below L8.out.size (Nat.le_of_lt (Nat.lt_of_lt_of_le hr3.out.1 (Nat.le_refl _)))))
  have HBL9 : Hid (b < w9.heap.size) := Nat.lt_of_lt_of_le HBL8.out bt.size
  have HB93 : Hid (b ≠ r3) := hq3 b HBQ.out
  clear hst bt hb2 hq2 hq3 A8 Z8 C8 AT8 RF8 L8 HB8 HBL8
  refine hK.out _ _ (HC7.out _ HB9.out C9.out) (fun hHeldA => ?_)
  clear hK K
  (try simp only [Act.put, List.setIfInBounds_toArray, List.set_cons_zero, List.set_cons_succ])
  refine Reg.step 5 rfl (by kernel_rfl) (by rfl) (fun K hK => ?_)
  obtain ⟨n0, n1, n2⟩ := ABox.cells A9.out
  obtain ⟨f0, f1, f2⟩ := ABox.frozen A9.out
  go_simp
  clear n0 n1 n2 f0 f1 f2
  have bt := Lea.But.set3 w9 r3 (.int .i64 y.p.e) (.int .i64 y.p.epoch) (.slice y.B y.n y.k)
  have A10 := Lib.hid (ABox.store A9.out y.p.e y.p.epoch y.B y.n y.k)
  generalize ((w9.setCell ⟨r3, 0, none⟩ (.int .i64 y.p.e)).setCell ⟨r3, 1, none⟩ (.int .i64 y.p.epoch)).setCell ⟨r3, 2, none⟩ (.slice y.B y.n y.k) = w10 at *
  have C10 := Lib.hid (Lea.Cells.but C9.out bt (cells_ne C9.out A9.out (by decide)))
  have R10 := Lib.hid (Lea.Cells.but R9.out bt (cells_ne R9.out A9.out (by decide)))
  have HB10 : Hid (w10.heap[b]? = wb) := (bt.by_.block b HBL9.out (fun h => HB93.out (by injection h))).trans HB9.out
  have AT10 : Hid (CoordAt w10 x1) := ⟨RowS.butBlock AT9.out.l (fun q o e _ => HQ3.out q (FR.out.l q o e)) bt, RowS.butBlock AT9.out.s (fun q o e _ => HQ3.out q (FR.out.s q o e)) bt, RowS.butBlock AT9.out.f (fun q o e _ => HQ3.out q (FR.out.f q o e)) bt⟩
  have RF10 := Lib.hid (RowS.keepBut RF9.out (fun q o e h0 => HQ3.out q (RFB.out q o e h0)) bt)
  have L10 := Lib.hid (L9.out.trans (bt.below L9.out.size (by have := hr3.out; omega)))
  clear bt C9 R9 HB9 AT9 RF9 L9 A9
  refine hK.out _ _ (HC7.out _ HB10.out C10.out) (fun hHeldB => ?_)
  clear hK K
  (try simp only [Act.put, List.setIfInBounds_toArray, List.set_cons_zero, List.set_cons_succ])
  refine wpAnyH_done (by kernel_rfl) ?_ _
  go_wp2_with fail
  refine bodyPost_ret_by (results_two rfl _ _ r2 r3 _ _ _ _ _ _ _ _ rfl R10.out Tryz.underlying31 rfl (by kernel_rfl) rfl A10.out Tryz.underlying39 rfl (by kernel_rfl)) rfl ?_
  rw [← HY.out]
  exact ⟨x1, y.B, y.n, y.k, rfl, HX.out, AT10.out, RF10.out, L10.out, ⟨fun k o e => Nat.le_trans GW4.out (FR.out.l k o e), fun k o e => Nat.le_trans GW4.out (FR.out.s k o e), fun k o e => Nat.le_trans GW4.out (FR.out.f k o e)⟩⟩
end Coo
end Go.Proofs.YtmflngclncidjaaGreat
/-
  WHAT THE STATEMENTS ASK FIRST: the chapter's example (live). (Written by gen_coolive.py.)
-/
namespace Go.Proofs.YtmflngclncidjaaGreat
open Go.RowKit Mem
namespace Coo
open Lea (Cells But OneBox Lv Tv)
open Spa (Sp)

def le3 : List Ev := [⟨1, 1, 0, 0, 0, 0, 0, 0⟩, ⟨2, 1, 0, 0, 0, 0, 0, 0⟩, ⟨3, 1, 0, 2, 0, 0, 0, 0⟩]
def lc3 : Cv := ⟨⟨2, 0, [⟨0, 1, 2, 10⟩, ⟨2001, 1, 1, 10⟩]⟩, [⟨0, 100, -1, 0⟩], [], 10, 4⟩
theorem live_all : allC (newC 4 100 10) le3 = (lc3, [⟨0, 1, []⟩, ⟨0, 2, [⟨0, 1, 2⟩]⟩, ⟨0, 2, []⟩]) := by kernel_rfl
theorem live_owner : ownerC lc3 0 = (1, 2) := by kernel_rfl
theorem live_member : memB lc3 1 = true := by kernel_rfl
theorem three_ev {w : World} {q : Nat} (hq : q = w.heap.size) : RowS cellsE 8 (w.alloc (.cells #[.int .i64 1, .int .i64 1, .int .i64 0, .int .i64 0, .int .i64 0, .int .i64 0, .int .i64 0, .int .i64 0, .int .i64 2, .int .i64 1, .int .i64 0, .int .i64 0, .int .i64 0, .int .i64 0, .int .i64 0, .int .i64 0, .int .i64 3, .int .i64 1, .int .i64 0, .int .i64 2, .int .i64 0, .int .i64 0, .int .i64 0, .int .i64 0] 36)) (some ⟨q, 0, none⟩) 3 3 le3 := by
  subst hq
  refine ⟨rfl, by omega, by omega, fun _ => ⟨_, _, rfl, by simp, fun i y hi j u hu => ?_⟩⟩
  have hj : j < 8 := by have := (List.getElem?_eq_some_iff.1 hu).1; simpa [cellsE] using this
  rw [cell_of_row _ w.heap.size (0 + i * 8 + j) _ _ (0, 0) (heap_alloc_new w _)]
  match i, hi with
  | 0, hi =>
    simp [le3] at hi; subst hi
    match j, hj, hu with
    | 0, _, hu => exact hu
    | 1, _, hu => exact hu
    | 2, _, hu => exact hu
    | 3, _, hu => exact hu
    | 4, _, hu => exact hu
    | 5, _, hu => exact hu
    | 6, _, hu => exact hu
    | 7, _, hu => exact hu
  | 1, hi =>
    simp [le3] at hi; subst hi
    match j, hj, hu with
    | 0, _, hu => exact hu
    | 1, _, hu => exact hu
    | 2, _, hu => exact hu
    | 3, _, hu => exact hu
    | 4, _, hu => exact hu
    | 5, _, hu => exact hu
    | 6, _, hu => exact hu
    | 7, _, hu => exact hu
  | 2, hi =>
    simp [le3] at hi; subst hi
    match j, hj, hu with
    | 0, _, hu => exact hu
    | 1, _, hu => exact hu
    | 2, _, hu => exact hu
    | 3, _, hu => exact hu
    | 4, _, hu => exact hu
    | 5, _, hu => exact hu
    | 6, _, hu => exact hu
    | 7, _, hu => exact hu
theorem an_cells {w : World} {B : Option Addr} {n c : Nat} {es : List Ax} (h : RowS cellsA 3 w B n c es) {i : Nat} {y : Ax} (hy : es[i]? = some y) :
    ∃ b o, B = some ⟨b, o, none⟩ ∧ w.cell? ⟨b, o + i * 3, none⟩ = some (.int .i64 y.p.e) ∧ w.cell? ⟨b, o + i * 3 + 1, none⟩ = some (.int .i64 y.p.epoch) ∧ w.cell? ⟨b, o + i * 3 + 2, none⟩ = some (.slice y.B y.n y.k) := by
  obtain ⟨b, o, e, -, hc⟩ := h.elem hy
  exact ⟨b, o, e, hc w rfl 0 _ rfl, hc w rfl 1 _ rfl, hc w rfl 2 _ rfl⟩
theorem three_map {es : List Ax} {a b c : An} (h : es.map Ax.p = [a, b, c]) : ∃ x y z, es = [x, y, z] ∧ x.p = a ∧ y.p = b ∧ z.p = c := by
  match es, h with
  | [x, y, z], h => simp only [List.map_cons, List.map_nil, List.cons.injEq, and_true] at h; exact ⟨x, y, z, rfl, h.1, h.2.1, h.2.2⟩

set_option maxRecDepth 100000 in
set_option maxHeartbeats 12800000 in
theorem live_any (w : World) : Calls Tryz.prog 7 #[] w fun e w' => e = .returned (.bool true) ∧ Below w.heap.size w w' := by
  have HN := Lib.hid (new_any (zones := 4) (blocks := 100) (ttl := 10) w (by omega) (by omega) (by omega))
  have HA := fun w L x (h : CoordAt w x) (hp : x.p = newC 4 100 10) (hl : RowS cellsE 8 w L 3 3 le3) => Lib.hid (all_any (N := 0) h hl (by rw [hp]; exact new_inv (by omega) (by omega) (by omega)) (by rw [hp]; exact new_bd (by omega)) (by omega) (by omega) (fun e he => by simp [le3] at he; rcases he with rfl | rfl | rfl <;> decide))
  unfold Gone at HA
  have HO := fun w (x : Cx) (h : CoordAt w x) (hp : x.p = lc3) => Lib.hid (owner_any (x := x) 0 h.l (by have := h.l.len; rw [hp] at this; have : x.n = 2 := this.symm; omega) (by rw [hp]; kernel_rfl))
  have HM := fun w (x : Cx) (h : CoordAt w x) (hp : x.p = lc3) => Lib.hid (member_any (x := x) 1 h.l (by have := h.l.len; rw [hp] at this; have : x.n = 2 := this.symm; omega) (by rw [hp]; kernel_rfl))
  have heq := fun w => fence_eql ⟨0, 1, 2⟩ w
  have hgd := fence_guard
  go_enter Tryz.func7, Tryz.ntmps7
  go_upto_region 1 with fail
  go_wp2_with fail
  refine HN.out.mono ?_
  rintro e w1 ⟨x, rfl, hp, hat, hb, -⟩
  have bb : Below w1.heap.size w1 (w1.alloc (.cells #[.int .i64 x.p.t.last, .int .i64 x.p.t.now, .slice x.A x.n x.a, .slice x.S x.m x.s, .slice x.W x.q x.k, .int .i64 x.p.ttl, .int .i64 x.p.zones] 31)) := (Below.refl _ w1).alloc (Nat.le_refl _) _
  have L1 : Hid (Below w.heap.size w (w1.alloc (.cells #[.int .i64 x.p.t.last, .int .i64 x.p.t.now, .slice x.A x.n x.a, .slice x.S x.m x.s, .slice x.W x.q x.k, .int .i64 x.p.ttl, .int .i64 x.p.zones] 31))) := hb.trans (bb.mono hb.size)
  have C1 : Hid (CBox (w1.alloc (.cells #[.int .i64 x.p.t.last, .int .i64 x.p.t.now, .slice x.A x.n x.a, .slice x.S x.m x.s, .slice x.W x.q x.k, .int .i64 x.p.ttl, .int .i64 x.p.zones] 31)) w1.heap.size x) := Cells.new w1 _ _
  have A1 := Lib.hid (hat.below bb)
  have P1 := Lib.hid hp
  have G1 : Hid (w.heap.size ≤ w1.heap.size) := hb.size
  clear bb hb hat hp HN
  go_upto_region 2 with fail
  generalize w1.alloc (.cells #[.int .i64 x.p.t.last, .int .i64 x.p.t.now, .slice x.A x.n x.a, .slice x.S x.m x.s, .slice x.W x.q x.k, .int .i64 x.p.ttl, .int .i64 x.p.zones] 31) = w2 at *
  generalize w1.heap.size = gc at *
  obtain ⟨m0, m1, m2, m3, m4, m5, m6⟩ := seven C1.out
  have b3 : Below w2.heap.size w2 (w2.alloc (.cells #[.int .i64 1, .int .i64 1, .int .i64 0, .int .i64 0, .int .i64 0, .int .i64 0, .int .i64 0, .int .i64 0, .int .i64 2, .int .i64 1, .int .i64 0, .int .i64 0, .int .i64 0, .int .i64 0, .int .i64 0, .int .i64 0, .int .i64 3, .int .i64 1, .int .i64 0, .int .i64 2, .int .i64 0, .int .i64 0, .int .i64 0, .int .i64 0] 36)) := (Below.refl _ w2).alloc (Nat.le_refl _) _
  have L3 := Lib.hid (L1.out.trans (b3.mono L1.out.size))
  have C3 := Lib.hid (Lea.Cells.below C1.out b3)
  have A3 := Lib.hid (A1.out.below b3)
  have E3 := Lib.hid (three_ev (w := w2) rfl)
  have HA3 := Lib.hid (HA _ _ x A3.out P1.out E3.out)
  clear b3 HA
  rw [P1.out, live_all] at HA3
  go_wp2_with fail
  clear m0 m1 m2 m3 m4 m5 m6
  generalize w2.alloc (.cells #[.int .i64 1, .int .i64 1, .int .i64 0, .int .i64 0, .int .i64 0, .int .i64 0, .int .i64 0, .int .i64 0, .int .i64 2, .int .i64 1, .int .i64 0, .int .i64 0, .int .i64 0, .int .i64 0, .int .i64 0, .int .i64 0, .int .i64 3, .int .i64 1, .int .i64 0, .int .i64 2, .int .i64 0, .int .i64 0, .int .i64 0, .int .i64 0] 36) = w3 at *
  generalize w2.heap.size = ge at *
  clear E3 L1 C1 A1 A3
  refine HA3.out.out.mono ?_
  rintro e w4 ⟨x', B, es, rfl, hp, hat, hes, hrow, hmap, hb, hfr, hB⟩
  have L4 := Lib.hid (L3.out.trans (hb.mono L3.out.size))
  have C4 := Lib.hid (Lea.Cells.below C3.out hb)
  have P4 : Hid (x'.p = lc3) := hp
  obtain ⟨a1, a2, a3, he, p1, p2, p3⟩ := three_map hmap
  subst he
  obtain ⟨hr2, hB2⟩ := hrow a2 (by simp)
  have bt := but_set7 w4 gc (.int .i64 x'.p.t.last) (.int .i64 x'.p.t.now) (.slice x'.A x'.n x'.a) (.slice x'.S x'.m x'.s) (.slice x'.W x'.q x'.k) (.int .i64 x'.p.ttl) (.int .i64 x'.p.zones)
  have C5 := Lib.hid (cells_set7 C4.out (.int .i64 x'.p.t.last) (.int .i64 x'.p.t.now) (.slice x'.A x'.n x'.a) (.slice x'.S x'.m x'.s) (.slice x'.W x'.q x'.k) (.int .i64 x'.p.ttl) (.int .i64 x'.p.zones))
  have hq : ∀ k, w3.heap.size ≤ k → k ≠ gc := fun k hk => by have := Lea.Cells.lt C3.out; omega
  have A5 := Lib.hid (hat.butBox bt (fun k o e => hq k (hfr.l k o e)) (fun k o e => hq k (hfr.s k o e)) (fun k o e => hq k (hfr.f k o e)))
  have E5 := Lib.hid (RowS.butBlock hes (fun k o e _ => hq k (hB k o e)) bt)
  have R5 := Lib.hid (RowS.butBlock hr2 (fun k o e h => hq k (hB2 k o e h)) bt)
  have L5 := Lib.hid (L4.out.trans (bt.below L4.out.size G1.out))
  obtain ⟨f0, f1, f2, f3, f4, f5, f6⟩ := seven_frozen C4.out
  obtain ⟨m0, m1, m2, m3, m4, m5, m6⟩ := seven C4.out
  clear hp hat hes hrow hr2 hB2 hB hmap hb hfr hq bt L3 C3 C4 HA3 L4
  go_upto_region 3 with fail
  clear f0 f1 f2 f3 f4 f5 f6 m0 m1 m2 m3 m4 m5 m6
  generalize ((((((w4.setCell ⟨gc, 0, none⟩ (.int .i64 x'.p.t.last)).setCell ⟨gc, 1, none⟩ (.int .i64 x'.p.t.now)).setCell ⟨gc, 2, none⟩ (.slice x'.A x'.n x'.a)).setCell ⟨gc, 3, none⟩ (.slice x'.S x'.m x'.s)).setCell ⟨gc, 4, none⟩ (.slice x'.W x'.q x'.k)).setCell ⟨gc, 5, none⟩ (.int .i64 x'.p.ttl)).setCell ⟨gc, 6, none⟩ (.int .i64 x'.p.zones) = w5 at *
  obtain ⟨m0, m1, m2, m3, m4, m5, m6⟩ := seven C5.out
  go_wp2_with fail
  refine (HO w5 x' A5.out P4.out).out.mono ?_
  rintro e w6 ⟨rfl, hb⟩
  rw [P4.out, live_owner]
  have L6 := Lib.hid (L5.out.trans (hb.mono L5.out.size))
  have C6 := Lib.hid (Lea.Cells.below C5.out hb)
  have A6 := Lib.hid (A5.out.below hb)
  have E6 := Lib.hid (E5.out.below hb)
  have R6 := Lib.hid (R5.out.below hb)
  clear hb L5 C5 A5 E5 R5 HO m0 m1 m2 m3 m4 m5 m6
  obtain ⟨m0, m1, m2, m3, m4, m5, m6⟩ := seven C6.out
  have HM6 := Lib.hid (HM w6 x' A6.out P4.out)
  rw [P4.out, live_member] at HM6
  rw [p2] at R6
  have hn2 : a2.n = 1 := R6.out.len.symm
  obtain ⟨b, o, rfl, x0, x1, x2⟩ := an_cells E6.out (i := 0) (y := a1) rfl
  obtain ⟨_, _, e2, y0, y1, y2⟩ := an_cells E6.out (i := 1) (y := a2) rfl
  cases e2
  obtain ⟨_, _, e3, z0, z1, z2⟩ := an_cells E6.out (i := 2) (y := a3) rfl
  cases e3
  obtain ⟨fb, fo, hfb, q0, q1, q2⟩ := RowS.fence_at R6.out (i := 0) (x := ⟨0, 1, 2⟩) rfl
  rw [p1] at x0 x1
  rw [p2] at y0 y1
  rw [p3] at z0 z1
  rw [hfb, hn2] at y2
  clear E6 R6 hfb
  simp only [Nat.zero_mul, Nat.one_mul, Nat.add_zero] at x0 x1 x2 y0 y1 y2 q0 q1 q2
  go_wp2_with fail
  refine HM6.out.mono ?_
  rintro e w7 ⟨rfl, hb⟩
  have L7 := Lib.hid (L6.out.trans (hb.mono L6.out.size))
  clear hb
  go_wp2_with fail
  go_ret
  exact ⟨rfl, L7.out⟩
end Coo
end Go.Proofs.YtmflngclncidjaaGreat
