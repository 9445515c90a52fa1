/-
  WALKS: the chapter's example; whose.
-/
import Derived.Test.YtjoemlifpbjdbaaSpaGive
import Derived.Test.YtjoemlifpbjdbaaSpaSame
namespace Go.Proofs.Ytjoemlifpbjdbaa
open Go.RowKit Mem
namespace Spa

theorem ex_new : newP 10 = ([⟨0, 10, -1, 0⟩], 0) := rfl
theorem ex_give : giveP [⟨0, 10, -1, 0⟩] 2 5 1 3 = ([⟨0, 2, -1, 0⟩, ⟨2, 5, 1, 3⟩, ⟨5, 10, -1, 0⟩], 0) := by kernel_rfl
theorem ex_stale : giveP [⟨0, 2, -1, 0⟩, ⟨2, 5, 1, 3⟩, ⟨5, 10, -1, 0⟩] 4 6 2 3 = ([], 61) := by kernel_rfl
theorem ex_again : giveP [⟨0, 2, -1, 0⟩, ⟨2, 5, 1, 3⟩, ⟨5, 10, -1, 0⟩] 4 6 2 4 = ([⟨0, 2, -1, 0⟩, ⟨2, 4, 1, 3⟩, ⟨4, 6, 2, 4⟩, ⟨6, 10, -1, 0⟩], 0) := by kernel_rfl
theorem ex_find : findP [⟨0, 2, -1, 0⟩, ⟨2, 4, 1, 3⟩, ⟨4, 6, 2, 4⟩, ⟨6, 10, -1, 0⟩] 3 = (⟨2, 4, 1, 3⟩, 0) := by kernel_rfl

set_option maxRecDepth 100000 in
set_option maxHeartbeats 6400000 in
theorem live_any (w : World) : Calls Try.prog 8 #[] w fun e w' => e = .returned (.bool true) ∧ Below w.heap.size w w' := by
  have HN := Lib.hid (new_any 10 w)
  rw [ex_new] at HN
  have HG1 := fun W A c (h : RowL W A 1 c [⟨0, 10, -1, 0⟩]) => Lib.hid (give_any 2 5 1 3 h (by omega))
  rw [ex_give] at HG1
  have HG2 := fun W A c (h : RowL W A 3 c [⟨0, 2, -1, 0⟩, ⟨2, 5, 1, 3⟩, ⟨5, 10, -1, 0⟩]) => Lib.hid (give_any 4 6 2 3 h (by omega))
  rw [ex_stale] at HG2
  have HG3 := fun W A c (h : RowL W A 3 c [⟨0, 2, -1, 0⟩, ⟨2, 5, 1, 3⟩, ⟨5, 10, -1, 0⟩]) => Lib.hid (give_any 4 6 2 4 h (by omega))
  rw [ex_again] at HG3
  have HF := fun W A c (h : RowL W A 4 c [⟨0, 2, -1, 0⟩, ⟨2, 4, 1, 3⟩, ⟨4, 6, 2, 4⟩, ⟨6, 10, -1, 0⟩]) => Lib.hid (Find_any 3 h)
  rw [ex_find] at HF
  have heq := span_eql ⟨2, 4, 1, 3⟩
  have hgd := span_guard
  go_enter Try.func8, Try.ntmps8
  go_wp2_with fail
  refine HN.out.mono ?_
  rintro en w1 ⟨B1, d1, rfl, hO, hb⟩
  have L1 := Lib.hid hb
  have R1 := Lib.hid (OwnsL.row hO (by simp))
  clear hb hO HN
  simp only [List.length_cons, List.length_nil] at R1
  go_wp2_with fail
  refine (HG1 w1 B1 d1 R1.out).out.mono ?_
  rintro en w2 ⟨B2, d2, rfl, hO, hb⟩
  have L2 := Lib.hid (L1.out.trans (hb.mono L1.out.size))
  have R2 := Lib.hid (OwnsL.row hO (by simp))
  clear hb hO HG1
  simp only [List.length_cons, List.length_nil] at R2
  go_wp2_with fail
  refine (HG2 w2 B2 d2 R2.out).out.mono ?_
  rintro en w3 ⟨B3, d3, rfl, hO, hb⟩
  have L3 := Lib.hid (L2.out.trans (hb.mono L2.out.size))
  have R3 := Lib.hid (RowS.below R2.out hb)
  clear hb hO HG2
  go_wp2_with fail
  refine (HG3 w3 B2 d2 R3.out).out.mono ?_
  rintro en w4 ⟨B4, d4, rfl, hO, hb⟩
  have L4 := Lib.hid (L3.out.trans (hb.mono L3.out.size))
  have R4 := Lib.hid (OwnsL.row hO (by simp))
  clear hb hO HG3
  simp only [List.length_cons, List.length_nil] at R4
  go_wp2_with fail
  refine (HF w4 B4 d4 R4.out).out.mono ?_
  rintro en w5 ⟨rfl, hb⟩
  have L5 := Lib.hid (L4.out.trans (hb.mono L4.out.size))
  clear hb HF
  have L6 : Hid (Below w.heap.size w (w5.alloc (.cells #[.int .i64 2, .int .i64 4, .int .i64 1, .int .i64 3] 32))) := L5.out.alloc L5.out.size _
  have Q6 : Hid (LBox (w5.alloc (.cells #[.int .i64 2, .int .i64 4, .int .i64 1, .int .i64 3] 32)) w5.heap.size ⟨2, 4, 1, 3⟩) := Cells.new _ _ _
  go_upto_region 6 with fail
  generalize w5.alloc (.cells #[.int .i64 2, .int .i64 4, .int .i64 1, .int .i64 3] 32) = w6 at *
  obtain ⟨n0, n1, n2, n3⟩ := LBox.cells Q6.out
  go_wp2_with fail
  go_ret
  exact ⟨rfl, L6.out⟩
def whoP (l : List Sp) (k : Int) : Int × Int := ((findP l k).1.own, (findP l k).1.ep)
set_option maxRecDepth 100000 in
set_option maxHeartbeats 3200000 in
theorem whose_any {A : Option Addr} {n c : Nat} {l : List Sp} {w : World} (k : Int) (h : RowL w A n c l) :
    Calls Try.prog 20 #[.slice A n c, .int .i64 k] w fun e w' => e = .returned (.tuple #[.int .i64 (whoP l k).1, .int .i64 (whoP l k).2]) ∧ Below w.heap.size w w' := by
  have HF := Lib.hid (Find_any k h)
  unfold whoP
  simp only
  generalize findP l k = r at *
  obtain ⟨x, er⟩ := r
  clear h
  go_enter Try.func20, Try.ntmps20
  go_wp2_with fail
  refine HF.out.mono ?_
  rintro en w5 ⟨rfl, hb⟩
  have L5 := Lib.hid hb
  clear hb HF
  simp only
  have L6 : Hid (Below w.heap.size w (w5.alloc (.cells #[.int .i64 x.fr, .int .i64 x.to, .int .i64 x.own, .int .i64 x.ep] 32)).drew) := (L5.out.alloc L5.out.size _).drew
  have Q6 : Hid (LBox (w5.alloc (.cells #[.int .i64 x.fr, .int .i64 x.to, .int .i64 x.own, .int .i64 x.ep] 32)) w5.heap.size x) := Cells.new _ _ _
  go_upto_region 2 with fail
  generalize w5.alloc (.cells #[.int .i64 x.fr, .int .i64 x.to, .int .i64 x.own, .int .i64 x.ep] 32) = w6 at *
  obtain ⟨n0, n1, n2, n3⟩ := LBox.cells Q6.out
  refine wp_region_held_drew (S := fun W => W.cell? ⟨w5.heap.size, 2, none⟩ = some (.int .i64 x.own) ∧ W.cell? ⟨w5.heap.size, 3, none⟩ = some (.int .i64 x.ep)) (by kernel_rfl) ⟨n2, n3⟩ (fun hHeld => ?_)
  (first | (refine Reg.take 0 (v := ?_) rfl (by kernel_rfl) (by kernel_rfl) (by kernel_rfl) (fun _ _ _ h => h) (Or.inl ⟨by rfl, ?_⟩) (by assumption) ?_; rotate_left; (focus ((intro W hSW); (try dsimp only at hSW); (try go_split_ands); go_simp; (try (with_reducible rfl)); done))) | (refine Reg.take 0 (v := undef) rfl (by kernel_rfl) (by kernel_rfl) (by kernel_rfl) (fun _ _ _ h => h) (Or.inr ⟨by rfl, rfl⟩) (by assumption) ?_))
  (try simp only [Act.put, List.setIfInBounds_toArray, List.set_cons_zero, List.set_cons_succ])
  (first | (refine Reg.take 1 (v := ?_) rfl (by kernel_rfl) (by kernel_rfl) (by kernel_rfl) (fun _ _ _ h => h) (Or.inl ⟨by rfl, ?_⟩) (by assumption) ?_; rotate_left; (focus ((intro W hSW); (try dsimp only at hSW); (try go_split_ands); go_simp; (try (with_reducible rfl)); done))) | (refine Reg.take 1 (v := undef) rfl (by kernel_rfl) (by kernel_rfl) (by kernel_rfl) (fun _ _ _ h => h) (Or.inr ⟨by rfl, rfl⟩) (by assumption) ?_))
  (try simp only [Act.put, List.setIfInBounds_toArray, List.set_cons_zero, List.set_cons_succ])
  (first | (refine Reg.take 2 (v := ?_) rfl (by kernel_rfl) (by kernel_rfl) (by kernel_rfl) (fun _ _ _ h => h) (Or.inl ⟨by rfl, ?_⟩) (by assumption) ?_; rotate_left; (focus ((intro W hSW); (try dsimp only at hSW); (try go_split_ands); go_simp; (try (with_reducible rfl)); done))) | (refine Reg.take 2 (v := undef) rfl (by kernel_rfl) (by kernel_rfl) (by kernel_rfl) (fun _ _ _ h => h) (Or.inr ⟨by rfl, rfl⟩) (by assumption) ?_))
  (try simp only [Act.put, List.setIfInBounds_toArray, List.set_cons_zero, List.set_cons_succ])
  (first | (refine Reg.take 3 (v := ?_) rfl (by kernel_rfl) (by kernel_rfl) (by kernel_rfl) (fun _ _ _ h => h) (Or.inl ⟨by rfl, ?_⟩) (by assumption) ?_; rotate_left; (focus ((intro W hSW); (try dsimp only at hSW); (try go_split_ands); go_simp; (try (with_reducible rfl)); done))) | (refine Reg.take 3 (v := undef) rfl (by kernel_rfl) (by kernel_rfl) (by kernel_rfl) (fun _ _ _ h => h) (Or.inr ⟨by rfl, rfl⟩) (by assumption) ?_))
  (try simp only [Act.put, List.setIfInBounds_toArray, List.set_cons_zero, List.set_cons_succ])
  (first | (refine Reg.take 4 (v := ?_) rfl (by kernel_rfl) (by kernel_rfl) (by kernel_rfl) (fun _ _ _ h => h) (Or.inl ⟨by rfl, ?_⟩) (by assumption) ?_; rotate_left; (focus ((intro W hSW); (try dsimp only at hSW); (try go_split_ands); go_simp; (try (with_reducible rfl)); done))) | (refine Reg.take 4 (v := undef) rfl (by kernel_rfl) (by kernel_rfl) (by kernel_rfl) (fun _ _ _ h => h) (Or.inr ⟨by rfl, rfl⟩) (by assumption) ?_))
  (try simp only [Act.put, List.setIfInBounds_toArray, List.set_cons_zero, List.set_cons_succ])
  (first | (refine Reg.take 5 (v := ?_) rfl (by kernel_rfl) (by kernel_rfl) (by kernel_rfl) (fun _ _ _ h => h) (Or.inl ⟨by rfl, ?_⟩) (by assumption) ?_; rotate_left; (focus ((intro W hSW); (try dsimp only at hSW); (try go_split_ands); go_simp; (try (with_reducible rfl)); done))) | (refine Reg.take 5 (v := undef) rfl (by kernel_rfl) (by kernel_rfl) (by kernel_rfl) (fun _ _ _ h => h) (Or.inr ⟨by rfl, rfl⟩) (by assumption) ?_))
  (try simp only [Act.put, List.setIfInBounds_toArray, List.set_cons_zero, List.set_cons_succ])
  refine wpAnyH_done (by kernel_rfl) ?_ _
  go_wp2_with fail
  go_ret2
  exact ⟨rfl, L6.out⟩
end Spa
end Go.Proofs.Ytjoemlifpbjdbaa
