/-
  WALKS: live.Plan, live.Victim.
-/
import Derived.Test.YtnnphpfobdcmbaaLivSorted
import Derived.Test.YtnnphpfobdcmbaaLivWasteW
namespace Go.Proofs.Ytnnphpfobdcmbaa
open Go.RowKit Mem Ext Zon Zns
namespace Liv

/-- Zones by their keys, those of one key by their numbers. -/
def sortB (key : Nat → Int) (l : List Nat) : List Nat := l.mergeSort fun x y => decide (key x < key y ∨ key x = key y ∧ x ≤ y)
theorem sortB_perm (key : Nat → Int) (l : List Nat) : (sortB key l).Perm l := List.mergeSort_perm l _
theorem sortB_len (key : Nat → Int) (l : List Nat) : (sortB key l).length = l.length := (sortB_perm key l).length_eq
theorem sortB_mem {key : Nat → Int} {l : List Nat} {x : Nat} : x ∈ sortB key l ↔ x ∈ l := (sortB_perm key l).mem_iff
theorem sortB_pair (key : Nat → Int) (l : List Nat) : (sortB key l).Pairwise fun x y => key x < key y ∨ key x = key y ∧ x ≤ y := by
  have := List.pairwise_mergeSort (le := fun x y : Nat => decide (key x < key y ∨ key x = key y ∧ x ≤ y)) (by intro a b c h1 h2; simp only [decide_eq_true_eq] at *; omega) (by intro a b; simp only [Bool.or_eq_true, decide_eq_true_eq]; omega) l
  exact this.imp (by intro a b h; simpa using h)
theorem sortB_unique {key : Nat → Int} {l rs : List Nat} (h : rs.Perm l) (hp : rs.Pairwise (byKey key)) : rs = sortB key l := by
  refine List.Perm.eq_of_pairwise (le := fun x y => key x < key y ∨ key x = key y ∧ x ≤ y) (fun a b _ _ h1 h2 => by omega) (hp.imp fun {a b} h => ?_) (sortB_pair key l) (h.trans (sortB_perm key l).symm)
  rcases h with h | h
  · exact .inl h
  · exact .inr ⟨h.1, Nat.le_of_lt h.2⟩
theorem choose_rises (n : Nat) (p : Nat → Bool) (sk : List Int) : (chooseP n p sk).Pairwise (· < ·) := List.Pairwise.filter _ List.pairwise_lt_range

set_option maxRecDepth 100000 in
set_option maxHeartbeats 3200000 in
theorem plan2_any {w W : World} {q n m e : Nat} {B : Option Addr} {l : List Ext.Ex} (hq : Ext.Cells w q 26 #[.slice B m e]) (hr : Row ci w B m e (cnts n l)) {base : Nat} (hW : Below base w W) (hb : w.heap.size ≤ base) (hn : n ≤ 64) (x y : Nat) (hx : x < n) (hy : y < n) :
    Calls Try.prog 37 (#[.int .i64 (x : Int), .int .i64 (y : Int)] ++ #[.pointer (some ⟨q, 0, none⟩)]) W fun e w' => e = .returned (.int .i64 (cmpI (cntZ (x : Int) l) (cntZ (y : Int) l))) ∧ ∃ k os', w' = Go.Sort.grow (W.drewN k) os' := by
  have hW : Below w.heap.size w W := hW.mono hb
  obtain rfl : n = m := by rw [← hr.len, cnts_len]
  obtain ⟨b, o, hB, c1⟩ := hr.cell (cnts_get l hx)
  subst hB
  have HS := (show _ ∧ _ ∧ _ from ⟨Ext.Cells.cell (Ext.Cells.below hq hW) 0, (show W.cell? ⟨b, o + x, none⟩ = some (.int .i64 (cntZ (x : Int) l)) from by
      obtain ⟨b3, o3, hB3, c3⟩ := (hr.below hW).cell (cnts_get l hx)
      injection hB3 with hB3; injection hB3 with h1 h2; subst h1 h2; exact c3), (show W.cell? ⟨b, o + y, none⟩ = some (.int .i64 (cntZ (y : Int) l)) from by
      obtain ⟨b3, o3, hB3, c3⟩ := (hr.below hW).cell (cnts_get l hy)
      injection hB3 with hB3; injection hB3 with h1 h2; subst h1 h2; exact c3)⟩)
  have HC := fun a b w => Lib.hid (compare_any a b w)
  have hx0 : (0 : Int) ≤ (x : Int) := by omega
  have hx1 : (x : Int) < (n : Int) := by omega
  have hy0 : (0 : Int) ≤ (y : Int) := by omega
  have hy1 : (y : Int) < (n : Int) := by omega
  clear hq hr hW c1 hx hy hb
  generalize cntZ (x : Int) l = u at *
  generalize cntZ (y : Int) l = v at *
  have HS2 : (fun W' : World => W'.cell? ⟨q, 0, none⟩ = some (.slice (some ⟨b, o, none⟩) n e) ∧ W'.cell? ⟨b, o + x, none⟩ = some (.int .i64 u) ∧ W'.cell? ⟨b, o + y, none⟩ = some (.int .i64 v)) W.drew := HS
  show Calls Try.prog 37 #[.int .i64 (x : Int), .int .i64 (y : Int), .pointer (some ⟨q, 0, none⟩)] W _
  go_enter Try.func37, Try.ntmps37
  go_upto_region 1 with fail
  refine wp_region_held_drew (S := fun W' => W'.cell? ⟨q, 0, none⟩ = some (.slice (some ⟨b, o, none⟩) n e) ∧ W'.cell? ⟨b, o + x, none⟩ = some (.int .i64 u) ∧ W'.cell? ⟨b, o + y, none⟩ = some (.int .i64 v)) (by kernel_rfl) HS2 (fun hHeld => ?_)
  have hD : Hid (W.drew = Go.Sort.grow (W.drewN 1) #[]) := by show _ = _; rw [Go.Sort.grow_empty]; rfl
  generalize W.drew = W2 at *
  (first | (refine Reg.take 0 (v := ?_) rfl (by kernel_rfl) (by kernel_rfl) (by kernel_rfl) (fun _ _ _ h => h) (Or.inl ⟨by rfl, ?_⟩) (by assumption) ?_; rotate_left; (focus ((intro W hSW); (try dsimp only at hSW); (try go_split_ands); go_simp; (try (with_reducible rfl)); done))) | (refine Reg.take 0 (v := undef) rfl (by kernel_rfl) (by kernel_rfl) (by kernel_rfl) (fun _ _ _ h => h) (Or.inr ⟨by rfl, rfl⟩) (by assumption) ?_))
  (try simp only [Act.put, List.setIfInBounds_toArray, List.set_cons_zero, List.set_cons_succ])
  (first | (refine Reg.take 1 (v := ?_) rfl (by kernel_rfl) (by kernel_rfl) (by kernel_rfl) (fun _ _ _ h => h) (Or.inl ⟨by rfl, ?_⟩) (by assumption) ?_; rotate_left; (focus ((intro W hSW); (try dsimp only at hSW); (try go_split_ands); go_simp; (try (with_reducible rfl)); done))) | (refine Reg.take 1 (v := undef) rfl (by kernel_rfl) (by kernel_rfl) (by kernel_rfl) (fun _ _ _ h => h) (Or.inr ⟨by rfl, rfl⟩) (by assumption) ?_))
  (try simp only [Act.put, List.setIfInBounds_toArray, List.set_cons_zero, List.set_cons_succ])
  (first | (refine Reg.take 2 (v := ?_) rfl (by kernel_rfl) (by kernel_rfl) (by kernel_rfl) (fun _ _ _ h => h) (Or.inl ⟨by rfl, ?_⟩) (by assumption) ?_; rotate_left; (focus ((intro W hSW); (try dsimp only at hSW); (try go_split_ands); go_simp; (try (with_reducible rfl)); done))) | (refine Reg.take 2 (v := undef) rfl (by kernel_rfl) (by kernel_rfl) (by kernel_rfl) (fun _ _ _ h => h) (Or.inr ⟨by rfl, rfl⟩) (by assumption) ?_))
  (try simp only [Act.put, List.setIfInBounds_toArray, List.set_cons_zero, List.set_cons_succ])
  (first | (refine Reg.take 3 (v := ?_) rfl (by kernel_rfl) (by kernel_rfl) (by kernel_rfl) (fun _ _ _ h => h) (Or.inl ⟨by rfl, ?_⟩) (by assumption) ?_; rotate_left; (focus ((intro W hSW); (try dsimp only at hSW); (try go_split_ands); go_simp; (try (with_reducible rfl)); done))) | (refine Reg.take 3 (v := undef) rfl (by kernel_rfl) (by kernel_rfl) (by kernel_rfl) (fun _ _ _ h => h) (Or.inr ⟨by rfl, rfl⟩) (by assumption) ?_))
  (try simp only [Act.put, List.setIfInBounds_toArray, List.set_cons_zero, List.set_cons_succ])
  (first | (refine Reg.take 4 (v := ?_) rfl (by kernel_rfl) (by kernel_rfl) (by kernel_rfl) (fun _ _ _ h => h) (Or.inl ⟨by rfl, ?_⟩) (by assumption) ?_; rotate_left; (focus ((intro W hSW); (try dsimp only at hSW); (try go_split_ands); go_simp; (try (with_reducible rfl)); done))) | (refine Reg.take 4 (v := undef) rfl (by kernel_rfl) (by kernel_rfl) (by kernel_rfl) (fun _ _ _ h => h) (Or.inr ⟨by rfl, rfl⟩) (by assumption) ?_))
  (try simp only [Act.put, List.setIfInBounds_toArray, List.set_cons_zero, List.set_cons_succ])
  (first | (refine Reg.take 5 (v := ?_) rfl (by kernel_rfl) (by kernel_rfl) (by kernel_rfl) (fun _ _ _ h => h) (Or.inl ⟨by rfl, ?_⟩) (by assumption) ?_; rotate_left; (focus ((intro W hSW); (try dsimp only at hSW); (try go_split_ands); go_simp; (try (with_reducible rfl)); done))) | (refine Reg.take 5 (v := undef) rfl (by kernel_rfl) (by kernel_rfl) (by kernel_rfl) (fun _ _ _ h => h) (Or.inr ⟨by rfl, rfl⟩) (by assumption) ?_))
  (try simp only [Act.put, List.setIfInBounds_toArray, List.set_cons_zero, List.set_cons_succ])
  (first | (refine Reg.take 6 (v := ?_) rfl (by kernel_rfl) (by kernel_rfl) (by kernel_rfl) (fun _ _ _ h => h) (Or.inl ⟨by rfl, ?_⟩) (by assumption) ?_; rotate_left; (focus ((intro W hSW); (try dsimp only at hSW); (try go_split_ands); go_simp; (try (with_reducible rfl)); done))) | (refine Reg.take 6 (v := undef) rfl (by kernel_rfl) (by kernel_rfl) (by kernel_rfl) (fun _ _ _ h => h) (Or.inr ⟨by rfl, rfl⟩) (by assumption) ?_))
  (try simp only [Act.put, List.setIfInBounds_toArray, List.set_cons_zero, List.set_cons_succ])
  (first | (refine Reg.take 7 (v := ?_) rfl (by kernel_rfl) (by kernel_rfl) (by kernel_rfl) (fun _ _ _ h => h) (Or.inl ⟨by rfl, ?_⟩) (by assumption) ?_; rotate_left; (focus ((intro W hSW); (try dsimp only at hSW); (try go_split_ands); go_simp; (try (with_reducible rfl)); done))) | (refine Reg.take 7 (v := undef) rfl (by kernel_rfl) (by kernel_rfl) (by kernel_rfl) (fun _ _ _ h => h) (Or.inr ⟨by rfl, rfl⟩) (by assumption) ?_))
  (try simp only [Act.put, List.setIfInBounds_toArray, List.set_cons_zero, List.set_cons_succ])
  refine Reg.step 8 rfl (by kernel_rfl) (by rfl) (fun K hK => ?_)
  go_simp
  refine (HC u v W2).out.mono ?_
  rintro e' W3 ⟨rfl, hw3⟩
  obtain rfl := hw3.symm
  refine hK.out _ _ HS2 (fun hHeld => ?_)
  clear hK K
  (try simp only [Act.put, List.setIfInBounds_toArray, List.set_cons_zero, List.set_cons_succ])
  (first | (refine Reg.take 9 (v := ?_) rfl (by kernel_rfl) (by kernel_rfl) (by kernel_rfl) (fun _ _ _ h => h) (Or.inl ⟨by rfl, ?_⟩) (by assumption) ?_; rotate_left; (focus ((intro W hSW); (try dsimp only at hSW); (try go_split_ands); go_simp; (try (with_reducible rfl)); done))) | (refine Reg.take 9 (v := undef) rfl (by kernel_rfl) (by kernel_rfl) (by kernel_rfl) (fun _ _ _ h => h) (Or.inr ⟨by rfl, rfl⟩) (by assumption) ?_))
  (try simp only [Act.put, List.setIfInBounds_toArray, List.set_cons_zero, List.set_cons_succ])
  refine wpAnyH_done (by kernel_rfl) ?_ _
  clear hHeld
  go_wp2_with fail
  go_ret
  exact ⟨rfl, 1, #[], hD.out⟩
end Liv
end Go.Proofs.Ytnnphpfobdcmbaa
