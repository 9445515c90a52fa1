/-
  WALKS: lists that are the same (slices.Equal, Equal, Same), Join.
-/
import Derived.Test.YthahemffeagifaaExtPut
namespace Go.Proofs.Ythahemffeagifaa
open Go.RowKit Mem
namespace Ext
set_option maxRecDepth 100000 in
set_option maxHeartbeats 6400000 in
theorem sequal_any {w : World} {A B : Option Addr} {n c d : Nat} {l : List Ex} (h : RowL w A n c l) (h2 : RowL w B n d l) :
    Calls Try.prog 33 #[.slice A n c, .slice B n d] w fun e w' => e = .returned (.bool true) ∧ Below w.heap.size w w' := by
  have HA := Lib.hid h
  have HB := Lib.hid h2
  have hbig := h.big
  clear h h2
  go_enter Try.func33, Try.ntmps33
  go_wp2
  go_loopw [5, 13] (fun _ i wr => ∃ k : Nat, i = .int .i64 k ∧ k ≤ n ∧ Hid (Below w.heap.size w wr)) (fun _ i _ => n - (intOf i).toNat)
  case atStart => exact ⟨0, rfl, by omega, Below.refl _ _⟩
  case round =>
    obtain ⟨k, rfl, hk, hH⟩ := hrel
    by_cases hlt : k < n
    · obtain ⟨x, hx⟩ := HA.out.get hlt
      obtain ⟨b, o, hA, c0, c1, c2, c3, c4⟩ := RowS.ext_at (HA.out.below hH.out) hx
      obtain ⟨b', o', hB, d0, d1, d2, d3, d4⟩ := RowS.ext_at (HB.out.below hH.out) hx
      subst hA hB
      have hk0 : (0 : Int) ≤ (k : Int) := by omega
      have hkn : (k : Int) < (n : Int) := by omega
      have hne := fun w => ext_neq x w
      have hgd := ext_guard
      clear hx
      go_upto_region 6 with fail
      refine wp_region_held_drew (S := fun W => (W.cell? ⟨b, o + k * 5, none⟩ = some (.int .i64 x.lba) ∧ W.cell? ⟨b, o + k * 5 + 1, none⟩ = some (.int .i64 x.n) ∧ W.cell? ⟨b, o + k * 5 + 2, none⟩ = some (.int .i64 x.ver) ∧ W.cell? ⟨b, o + k * 5 + 3, none⟩ = some (.int .i64 x.zone) ∧ W.cell? ⟨b, o + k * 5 + 4, none⟩ = some (.int .i64 x.off)) ∧ (W.cell? ⟨b', o' + k * 5, none⟩ = some (.int .i64 x.lba) ∧ W.cell? ⟨b', o' + k * 5 + 1, none⟩ = some (.int .i64 x.n) ∧ W.cell? ⟨b', o' + k * 5 + 2, none⟩ = some (.int .i64 x.ver) ∧ W.cell? ⟨b', o' + k * 5 + 3, none⟩ = some (.int .i64 x.zone) ∧ W.cell? ⟨b', o' + k * 5 + 4, none⟩ = some (.int .i64 x.off))) (by kernel_rfl) ⟨⟨c0, c1, c2, c3, c4⟩, d0, d1, d2, d3, d4⟩ (fun hHeld => ?_)
      (first | (refine Reg.take 0 (v := ?_) rfl (by kernel_rfl) (by kernel_rfl) (by kernel_rfl) (fun _ _ _ h => h) (Or.inl ⟨by rfl, ?_⟩) (by assumption) ?_; rotate_left; (focus ((intro W hSW); (try dsimp only at hSW); (try go_split_ands); go_simp; (try (with_reducible rfl)); done))) | (refine Reg.take 0 (v := undef) rfl (by kernel_rfl) (by kernel_rfl) (by kernel_rfl) (fun _ _ _ h => h) (Or.inr ⟨by rfl, rfl⟩) (by assumption) ?_))
      (try simp only [Act.put, List.setIfInBounds_toArray, List.set_cons_zero, List.set_cons_succ])
      (first | (refine Reg.take 1 (v := ?_) rfl (by kernel_rfl) (by kernel_rfl) (by kernel_rfl) (fun _ _ _ h => h) (Or.inl ⟨by rfl, ?_⟩) (by assumption) ?_; rotate_left; (focus ((intro W hSW); (try dsimp only at hSW); (try go_split_ands); go_simp; (try (with_reducible rfl)); done))) | (refine Reg.take 1 (v := undef) rfl (by kernel_rfl) (by kernel_rfl) (by kernel_rfl) (fun _ _ _ h => h) (Or.inr ⟨by rfl, rfl⟩) (by assumption) ?_))
      (try simp only [Act.put, List.setIfInBounds_toArray, List.set_cons_zero, List.set_cons_succ])
      (first | (refine Reg.take 2 (v := ?_) rfl (by kernel_rfl) (by kernel_rfl) (by kernel_rfl) (fun _ _ _ h => h) (Or.inl ⟨by rfl, ?_⟩) (by assumption) ?_; rotate_left; (focus ((intro W hSW); (try dsimp only at hSW); (try go_split_ands); go_simp; (try (with_reducible rfl)); done))) | (refine Reg.take 2 (v := undef) rfl (by kernel_rfl) (by kernel_rfl) (by kernel_rfl) (fun _ _ _ h => h) (Or.inr ⟨by rfl, rfl⟩) (by assumption) ?_))
      (try simp only [Act.put, List.setIfInBounds_toArray, List.set_cons_zero, List.set_cons_succ])
      (first | (refine Reg.take 3 (v := ?_) rfl (by kernel_rfl) (by kernel_rfl) (by kernel_rfl) (fun _ _ _ h => h) (Or.inl ⟨by rfl, ?_⟩) (by assumption) ?_; rotate_left; (focus ((intro W hSW); (try dsimp only at hSW); (try go_split_ands); go_simp; (try (with_reducible rfl)); done))) | (refine Reg.take 3 (v := undef) rfl (by kernel_rfl) (by kernel_rfl) (by kernel_rfl) (fun _ _ _ h => h) (Or.inr ⟨by rfl, rfl⟩) (by assumption) ?_))
      (try simp only [Act.put, List.setIfInBounds_toArray, List.set_cons_zero, List.set_cons_succ])
      (first | (refine Reg.take 4 (v := ?_) rfl (by kernel_rfl) (by kernel_rfl) (by kernel_rfl) (fun _ _ _ h => h) (Or.inl ⟨by rfl, ?_⟩) (by assumption) ?_; rotate_left; (focus ((intro W hSW); (try dsimp only at hSW); (try go_split_ands); go_simp; (try (with_reducible rfl)); done))) | (refine Reg.take 4 (v := undef) rfl (by kernel_rfl) (by kernel_rfl) (by kernel_rfl) (fun _ _ _ h => h) (Or.inr ⟨by rfl, rfl⟩) (by assumption) ?_))
      (try simp only [Act.put, List.setIfInBounds_toArray, List.set_cons_zero, List.set_cons_succ])
      (first | (refine Reg.take 5 (v := ?_) rfl (by kernel_rfl) (by kernel_rfl) (by kernel_rfl) (fun _ _ _ h => h) (Or.inl ⟨by rfl, ?_⟩) (by assumption) ?_; rotate_left; (focus ((intro W hSW); (try dsimp only at hSW); (try go_split_ands); go_simp; (try (with_reducible rfl)); done))) | (refine Reg.take 5 (v := undef) rfl (by kernel_rfl) (by kernel_rfl) (by kernel_rfl) (fun _ _ _ h => h) (Or.inr ⟨by rfl, rfl⟩) (by assumption) ?_))
      (try simp only [Act.put, List.setIfInBounds_toArray, List.set_cons_zero, List.set_cons_succ])
      (first | (refine Reg.take 6 (v := ?_) rfl (by kernel_rfl) (by kernel_rfl) (by kernel_rfl) (fun _ _ _ h => h) (Or.inl ⟨by rfl, ?_⟩) (by assumption) ?_; rotate_left; (focus ((intro W hSW); (try dsimp only at hSW); (try go_split_ands); go_simp; (try (with_reducible rfl)); done))) | (refine Reg.take 6 (v := undef) rfl (by kernel_rfl) (by kernel_rfl) (by kernel_rfl) (fun _ _ _ h => h) (Or.inr ⟨by rfl, rfl⟩) (by assumption) ?_))
      (try simp only [Act.put, List.setIfInBounds_toArray, List.set_cons_zero, List.set_cons_succ])
      (first | (refine Reg.take 7 (v := ?_) rfl (by kernel_rfl) (by kernel_rfl) (by kernel_rfl) (fun _ _ _ h => h) (Or.inl ⟨by rfl, ?_⟩) (by assumption) ?_; rotate_left; (focus ((intro W hSW); (try dsimp only at hSW); (try go_split_ands); go_simp; (try (with_reducible rfl)); done))) | (refine Reg.take 7 (v := undef) rfl (by kernel_rfl) (by kernel_rfl) (by kernel_rfl) (fun _ _ _ h => h) (Or.inr ⟨by rfl, rfl⟩) (by assumption) ?_))
      (try simp only [Act.put, List.setIfInBounds_toArray, List.set_cons_zero, List.set_cons_succ])
      refine Reg.step 8 rfl (by kernel_rfl) (by rfl) (fun K hK => ?_)
      go_simp
      refine hK.out _ _ hHeld (fun hHeld2 => ?_)
      clear hK K
      (try simp only [Act.put, List.setIfInBounds_toArray, List.set_cons_zero, List.set_cons_succ])
      refine wpAnyH_done (by kernel_rfl) ?_ _
      go_wp2_with fail
      go_roundw
      case rel => exact ⟨k + 1, by go_num, by omega, hH.out.drew⟩
      case measure => simp [intOf]; omega
    · go_wp2_with fail
      go_ret
      exact ⟨rfl, hH.out⟩

set_option maxRecDepth 100000 in
set_option maxHeartbeats 6400000 in
theorem equal_any {w : World} {A B : Option Addr} {n c d : Nat} {l : List Ex} (h : RowL w A n c l) (h2 : RowL w B n d l) :
    Calls Try.prog 20 #[.slice A n c, .slice B n d] w fun e w' => e = .returned (.bool true) ∧ Below w.heap.size w w' := by
  have HA := Lib.hid h
  have HB := Lib.hid h2
  have hbig := h.big
  clear h h2
  go_enter Try.func20, Try.ntmps20
  go_wp2
  go_loopw [5, 13] (fun _ i wr => ∃ k : Nat, i = .int .i64 k ∧ k ≤ n ∧ Hid (Below w.heap.size w wr)) (fun _ i _ => n - (intOf i).toNat)
  case atStart => exact ⟨0, rfl, by omega, Below.refl _ _⟩
  case round =>
    obtain ⟨k, rfl, hk, hH⟩ := hrel
    by_cases hlt : k < n
    · obtain ⟨x, hx⟩ := HA.out.get hlt
      obtain ⟨b, o, hA, c0, c1, c2, c3, c4⟩ := RowS.ext_at (HA.out.below hH.out) hx
      obtain ⟨b', o', hB, d0, d1, d2, d3, d4⟩ := RowS.ext_at (HB.out.below hH.out) hx
      subst hA hB
      have hk0 : (0 : Int) ≤ (k : Int) := by omega
      have hkn : (k : Int) < (n : Int) := by omega
      have hne := fun w => ext_neq x w
      have hgd := ext_guard
      clear hx
      go_upto_region 6 with fail
      refine wp_region_held_drew (S := fun W => (W.cell? ⟨b, o + k * 5, none⟩ = some (.int .i64 x.lba) ∧ W.cell? ⟨b, o + k * 5 + 1, none⟩ = some (.int .i64 x.n) ∧ W.cell? ⟨b, o + k * 5 + 2, none⟩ = some (.int .i64 x.ver) ∧ W.cell? ⟨b, o + k * 5 + 3, none⟩ = some (.int .i64 x.zone) ∧ W.cell? ⟨b, o + k * 5 + 4, none⟩ = some (.int .i64 x.off)) ∧ (W.cell? ⟨b', o' + k * 5, none⟩ = some (.int .i64 x.lba) ∧ W.cell? ⟨b', o' + k * 5 + 1, none⟩ = some (.int .i64 x.n) ∧ W.cell? ⟨b', o' + k * 5 + 2, none⟩ = some (.int .i64 x.ver) ∧ W.cell? ⟨b', o' + k * 5 + 3, none⟩ = some (.int .i64 x.zone) ∧ W.cell? ⟨b', o' + k * 5 + 4, none⟩ = some (.int .i64 x.off))) (by kernel_rfl) ⟨⟨c0, c1, c2, c3, c4⟩, d0, d1, d2, d3, d4⟩ (fun hHeld => ?_)
      (first | (refine Reg.take 0 (v := ?_) rfl (by kernel_rfl) (by kernel_rfl) (by kernel_rfl) (fun _ _ _ h => h) (Or.inl ⟨by rfl, ?_⟩) (by assumption) ?_; rotate_left; (focus ((intro W hSW); (try dsimp only at hSW); (try go_split_ands); go_simp; (try (with_reducible rfl)); done))) | (refine Reg.take 0 (v := undef) rfl (by kernel_rfl) (by kernel_rfl) (by kernel_rfl) (fun _ _ _ h => h) (Or.inr ⟨by rfl, rfl⟩) (by assumption) ?_))
      (try simp only [Act.put, List.setIfInBounds_toArray, List.set_cons_zero, List.set_cons_succ])
      (first | (refine Reg.take 1 (v := ?_) rfl (by kernel_rfl) (by kernel_rfl) (by kernel_rfl) (fun _ _ _ h => h) (Or.inl ⟨by rfl, ?_⟩) (by assumption) ?_; rotate_left; (focus ((intro W hSW); (try dsimp only at hSW); (try go_split_ands); go_simp; (try (with_reducible rfl)); done))) | (refine Reg.take 1 (v := undef) rfl (by kernel_rfl) (by kernel_rfl) (by kernel_rfl) (fun _ _ _ h => h) (Or.inr ⟨by rfl, rfl⟩) (by assumption) ?_))
      (try simp only [Act.put, List.setIfInBounds_toArray, List.set_cons_zero, List.set_cons_succ])
      (first | (refine Reg.take 2 (v := ?_) rfl (by kernel_rfl) (by kernel_rfl) (by kernel_rfl) (fun _ _ _ h => h) (Or.inl ⟨by rfl, ?_⟩) (by assumption) ?_; rotate_left; (focus ((intro W hSW); (try dsimp only at hSW); (try go_split_ands); go_simp; (try (with_reducible rfl)); done))) | (refine Reg.take 2 (v := undef) rfl (by kernel_rfl) (by kernel_rfl) (by kernel_rfl) (fun _ _ _ h => h) (Or.inr ⟨by rfl, rfl⟩) (by assumption) ?_))
      (try simp only [Act.put, List.setIfInBounds_toArray, List.set_cons_zero, List.set_cons_succ])
      (first | (refine Reg.take 3 (v := ?_) rfl (by kernel_rfl) (by kernel_rfl) (by kernel_rfl) (fun _ _ _ h => h) (Or.inl ⟨by rfl, ?_⟩) (by assumption) ?_; rotate_left; (focus ((intro W hSW); (try dsimp only at hSW); (try go_split_ands); go_simp; (try (with_reducible rfl)); done))) | (refine Reg.take 3 (v := undef) rfl (by kernel_rfl) (by kernel_rfl) (by kernel_rfl) (fun _ _ _ h => h) (Or.inr ⟨by rfl, rfl⟩) (by assumption) ?_))
      (try simp only [Act.put, List.setIfInBounds_toArray, List.set_cons_zero, List.set_cons_succ])
      (first | (refine Reg.take 4 (v := ?_) rfl (by kernel_rfl) (by kernel_rfl) (by kernel_rfl) (fun _ _ _ h => h) (Or.inl ⟨by rfl, ?_⟩) (by assumption) ?_; rotate_left; (focus ((intro W hSW); (try dsimp only at hSW); (try go_split_ands); go_simp; (try (with_reducible rfl)); done))) | (refine Reg.take 4 (v := undef) rfl (by kernel_rfl) (by kernel_rfl) (by kernel_rfl) (fun _ _ _ h => h) (Or.inr ⟨by rfl, rfl⟩) (by assumption) ?_))
      (try simp only [Act.put, List.setIfInBounds_toArray, List.set_cons_zero, List.set_cons_succ])
      (first | (refine Reg.take 5 (v := ?_) rfl (by kernel_rfl) (by kernel_rfl) (by kernel_rfl) (fun _ _ _ h => h) (Or.inl ⟨by rfl, ?_⟩) (by assumption) ?_; rotate_left; (focus ((intro W hSW); (try dsimp only at hSW); (try go_split_ands); go_simp; (try (with_reducible rfl)); done))) | (refine Reg.take 5 (v := undef) rfl (by kernel_rfl) (by kernel_rfl) (by kernel_rfl) (fun _ _ _ h => h) (Or.inr ⟨by rfl, rfl⟩) (by assumption) ?_))
      (try simp only [Act.put, List.setIfInBounds_toArray, List.set_cons_zero, List.set_cons_succ])
      (first | (refine Reg.take 6 (v := ?_) rfl (by kernel_rfl) (by kernel_rfl) (by kernel_rfl) (fun _ _ _ h => h) (Or.inl ⟨by rfl, ?_⟩) (by assumption) ?_; rotate_left; (focus ((intro W hSW); (try dsimp only at hSW); (try go_split_ands); go_simp; (try (with_reducible rfl)); done))) | (refine Reg.take 6 (v := undef) rfl (by kernel_rfl) (by kernel_rfl) (by kernel_rfl) (fun _ _ _ h => h) (Or.inr ⟨by rfl, rfl⟩) (by assumption) ?_))
      (try simp only [Act.put, List.setIfInBounds_toArray, List.set_cons_zero, List.set_cons_succ])
      (first | (refine Reg.take 7 (v := ?_) rfl (by kernel_rfl) (by kernel_rfl) (by kernel_rfl) (fun _ _ _ h => h) (Or.inl ⟨by rfl, ?_⟩) (by assumption) ?_; rotate_left; (focus ((intro W hSW); (try dsimp only at hSW); (try go_split_ands); go_simp; (try (with_reducible rfl)); done))) | (refine Reg.take 7 (v := undef) rfl (by kernel_rfl) (by kernel_rfl) (by kernel_rfl) (fun _ _ _ h => h) (Or.inr ⟨by rfl, rfl⟩) (by assumption) ?_))
      (try simp only [Act.put, List.setIfInBounds_toArray, List.set_cons_zero, List.set_cons_succ])
      refine Reg.step 8 rfl (by kernel_rfl) (by rfl) (fun K hK => ?_)
      go_simp
      refine hK.out _ _ hHeld (fun hHeld2 => ?_)
      clear hK K
      (try simp only [Act.put, List.setIfInBounds_toArray, List.set_cons_zero, List.set_cons_succ])
      refine wpAnyH_done (by kernel_rfl) ?_ _
      go_wp2_with fail
      go_roundw
      case rel => exact ⟨k + 1, by go_num, by omega, hH.out.drew⟩
      case measure => simp [intOf]; omega
    · go_wp2_with fail
      go_ret
      exact ⟨rfl, hH.out⟩

set_option maxRecDepth 100000 in
set_option maxHeartbeats 3200000 in
theorem join_any {A : Option Addr} {n c : Nat} {l : List Ex} {w : World} (h : RowL w A n c l) (hok : Ok 0 l) (hn : n ≤ 3000000) :
    Calls Try.prog 18 #[.slice A n c] w (GaveR w (joinE l)) := by
  have HR := Lib.hid h
  have HC := fun w (h : RowL w A n c l) => Lib.hid (check_ok h hok)
  have HJ := fun w (h : RowL w A n c l) => Lib.hid (joined_any h hok hn)
  clear h hok
  go_enter Try.func18, Try.ntmps18
  go_wp2_with fail
  refine (HC w HR.out).out.mono ?_
  rintro e w2 ⟨rfl, hb⟩
  have L2 := Lib.hid hb
  clear hb
  go_wp2_with fail
  refine (HJ w2 (HR.out.below L2.out)).out.mono ?_
  rintro e w3 ⟨⟨B, m, d, rfl, hO⟩, hb⟩
  have L3 := Lib.hid (L2.out.trans (hb.mono L2.out.size))
  have O3 := Lib.hid (hO.mono L2.out.size)
  clear hb hO
  go_wp2_with fail
  go_ret
  exact ⟨⟨_, _, _, rfl, O3.out⟩, L3.out⟩

set_option maxRecDepth 100000 in
set_option maxHeartbeats 6400000 in
theorem same_any {A B : Option Addr} {n c m d : Nat} {l u : List Ex} {w : World} (hA : RowL w A n c l) (hB : RowL w B m d u) (hl : Ok 0 l) (hu : Ok 0 u) (hn : n ≤ 3000000) (hm : m ≤ 3000000) (hj : joinE l = joinE u) :
    Calls Try.prog 19 #[.slice A n c, .slice B m d] w fun e w' => e = .returned (.bool true) ∧ Below w.heap.size w w' := by
  have HA := Lib.hid hA
  have HB := Lib.hid hB
  have HC1 := fun w (h : RowL w A n c l) => Lib.hid (check_ok h hl)
  have HC2 := fun w (h : RowL w B m d u) => Lib.hid (check_ok h hu)
  have HJ1 := fun w (h : RowL w A n c l) => Lib.hid (joined_any h hl hn)
  have HJ2 := fun w (h : RowL w B m d u) => Lib.hid (joined_any h hu hm)
  rw [← hj] at HJ2
  have HLJ : Hid ((joinE l).length ≤ 3000000) := by have := join_len l; have := hA.len; show _ ≤ _; omega
  clear hA hB hl hu hj
  go_enter Try.func19, Try.ntmps19
  go_wp2_with fail
  refine (HC1 w HA.out).out.mono ?_
  rintro e w1 ⟨rfl, hb⟩
  have L1 := Lib.hid hb
  clear hb
  go_wp2_with fail
  refine (HC2 w1 (HB.out.below L1.out)).out.mono ?_
  rintro e w2 ⟨rfl, hb⟩
  have L2 := Lib.hid (L1.out.trans (hb.mono L1.out.size))
  clear hb
  go_wp2_with fail
  refine (HJ1 w2 (HA.out.below L2.out)).out.mono ?_
  rintro e w3 ⟨⟨B1, m1, d1, rfl, hO⟩, hb⟩
  have L3 := Lib.hid (L2.out.trans (hb.mono L2.out.size))
  have E1 := hO.2
  have R3 := Lib.hid (OwnsL.row hO (by have := HLJ.out; omega))
  clear hb hO
  go_wp2_with fail
  refine (HJ2 w3 (HB.out.below L3.out)).out.mono ?_
  rintro e w4 ⟨⟨B2, m2, d2, rfl, hO⟩, hb⟩
  have L4 := Lib.hid (L3.out.trans (hb.mono L3.out.size))
  obtain rfl : m1 = m2 := by have := hO.2; omega
  have R4 := Lib.hid (OwnsL.row hO (by have := HLJ.out; omega))
  have R34 := Lib.hid (R3.out.below hb)
  clear hb hO E1
  go_wp2_with fail
  refine (sequal_any R34.out R4.out).mono ?_
  rintro e w5 ⟨rfl, hb⟩
  have L5 := Lib.hid (L4.out.trans (hb.mono L4.out.size))
  clear hb
  go_wp2_with fail
  go_ret
  exact ⟨rfl, L5.out⟩
end Ext
end Go.Proofs.Ythahemffeagifaa
