/-
  THE STATEMENT ExtentAts: a block's extent is that of the part of it alone; cut away, it has none, and every other block has what it had. For every input. (Written by gen_extlaws.py.)
-/
import Derived.Test.YthahemffeagifaaExtLaw
import Derived.BigQuiet
namespace Go.Proofs.Ythahemffeagifaa
open Go.RowKit Mem
namespace Ext

theorem range_one {k : Int} (h0 : 0 ≤ k) (h1 : k < 1099511627776) : rangeB k 1 = true := rangeB_iff.2 ⟨h0, by omega, by omega⟩
theorem atP_nil {l : List Ex} {k : Int} (hr : rangeB k 1 = true) (h : clips k (k + 1) l = []) : atP l k = none := by rw [atP_ok hr, h]; rfl
theorem atP_cons {l : List Ex} {k : Int} {x : Ex} (hr : rangeB k 1 = true) (h : clips k (k + 1) l = [x]) : atP l k = some x := by rw [atP_ok hr, h]; rfl

set_option maxRecDepth 100000 in
set_option maxHeartbeats 25600000 in
theorem ats_walk {A : Option Addr} {n c : Nat} {l : List Ex} {w : World} (hA : RowL w A n c l) (k m o : Int) (hm : m ≤ 9223372036854775807) (ho : o ≤ 9223372036854775807) :
    Calls Try.prog 7 #[.slice A n c, .int .i64 k, .int .i64 m, .int .i64 o] w fun en w' => en = .returned (.bool true) ∧ Below w.heap.size w w' := by
  have HA := Lib.hid hA
  have hbig := hA.big
  clear hA
  go_enter Try.func7, Try.ntmps7
  go_wp2_with fail
  refine (live_any w).mono ?_
  rintro en w2 ⟨rfl, hb⟩
  have L2 := Lib.hid hb
  clear hb
  have HF := fun w : World => Lib.hid (few1 (w := w) A n c l)
  go_wp2_with fail
  refine (HF w2).out.mono ?_
  rintro en w3 ⟨rfl, hw⟩
  have L3 : Hid (Below w.heap.size w w3) := by show Below _ _ _; rw [hw]; exact L2.out.alloc L2.out.size _
  clear hw HF
  have HC := Lib.hid (refCheck_any (HA.out.below L3.out))
  rcases e1 : decide (n ≤ 300)
  · go_wp2_with fail
    go_ret
    exact ⟨rfl, L3.out⟩
  · have hn : n ≤ 300 := of_decide_eq_true e1
    clear e1
    rcases e2 : okE l
    · rw [e2] at HC
      have he : errOf false = 1 := rfl
      rw [he] at HC
      go_wp2_with fail
      refine HC.out.mono ?_
      rintro en w4 ⟨rfl, hb⟩
      have L4 := Lib.hid (L3.out.trans (hb.mono L3.out.size))
      clear hb
      go_wp2_with fail
      go_ret
      exact ⟨rfl, L4.out⟩
    · rw [e2] at HC
      have HOK := Lib.hid (okE_iff.1 e2)
      have he0 : errOf true = 0 := rfl
      have he1 : errOf false = 1 := rfl
      rw [he0] at HC
      go_wp2_with fail
      refine HC.out.mono ?_
      rintro en w4 ⟨rfl, hb⟩
      have L4 := Lib.hid (L3.out.trans (hb.mono L3.out.size))
      clear hb HC e2
      rcases e3 : decide (k < 0)
      · rcases e4 : decide (1099511627776 ≤ k)
        · have hk0 : 0 ≤ k := by have := of_decide_eq_false e3; omega
          have hk1 : k < 1099511627776 := by have := of_decide_eq_false e4; omega
          have hr := range_one hk0 hk1
          have HR1 := Lib.hid hr
          have HK := Lib.hid (And.intro hk0 hk1)
          have HAT := Lib.hid (at_any (HA.out.below L4.out) HOK.out (by omega) k)
          have HP := fun w (h : RowL w A n c l) => Lib.hid (part_any h HOK.out (by omega) k 1 (by omega))
          have HG := fun w (h : RowL w A n c l) => Lib.hid (gaps_any h HOK.out (by omega) k 1 (by omega))
          have HU := fun w (h : RowL w A n c l) => Lib.hid (cut_list h HOK.out (by omega) k m hm)
          rw [hr, he0] at HP HG
          simp only [cond_true] at HP HG
          clear hr hk0 hk1
          rcases one_clip (k := k) HOK.out with hP | ⟨x, hP, hx1, hx2⟩
          · have HAN := Lib.hid (atP_nil HR1.out hP)
            have HGL := Lib.hid (gaps_none l k hP)
            rw [HAN.out] at HAT
            rw [hP] at HP
            clear hP
            go_wp2_with fail
            refine (HAT.out).mono ?_
            rintro en w5 ⟨rfl, hb⟩
            have L5 := Lib.hid (L4.out.trans (hb.mono L4.out.size))
            clear hb
            simp only [xvO, Option.isSome_none]
            have L6 : Hid (Below w.heap.size w (w5.alloc (.cells #[.int .i64 0, .int .i64 0, .int .i64 0, .int .i64 0, .int .i64 0] 28))) := L5.out.alloc L5.out.size _
            go_upto_region 5 with fail
            generalize w5.alloc (.cells #[.int .i64 0, .int .i64 0, .int .i64 0, .int .i64 0, .int .i64 0] 28) = w6 at *
            go_wp2_with fail
            refine ((HP w6 (HA.out.below L6.out)).out).mono ?_
            rintro en w7 ⟨⟨P1, p, pd, rfl, hO⟩, hb⟩
            have L7 := Lib.hid (L6.out.trans (hb.mono L6.out.size))
            obtain rfl : p = 0 := hO.2.symm
            clear hO
            clear hb
            go_wp2_with fail
            refine ((HG w7 (HA.out.below L7.out)).out).mono ?_
            rintro en w8 ⟨⟨G1, q, qd, rfl, hO⟩, hb⟩
            have L8 := Lib.hid (L7.out.trans (hb.mono L7.out.size))
            obtain rfl : q = 1 := by have := hO.2; have := HGL.out; omega
            clear hO
            clear hb
            go_upto_region 7 with fail
            refine wp_region_held_drew (S := fun _ => True) (by kernel_rfl) trivial (fun hHeld => ?_)
            have L9 := Lib.hid L8.out.drew
            generalize w8.drew = w9 at *
            (first | (refine Reg.take 0 (v := ?_) rfl (by kernel_rfl) (by kernel_rfl) (by kernel_rfl) (fun _ _ _ h => h) (Or.inl ⟨by rfl, ?_⟩) (by assumption) ?_; rotate_left; (focus ((intro W hSW); (try dsimp only at hSW); (try go_split_ands); go_simp; (try (with_reducible rfl)); done))) | (refine Reg.take 0 (v := undef) rfl (by kernel_rfl) (by kernel_rfl) (by kernel_rfl) (fun _ _ _ h => h) (Or.inr ⟨by rfl, rfl⟩) (by assumption) ?_))
            (try simp only [Act.put, List.setIfInBounds_toArray, List.set_cons_zero, List.set_cons_succ])
            (first | (refine Reg.take 1 (v := ?_) rfl (by kernel_rfl) (by kernel_rfl) (by kernel_rfl) (fun _ _ _ h => h) (Or.inl ⟨by rfl, ?_⟩) (by assumption) ?_; rotate_left; (focus ((intro W hSW); (try dsimp only at hSW); (try go_split_ands); go_simp; (try (with_reducible rfl)); done))) | (refine Reg.take 1 (v := undef) rfl (by kernel_rfl) (by kernel_rfl) (by kernel_rfl) (fun _ _ _ h => h) (Or.inr ⟨by rfl, rfl⟩) (by assumption) ?_))
            (try simp only [Act.put, List.setIfInBounds_toArray, List.set_cons_zero, List.set_cons_succ])
            (first | (refine Reg.take 2 (v := ?_) rfl (by kernel_rfl) (by kernel_rfl) (by kernel_rfl) (fun _ _ _ h => h) (Or.inl ⟨by rfl, ?_⟩) (by assumption) ?_; rotate_left; (focus ((intro W hSW); (try dsimp only at hSW); (try go_split_ands); go_simp; (try (with_reducible rfl)); done))) | (refine Reg.take 2 (v := undef) rfl (by kernel_rfl) (by kernel_rfl) (by kernel_rfl) (fun _ _ _ h => h) (Or.inr ⟨by rfl, rfl⟩) (by assumption) ?_))
            (try simp only [Act.put, List.setIfInBounds_toArray, List.set_cons_zero, List.set_cons_succ])
            (first | (refine Reg.take 3 (v := ?_) rfl (by kernel_rfl) (by kernel_rfl) (by kernel_rfl) (fun _ _ _ h => h) (Or.inl ⟨by rfl, ?_⟩) (by assumption) ?_; rotate_left; (focus ((intro W hSW); (try dsimp only at hSW); (try go_split_ands); go_simp; (try (with_reducible rfl)); done))) | (refine Reg.take 3 (v := undef) rfl (by kernel_rfl) (by kernel_rfl) (by kernel_rfl) (fun _ _ _ h => h) (Or.inr ⟨by rfl, rfl⟩) (by assumption) ?_))
            (try simp only [Act.put, List.setIfInBounds_toArray, List.set_cons_zero, List.set_cons_succ])
            (first | (refine Reg.take 4 (v := ?_) rfl (by kernel_rfl) (by kernel_rfl) (by kernel_rfl) (fun _ _ _ h => h) (Or.inl ⟨by rfl, ?_⟩) (by assumption) ?_; rotate_left; (focus ((intro W hSW); (try dsimp only at hSW); (try go_split_ands); go_simp; (try (with_reducible rfl)); done))) | (refine Reg.take 4 (v := undef) rfl (by kernel_rfl) (by kernel_rfl) (by kernel_rfl) (fun _ _ _ h => h) (Or.inr ⟨by rfl, rfl⟩) (by assumption) ?_))
            (try simp only [Act.put, List.setIfInBounds_toArray, List.set_cons_zero, List.set_cons_succ])
            (first | (refine Reg.take 5 (v := ?_) rfl (by kernel_rfl) (by kernel_rfl) (by kernel_rfl) (fun _ _ _ h => h) (Or.inl ⟨by rfl, ?_⟩) (by assumption) ?_; rotate_left; (focus ((intro W hSW); (try dsimp only at hSW); (try go_split_ands); go_simp; (try (with_reducible rfl)); done))) | (refine Reg.take 5 (v := undef) rfl (by kernel_rfl) (by kernel_rfl) (by kernel_rfl) (fun _ _ _ h => h) (Or.inr ⟨by rfl, rfl⟩) (by assumption) ?_))
            (try simp only [Act.put, List.setIfInBounds_toArray, List.set_cons_zero, List.set_cons_succ])
            (first | (refine Reg.take 6 (v := ?_) rfl (by kernel_rfl) (by kernel_rfl) (by kernel_rfl) (fun _ _ _ h => h) (Or.inl ⟨by rfl, ?_⟩) (by assumption) ?_; rotate_left; (focus ((intro W hSW); (try dsimp only at hSW); (try go_split_ands); go_simp; (try (with_reducible rfl)); done))) | (refine Reg.take 6 (v := undef) rfl (by kernel_rfl) (by kernel_rfl) (by kernel_rfl) (fun _ _ _ h => h) (Or.inr ⟨by rfl, rfl⟩) (by assumption) ?_))
            (try simp only [Act.put, List.setIfInBounds_toArray, List.set_cons_zero, List.set_cons_succ])
            (first | (refine Reg.take 7 (v := ?_) rfl (by kernel_rfl) (by kernel_rfl) (by kernel_rfl) (fun _ _ _ h => h) (Or.inl ⟨by rfl, ?_⟩) (by assumption) ?_; rotate_left; (focus ((intro W hSW); (try dsimp only at hSW); (try go_split_ands); go_simp; (try (with_reducible rfl)); done))) | (refine Reg.take 7 (v := undef) rfl (by kernel_rfl) (by kernel_rfl) (by kernel_rfl) (fun _ _ _ h => h) (Or.inr ⟨by rfl, rfl⟩) (by assumption) ?_))
            (try simp only [Act.put, List.setIfInBounds_toArray, List.set_cons_zero, List.set_cons_succ])
            (first | (refine Reg.take 8 (v := ?_) rfl (by kernel_rfl) (by kernel_rfl) (by kernel_rfl) (fun _ _ _ h => h) (Or.inl ⟨by rfl, ?_⟩) (by assumption) ?_; rotate_left; (focus ((intro W hSW); (try dsimp only at hSW); (try go_split_ands); go_simp; (try (with_reducible rfl)); done))) | (refine Reg.take 8 (v := undef) rfl (by kernel_rfl) (by kernel_rfl) (by kernel_rfl) (fun _ _ _ h => h) (Or.inr ⟨by rfl, rfl⟩) (by assumption) ?_))
            (try simp only [Act.put, List.setIfInBounds_toArray, List.set_cons_zero, List.set_cons_succ])
            (first | (refine Reg.take 9 (v := ?_) rfl (by kernel_rfl) (by kernel_rfl) (by kernel_rfl) (fun _ _ _ h => h) (Or.inl ⟨by rfl, ?_⟩) (by assumption) ?_; rotate_left; (focus ((intro W hSW); (try dsimp only at hSW); (try go_split_ands); go_simp; (try (with_reducible rfl)); done))) | (refine Reg.take 9 (v := undef) rfl (by kernel_rfl) (by kernel_rfl) (by kernel_rfl) (fun _ _ _ h => h) (Or.inr ⟨by rfl, rfl⟩) (by assumption) ?_))
            (try simp only [Act.put, List.setIfInBounds_toArray, List.set_cons_zero, List.set_cons_succ])
            (first | (refine Reg.take 10 (v := ?_) rfl (by kernel_rfl) (by kernel_rfl) (by kernel_rfl) (fun _ _ _ h => h) (Or.inl ⟨by rfl, ?_⟩) (by assumption) ?_; rotate_left; (focus ((intro W hSW); (try dsimp only at hSW); (try go_split_ands); go_simp; (try (with_reducible rfl)); done))) | (refine Reg.take 10 (v := undef) rfl (by kernel_rfl) (by kernel_rfl) (by kernel_rfl) (fun _ _ _ h => h) (Or.inr ⟨by rfl, rfl⟩) (by assumption) ?_))
            (try simp only [Act.put, List.setIfInBounds_toArray, List.set_cons_zero, List.set_cons_succ])
            (first | (refine Reg.take 11 (v := ?_) rfl (by kernel_rfl) (by kernel_rfl) (by kernel_rfl) (fun _ _ _ h => h) (Or.inl ⟨by rfl, ?_⟩) (by assumption) ?_; rotate_left; (focus ((intro W hSW); (try dsimp only at hSW); (try go_split_ands); go_simp; (try (with_reducible rfl)); done))) | (refine Reg.take 11 (v := undef) rfl (by kernel_rfl) (by kernel_rfl) (by kernel_rfl) (fun _ _ _ h => h) (Or.inr ⟨by rfl, rfl⟩) (by assumption) ?_))
            (try simp only [Act.put, List.setIfInBounds_toArray, List.set_cons_zero, List.set_cons_succ])
            (first | (refine Reg.take 12 (v := ?_) rfl (by kernel_rfl) (by kernel_rfl) (by kernel_rfl) (fun _ _ _ h => h) (Or.inl ⟨by rfl, ?_⟩) (by assumption) ?_; rotate_left; (focus ((intro W hSW); (try dsimp only at hSW); (try go_split_ands); go_simp; (try (with_reducible rfl)); done))) | (refine Reg.take 12 (v := undef) rfl (by kernel_rfl) (by kernel_rfl) (by kernel_rfl) (fun _ _ _ h => h) (Or.inr ⟨by rfl, rfl⟩) (by assumption) ?_))
            (try simp only [Act.put, List.setIfInBounds_toArray, List.set_cons_zero, List.set_cons_succ])
            (first | (refine Reg.take 13 (v := ?_) rfl (by kernel_rfl) (by kernel_rfl) (by kernel_rfl) (fun _ _ _ h => h) (Or.inl ⟨by rfl, ?_⟩) (by assumption) ?_; rotate_left; (focus ((intro W hSW); (try dsimp only at hSW); (try go_split_ands); go_simp; (try (with_reducible rfl)); done))) | (refine Reg.take 13 (v := undef) rfl (by kernel_rfl) (by kernel_rfl) (by kernel_rfl) (fun _ _ _ h => h) (Or.inr ⟨by rfl, rfl⟩) (by assumption) ?_))
            (try simp only [Act.put, List.setIfInBounds_toArray, List.set_cons_zero, List.set_cons_succ])
            (first | (refine Reg.take 14 (v := ?_) rfl (by kernel_rfl) (by kernel_rfl) (by kernel_rfl) (fun _ _ _ h => h) (Or.inl ⟨by rfl, ?_⟩) (by assumption) ?_; rotate_left; (focus ((intro W hSW); (try dsimp only at hSW); (try go_split_ands); go_simp; (try (with_reducible rfl)); done))) | (refine Reg.take 14 (v := undef) rfl (by kernel_rfl) (by kernel_rfl) (by kernel_rfl) (fun _ _ _ h => h) (Or.inr ⟨by rfl, rfl⟩) (by assumption) ?_))
            (try simp only [Act.put, List.setIfInBounds_toArray, List.set_cons_zero, List.set_cons_succ])
            (first | (refine Reg.take 15 (v := ?_) rfl (by kernel_rfl) (by kernel_rfl) (by kernel_rfl) (fun _ _ _ h => h) (Or.inl ⟨by rfl, ?_⟩) (by assumption) ?_; rotate_left; (focus ((intro W hSW); (try dsimp only at hSW); (try go_split_ands); go_simp; (try (with_reducible rfl)); done))) | (refine Reg.take 15 (v := undef) rfl (by kernel_rfl) (by kernel_rfl) (by kernel_rfl) (fun _ _ _ h => h) (Or.inr ⟨by rfl, rfl⟩) (by assumption) ?_))
            (try simp only [Act.put, List.setIfInBounds_toArray, List.set_cons_zero, List.set_cons_succ])
            (first | (refine Reg.take 16 (v := ?_) rfl (by kernel_rfl) (by kernel_rfl) (by kernel_rfl) (fun _ _ _ h => h) (Or.inl ⟨by rfl, ?_⟩) (by assumption) ?_; rotate_left; (focus ((intro W hSW); (try dsimp only at hSW); (try go_split_ands); go_simp; (try (with_reducible rfl)); done))) | (refine Reg.take 16 (v := undef) rfl (by kernel_rfl) (by kernel_rfl) (by kernel_rfl) (fun _ _ _ h => h) (Or.inr ⟨by rfl, rfl⟩) (by assumption) ?_))
            (try simp only [Act.put, List.setIfInBounds_toArray, List.set_cons_zero, List.set_cons_succ])
            (first | (refine Reg.take 17 (v := ?_) rfl (by kernel_rfl) (by kernel_rfl) (by kernel_rfl) (fun _ _ _ h => h) (Or.inl ⟨by rfl, ?_⟩) (by assumption) ?_; rotate_left; (focus ((intro W hSW); (try dsimp only at hSW); (try go_split_ands); go_simp; (try (with_reducible rfl)); done))) | (refine Reg.take 17 (v := undef) rfl (by kernel_rfl) (by kernel_rfl) (by kernel_rfl) (fun _ _ _ h => h) (Or.inr ⟨by rfl, rfl⟩) (by assumption) ?_))
            (try simp only [Act.put, List.setIfInBounds_toArray, List.set_cons_zero, List.set_cons_succ])
            (first | (refine Reg.take 18 (v := ?_) rfl (by kernel_rfl) (by kernel_rfl) (by kernel_rfl) (fun _ _ _ h => h) (Or.inl ⟨by rfl, ?_⟩) (by assumption) ?_; rotate_left; (focus ((intro W hSW); (try dsimp only at hSW); (try go_split_ands); go_simp; (try (with_reducible rfl)); done))) | (refine Reg.take 18 (v := undef) rfl (by kernel_rfl) (by kernel_rfl) (by kernel_rfl) (fun _ _ _ h => h) (Or.inr ⟨by rfl, rfl⟩) (by assumption) ?_))
            (try simp only [Act.put, List.setIfInBounds_toArray, List.set_cons_zero, List.set_cons_succ])
            (first | (refine Reg.take 19 (v := ?_) rfl (by kernel_rfl) (by kernel_rfl) (by kernel_rfl) (fun _ _ _ h => h) (Or.inl ⟨by rfl, ?_⟩) (by assumption) ?_; rotate_left; (focus ((intro W hSW); (try dsimp only at hSW); (try go_split_ands); go_simp; (try (with_reducible rfl)); done))) | (refine Reg.take 19 (v := undef) rfl (by kernel_rfl) (by kernel_rfl) (by kernel_rfl) (fun _ _ _ h => h) (Or.inr ⟨by rfl, rfl⟩) (by assumption) ?_))
            (try simp only [Act.put, List.setIfInBounds_toArray, List.set_cons_zero, List.set_cons_succ])
            (first | (refine Reg.take 20 (v := ?_) rfl (by kernel_rfl) (by kernel_rfl) (by kernel_rfl) (fun _ _ _ h => h) (Or.inl ⟨by rfl, ?_⟩) (by assumption) ?_; rotate_left; (focus ((intro W hSW); (try dsimp only at hSW); (try go_split_ands); go_simp; (try (with_reducible rfl)); done))) | (refine Reg.take 20 (v := undef) rfl (by kernel_rfl) (by kernel_rfl) (by kernel_rfl) (fun _ _ _ h => h) (Or.inr ⟨by rfl, rfl⟩) (by assumption) ?_))
            (try simp only [Act.put, List.setIfInBounds_toArray, List.set_cons_zero, List.set_cons_succ])
            (first | (refine Reg.take 21 (v := ?_) rfl (by kernel_rfl) (by kernel_rfl) (by kernel_rfl) (fun _ _ _ h => h) (Or.inl ⟨by rfl, ?_⟩) (by assumption) ?_; rotate_left; (focus ((intro W hSW); (try dsimp only at hSW); (try go_split_ands); go_simp; (try (with_reducible rfl)); done))) | (refine Reg.take 21 (v := undef) rfl (by kernel_rfl) (by kernel_rfl) (by kernel_rfl) (fun _ _ _ h => h) (Or.inr ⟨by rfl, rfl⟩) (by assumption) ?_))
            (try simp only [Act.put, List.setIfInBounds_toArray, List.set_cons_zero, List.set_cons_succ])
            (first | (refine Reg.take 22 (v := ?_) rfl (by kernel_rfl) (by kernel_rfl) (by kernel_rfl) (fun _ _ _ h => h) (Or.inl ⟨by rfl, ?_⟩) (by assumption) ?_; rotate_left; (focus ((intro W hSW); (try dsimp only at hSW); (try go_split_ands); go_simp; (try (with_reducible rfl)); done))) | (refine Reg.take 22 (v := undef) rfl (by kernel_rfl) (by kernel_rfl) (by kernel_rfl) (fun _ _ _ h => h) (Or.inr ⟨by rfl, rfl⟩) (by assumption) ?_))
            (try simp only [Act.put, List.setIfInBounds_toArray, List.set_cons_zero, List.set_cons_succ])
            (first | (refine Reg.take 23 (v := ?_) rfl (by kernel_rfl) (by kernel_rfl) (by kernel_rfl) (fun _ _ _ h => h) (Or.inl ⟨by rfl, ?_⟩) (by assumption) ?_; rotate_left; (focus ((intro W hSW); (try dsimp only at hSW); (try go_split_ands); go_simp; (try (with_reducible rfl)); done))) | (refine Reg.take 23 (v := undef) rfl (by kernel_rfl) (by kernel_rfl) (by kernel_rfl) (fun _ _ _ h => h) (Or.inr ⟨by rfl, rfl⟩) (by assumption) ?_))
            (try simp only [Act.put, List.setIfInBounds_toArray, List.set_cons_zero, List.set_cons_succ])
            (first | (refine Reg.take 24 (v := ?_) rfl (by kernel_rfl) (by kernel_rfl) (by kernel_rfl) (fun _ _ _ h => h) (Or.inl ⟨by rfl, ?_⟩) (by assumption) ?_; rotate_left; (focus ((intro W hSW); (try dsimp only at hSW); (try go_split_ands); go_simp; (try (with_reducible rfl)); done))) | (refine Reg.take 24 (v := undef) rfl (by kernel_rfl) (by kernel_rfl) (by kernel_rfl) (fun _ _ _ h => h) (Or.inr ⟨by rfl, rfl⟩) (by assumption) ?_))
            (try simp only [Act.put, List.setIfInBounds_toArray, List.set_cons_zero, List.set_cons_succ])
            (first | (refine Reg.take 25 (v := ?_) rfl (by kernel_rfl) (by kernel_rfl) (by kernel_rfl) (fun _ _ _ h => h) (Or.inl ⟨by rfl, ?_⟩) (by assumption) ?_; rotate_left; (focus ((intro W hSW); (try dsimp only at hSW); (try go_split_ands); go_simp; (try (with_reducible rfl)); done))) | (refine Reg.take 25 (v := undef) rfl (by kernel_rfl) (by kernel_rfl) (by kernel_rfl) (fun _ _ _ h => h) (Or.inr ⟨by rfl, rfl⟩) (by assumption) ?_))
            (try simp only [Act.put, List.setIfInBounds_toArray, List.set_cons_zero, List.set_cons_succ])
            (first | (refine Reg.take 26 (v := ?_) rfl (by kernel_rfl) (by kernel_rfl) (by kernel_rfl) (fun _ _ _ h => h) (Or.inl ⟨by rfl, ?_⟩) (by assumption) ?_; rotate_left; (focus ((intro W hSW); (try dsimp only at hSW); (try go_split_ands); go_simp; (try (with_reducible rfl)); done))) | (refine Reg.take 26 (v := undef) rfl (by kernel_rfl) (by kernel_rfl) (by kernel_rfl) (fun _ _ _ h => h) (Or.inr ⟨by rfl, rfl⟩) (by assumption) ?_))
            (try simp only [Act.put, List.setIfInBounds_toArray, List.set_cons_zero, List.set_cons_succ])
            (first | (refine Reg.take 27 (v := ?_) rfl (by kernel_rfl) (by kernel_rfl) (by kernel_rfl) (fun _ _ _ h => h) (Or.inl ⟨by rfl, ?_⟩) (by assumption) ?_; rotate_left; (focus ((intro W hSW); (try dsimp only at hSW); (try go_split_ands); go_simp; (try (with_reducible rfl)); done))) | (refine Reg.take 27 (v := undef) rfl (by kernel_rfl) (by kernel_rfl) (by kernel_rfl) (fun _ _ _ h => h) (Or.inr ⟨by rfl, rfl⟩) (by assumption) ?_))
            (try simp only [Act.put, List.setIfInBounds_toArray, List.set_cons_zero, List.set_cons_succ])
            (first | (refine Reg.take 28 (v := ?_) rfl (by kernel_rfl) (by kernel_rfl) (by kernel_rfl) (fun _ _ _ h => h) (Or.inl ⟨by rfl, ?_⟩) (by assumption) ?_; rotate_left; (focus ((intro W hSW); (try dsimp only at hSW); (try go_split_ands); go_simp; (try (with_reducible rfl)); done))) | (refine Reg.take 28 (v := undef) rfl (by kernel_rfl) (by kernel_rfl) (by kernel_rfl) (fun _ _ _ h => h) (Or.inr ⟨by rfl, rfl⟩) (by assumption) ?_))
            (try simp only [Act.put, List.setIfInBounds_toArray, List.set_cons_zero, List.set_cons_succ])
            (first | (refine Reg.take 29 (v := ?_) rfl (by kernel_rfl) (by kernel_rfl) (by kernel_rfl) (fun _ _ _ h => h) (Or.inl ⟨by rfl, ?_⟩) (by assumption) ?_; rotate_left; (focus ((intro W hSW); (try dsimp only at hSW); (try go_split_ands); go_simp; (try (with_reducible rfl)); done))) | (refine Reg.take 29 (v := undef) rfl (by kernel_rfl) (by kernel_rfl) (by kernel_rfl) (fun _ _ _ h => h) (Or.inr ⟨by rfl, rfl⟩) (by assumption) ?_))
            (try simp only [Act.put, List.setIfInBounds_toArray, List.set_cons_zero, List.set_cons_succ])
            (first | (refine Reg.take 30 (v := ?_) rfl (by kernel_rfl) (by kernel_rfl) (by kernel_rfl) (fun _ _ _ h => h) (Or.inl ⟨by rfl, ?_⟩) (by assumption) ?_; rotate_left; (focus ((intro W hSW); (try dsimp only at hSW); (try go_split_ands); go_simp; (try (with_reducible rfl)); done))) | (refine Reg.take 30 (v := undef) rfl (by kernel_rfl) (by kernel_rfl) (by kernel_rfl) (fun _ _ _ h => h) (Or.inr ⟨by rfl, rfl⟩) (by assumption) ?_))
            (try simp only [Act.put, List.setIfInBounds_toArray, List.set_cons_zero, List.set_cons_succ])
            refine wpAnyH_done (by kernel_rfl) ?_ _
            clear hHeld
            go_wp2_with fail
            refine (HU w9 (HA.out.below L9.out)).out.mono ?_
            rintro en w10 ⟨⟨U1, u, ud, rfl, hO⟩, hb⟩
            have L10 := Lib.hid (L9.out.trans (hb.mono L9.out.size))
            have OU := Lib.hid hO
            clear hb hO
            rcases er : rangeB k m
            · simp only [he1]
              go_wp2_with fail
              go_ret
              exact ⟨rfl, L10.out⟩
            · have HRG := Lib.hid (rangeB_iff.1 er)
              have HUO := Lib.hid (cut_ok HOK.out HRG.out.1 HRG.out.2.1)
              have HUT := Lib.hid (fun j => cut_tell HOK.out HRG.out.1 HRG.out.2.1 j)
              have HLU : Hid ((cutL l k m).length ≤ 301) := by have := cut_len HOK.out HRG.out.1 HRG.out.2.1; have := HA.out.len; show _ ≤ _; omega
              have OU2 : Hid (OwnsL w9.heap.size w10 (.slice U1 u ud) u (cutL l k m)) := by have h := OU.out; rw [er] at h; exact h
              have EU : u ≤ 301 := by have := OU2.out.2; have := HLU.out; omega
              have RU10 := Lib.hid (OwnsL.row OU2.out (by omega))
              have HN1 := Lib.hid (tell_none_at HUO.out (show tell (cutL l k m) k = none by rw [HUT.out]; exact if_pos ⟨by omega, by have := HRG.out; omega⟩))
              have HATU := Lib.hid (at_any RU10.out HUO.out (by omega) k)
              rw [HN1.out] at HATU
              simp only [he0]
              clear OU er
              go_wp2_with fail
              refine (HATU.out).mono ?_
              rintro en w11 ⟨rfl, hb⟩
              have L11 := Lib.hid (L10.out.trans (hb.mono L10.out.size))
              have RU11 := Lib.hid (RU10.out.below hb)
              clear hb
              simp only [xvO, Option.isSome_none]
              have L12 : Hid (Below w.heap.size w (w11.alloc (.cells #[.int .i64 0, .int .i64 0, .int .i64 0, .int .i64 0, .int .i64 0] 28))) := L11.out.alloc L11.out.size _
              have RU12 := Lib.hid (RowS.alloc RU11.out (.cells #[.int .i64 0, .int .i64 0, .int .i64 0, .int .i64 0, .int .i64 0] 28))
              go_upto_region 13 with fail
              generalize w11.alloc (.cells #[.int .i64 0, .int .i64 0, .int .i64 0, .int .i64 0, .int .i64 0] 28) = w12 at *
              rcases f1 : decide (k ≤ o)
              · have HTO : Hid (tell (cutL l k m) o = tell l o) := by show _ = _; rw [HUT.out]; exact if_neg (by have := of_decide_eq_false f1; omega)
                have HX1 := Lib.hid (law_at RU12.out HUO.out (by omega) o)
                rw [HTO.out] at HX1
                have HX2 := fun w (h : RowL w A n c l) => Lib.hid (law_at h HOK.out (by omega) o)
                obtain ⟨vb, vv, vz, vo, hV⟩ := bv_form (tell l o)
                rw [hV] at HX1 HX2
                have heq := fun w => blk_eql vb vv vz vo w
                have hgd := blk_guard
                clear hV
                go_wp2_with fail
                refine (HX1.out).mono ?_
                rintro en w13 ⟨rfl, hb⟩
                have L13 := Lib.hid (L12.out.trans (hb.mono L12.out.size))
                clear hb
                go_wp2_with fail
                refine ((HX2 w13 (HA.out.below L13.out)).out).mono ?_
                rintro en w14 ⟨rfl, hb⟩
                have L14 := Lib.hid (L13.out.trans (hb.mono L13.out.size))
                clear hb
                go_wp2_with fail
                go_ret
                exact ⟨rfl, L14.out⟩
              · have hw : IntKind.i64.wrap (o - k) = o - k := by have := of_decide_eq_true f1; have := HK.out; rw [IntKind.wrap_i64]; omega
                rcases f2 : decide (o - k < m)
                · have HTO : Hid (tell (cutL l k m) o = tell l o) := by show _ = _; rw [HUT.out]; exact if_neg (by have := of_decide_eq_false f2; omega)
                  have HX1 := Lib.hid (law_at RU12.out HUO.out (by omega) o)
                  rw [HTO.out] at HX1
                  have HX2 := fun w (h : RowL w A n c l) => Lib.hid (law_at h HOK.out (by omega) o)
                  obtain ⟨vb, vv, vz, vo, hV⟩ := bv_form (tell l o)
                  rw [hV] at HX1 HX2
                  have heq := fun w => blk_eql vb vv vz vo w
                  have hgd := blk_guard
                  clear hV
                  go_wp2_with fail
                  refine (HX1.out).mono ?_
                  rintro en w13 ⟨rfl, hb⟩
                  have L13 := Lib.hid (L12.out.trans (hb.mono L12.out.size))
                  clear hb
                  go_wp2_with fail
                  refine ((HX2 w13 (HA.out.below L13.out)).out).mono ?_
                  rintro en w14 ⟨rfl, hb⟩
                  have L14 := Lib.hid (L13.out.trans (hb.mono L13.out.size))
                  clear hb
                  go_wp2_with fail
                  go_ret
                  exact ⟨rfl, L14.out⟩
                · have HTN : Hid (tell (cutL l k m) o = none) := by show _ = _; rw [HUT.out]; exact if_pos ⟨of_decide_eq_true f1, by have := of_decide_eq_true f2; omega⟩
                  have HX1 := Lib.hid (law_at RU12.out HUO.out (by omega) o)
                  rw [HTN.out] at HX1
                  have hbv : bv none = .agg #[.bool false, .int .i64 0, .int .i64 0, .int .i64 0] := rfl
                  rw [hbv] at HX1
                  have hfld := fun w => run_is false 0 0 0 w
                  go_wp2_with fail
                  refine (HX1.out).mono ?_
                  rintro en w13 ⟨rfl, hb⟩
                  have L13 := Lib.hid (L12.out.trans (hb.mono L12.out.size))
                  clear hb
                  go_wp2_with fail
                  go_ret
                  exact ⟨rfl, L13.out⟩
          · skip
            have HAN := Lib.hid (atP_cons HR1.out hP)
            have HGL : Hid ((gapsP l k 1).length = 0) := by show _ = _; rw [gaps_one l k x hP hx1 hx2]; rfl
            rw [HAN.out] at HAT
            rw [hP] at HP
            clear hP hx1 hx2
            go_wp2_with fail
            refine (HAT.out).mono ?_
            rintro en w5 ⟨rfl, hb⟩
            have L5 := Lib.hid (L4.out.trans (hb.mono L4.out.size))
            clear hb
            simp only [xvO, Option.isSome_some]
            have L6 : Hid (Below w.heap.size w (w5.alloc (.cells #[.int .i64 x.lba, .int .i64 x.n, .int .i64 x.ver, .int .i64 x.zone, .int .i64 x.off] 28))) := L5.out.alloc L5.out.size _
            have X6 : Hid (LBox (w5.alloc (.cells #[.int .i64 x.lba, .int .i64 x.n, .int .i64 x.ver, .int .i64 x.zone, .int .i64 x.off] 28)) w5.heap.size x) := Cells.new _ _ _
            go_upto_region 5 with fail
            generalize w5.alloc (.cells #[.int .i64 x.lba, .int .i64 x.n, .int .i64 x.ver, .int .i64 x.zone, .int .i64 x.off] 28) = w6 at *
            go_wp2_with fail
            refine ((HP w6 (HA.out.below L6.out)).out).mono ?_
            rintro en w7 ⟨⟨P1, p, pd, rfl, hO⟩, hb⟩
            have L7 := Lib.hid (L6.out.trans (hb.mono L6.out.size))
            obtain rfl : p = 1 := hO.2.symm
            have OP7 := Lib.hid hO
            have X7 := Lib.hid (Cells.below X6.out hb)
            clear hO
            clear hb
            go_wp2_with fail
            refine ((HG w7 (HA.out.below L7.out)).out).mono ?_
            rintro en w8 ⟨⟨G1, q, qd, rfl, hO⟩, hb⟩
            have L8 := Lib.hid (L7.out.trans (hb.mono L7.out.size))
            obtain rfl : q = 0 := by have := hO.2; have := HGL.out; omega
            have OP8 := Lib.hid (OwnsL.below OP7.out hb)
            have X8 := Lib.hid (Cells.below X7.out hb)
            clear hO
            clear hb
            obtain ⟨g, hB, -, -, ⟨q0, q1, q2, q3, q4⟩, -, -⟩ := OwnsL.put (k := 0) (x := x) OP8.out rfl
            subst hB
            simp only [Nat.zero_mul, Nat.zero_add] at q0 q1 q2 q3 q4
            obtain ⟨n0, n1, n2, n3, n4⟩ := LBox.cells X8.out
            have hne := fun w => ext_neq x w
            have hgd := ext_guard
            go_upto_region 7 with fail
            refine wp_region_held_drew (S := fun W => (W.cell? ⟨g, 0, none⟩ = some (.int .i64 x.lba) ∧ W.cell? ⟨g, 1, none⟩ = some (.int .i64 x.n) ∧ W.cell? ⟨g, 2, none⟩ = some (.int .i64 x.ver) ∧ W.cell? ⟨g, 3, none⟩ = some (.int .i64 x.zone) ∧ W.cell? ⟨g, 4, none⟩ = some (.int .i64 x.off)) ∧ (W.cell? ⟨w5.heap.size, 0, none⟩ = some (.int .i64 x.lba) ∧ W.cell? ⟨w5.heap.size, 1, none⟩ = some (.int .i64 x.n) ∧ W.cell? ⟨w5.heap.size, 2, none⟩ = some (.int .i64 x.ver) ∧ W.cell? ⟨w5.heap.size, 3, none⟩ = some (.int .i64 x.zone) ∧ W.cell? ⟨w5.heap.size, 4, none⟩ = some (.int .i64 x.off))) (by kernel_rfl) ⟨⟨q0, q1, q2, q3, q4⟩, n0, n1, n2, n3, n4⟩ (fun hHeld => ?_)
            have L9 := Lib.hid L8.out.drew
            generalize w8.drew = w9 at *
            (first | (refine Reg.take 0 (v := ?_) rfl (by kernel_rfl) (by kernel_rfl) (by kernel_rfl) (fun _ _ _ h => h) (Or.inl ⟨by rfl, ?_⟩) (by assumption) ?_; rotate_left; (focus ((intro W hSW); (try dsimp only at hSW); (try go_split_ands); go_simp; (try (with_reducible rfl)); done))) | (refine Reg.take 0 (v := undef) rfl (by kernel_rfl) (by kernel_rfl) (by kernel_rfl) (fun _ _ _ h => h) (Or.inr ⟨by rfl, rfl⟩) (by assumption) ?_))
            (try simp only [Act.put, List.setIfInBounds_toArray, List.set_cons_zero, List.set_cons_succ])
            (first | (refine Reg.take 1 (v := ?_) rfl (by kernel_rfl) (by kernel_rfl) (by kernel_rfl) (fun _ _ _ h => h) (Or.inl ⟨by rfl, ?_⟩) (by assumption) ?_; rotate_left; (focus ((intro W hSW); (try dsimp only at hSW); (try go_split_ands); go_simp; (try (with_reducible rfl)); done))) | (refine Reg.take 1 (v := undef) rfl (by kernel_rfl) (by kernel_rfl) (by kernel_rfl) (fun _ _ _ h => h) (Or.inr ⟨by rfl, rfl⟩) (by assumption) ?_))
            (try simp only [Act.put, List.setIfInBounds_toArray, List.set_cons_zero, List.set_cons_succ])
            (first | (refine Reg.take 2 (v := ?_) rfl (by kernel_rfl) (by kernel_rfl) (by kernel_rfl) (fun _ _ _ h => h) (Or.inl ⟨by rfl, ?_⟩) (by assumption) ?_; rotate_left; (focus ((intro W hSW); (try dsimp only at hSW); (try go_split_ands); go_simp; (try (with_reducible rfl)); done))) | (refine Reg.take 2 (v := undef) rfl (by kernel_rfl) (by kernel_rfl) (by kernel_rfl) (fun _ _ _ h => h) (Or.inr ⟨by rfl, rfl⟩) (by assumption) ?_))
            (try simp only [Act.put, List.setIfInBounds_toArray, List.set_cons_zero, List.set_cons_succ])
            (first | (refine Reg.take 3 (v := ?_) rfl (by kernel_rfl) (by kernel_rfl) (by kernel_rfl) (fun _ _ _ h => h) (Or.inl ⟨by rfl, ?_⟩) (by assumption) ?_; rotate_left; (focus ((intro W hSW); (try dsimp only at hSW); (try go_split_ands); go_simp; (try (with_reducible rfl)); done))) | (refine Reg.take 3 (v := undef) rfl (by kernel_rfl) (by kernel_rfl) (by kernel_rfl) (fun _ _ _ h => h) (Or.inr ⟨by rfl, rfl⟩) (by assumption) ?_))
            (try simp only [Act.put, List.setIfInBounds_toArray, List.set_cons_zero, List.set_cons_succ])
            (first | (refine Reg.take 4 (v := ?_) rfl (by kernel_rfl) (by kernel_rfl) (by kernel_rfl) (fun _ _ _ h => h) (Or.inl ⟨by rfl, ?_⟩) (by assumption) ?_; rotate_left; (focus ((intro W hSW); (try dsimp only at hSW); (try go_split_ands); go_simp; (try (with_reducible rfl)); done))) | (refine Reg.take 4 (v := undef) rfl (by kernel_rfl) (by kernel_rfl) (by kernel_rfl) (fun _ _ _ h => h) (Or.inr ⟨by rfl, rfl⟩) (by assumption) ?_))
            (try simp only [Act.put, List.setIfInBounds_toArray, List.set_cons_zero, List.set_cons_succ])
            (first | (refine Reg.take 5 (v := ?_) rfl (by kernel_rfl) (by kernel_rfl) (by kernel_rfl) (fun _ _ _ h => h) (Or.inl ⟨by rfl, ?_⟩) (by assumption) ?_; rotate_left; (focus ((intro W hSW); (try dsimp only at hSW); (try go_split_ands); go_simp; (try (with_reducible rfl)); done))) | (refine Reg.take 5 (v := undef) rfl (by kernel_rfl) (by kernel_rfl) (by kernel_rfl) (fun _ _ _ h => h) (Or.inr ⟨by rfl, rfl⟩) (by assumption) ?_))
            (try simp only [Act.put, List.setIfInBounds_toArray, List.set_cons_zero, List.set_cons_succ])
            (first | (refine Reg.take 6 (v := ?_) rfl (by kernel_rfl) (by kernel_rfl) (by kernel_rfl) (fun _ _ _ h => h) (Or.inl ⟨by rfl, ?_⟩) (by assumption) ?_; rotate_left; (focus ((intro W hSW); (try dsimp only at hSW); (try go_split_ands); go_simp; (try (with_reducible rfl)); done))) | (refine Reg.take 6 (v := undef) rfl (by kernel_rfl) (by kernel_rfl) (by kernel_rfl) (fun _ _ _ h => h) (Or.inr ⟨by rfl, rfl⟩) (by assumption) ?_))
            (try simp only [Act.put, List.setIfInBounds_toArray, List.set_cons_zero, List.set_cons_succ])
            (first | (refine Reg.take 7 (v := ?_) rfl (by kernel_rfl) (by kernel_rfl) (by kernel_rfl) (fun _ _ _ h => h) (Or.inl ⟨by rfl, ?_⟩) (by assumption) ?_; rotate_left; (focus ((intro W hSW); (try dsimp only at hSW); (try go_split_ands); go_simp; (try (with_reducible rfl)); done))) | (refine Reg.take 7 (v := undef) rfl (by kernel_rfl) (by kernel_rfl) (by kernel_rfl) (fun _ _ _ h => h) (Or.inr ⟨by rfl, rfl⟩) (by assumption) ?_))
            (try simp only [Act.put, List.setIfInBounds_toArray, List.set_cons_zero, List.set_cons_succ])
            (first | (refine Reg.take 8 (v := ?_) rfl (by kernel_rfl) (by kernel_rfl) (by kernel_rfl) (fun _ _ _ h => h) (Or.inl ⟨by rfl, ?_⟩) (by assumption) ?_; rotate_left; (focus ((intro W hSW); (try dsimp only at hSW); (try go_split_ands); go_simp; (try (with_reducible rfl)); done))) | (refine Reg.take 8 (v := undef) rfl (by kernel_rfl) (by kernel_rfl) (by kernel_rfl) (fun _ _ _ h => h) (Or.inr ⟨by rfl, rfl⟩) (by assumption) ?_))
            (try simp only [Act.put, List.setIfInBounds_toArray, List.set_cons_zero, List.set_cons_succ])
            (first | (refine Reg.take 9 (v := ?_) rfl (by kernel_rfl) (by kernel_rfl) (by kernel_rfl) (fun _ _ _ h => h) (Or.inl ⟨by rfl, ?_⟩) (by assumption) ?_; rotate_left; (focus ((intro W hSW); (try dsimp only at hSW); (try go_split_ands); go_simp; (try (with_reducible rfl)); done))) | (refine Reg.take 9 (v := undef) rfl (by kernel_rfl) (by kernel_rfl) (by kernel_rfl) (fun _ _ _ h => h) (Or.inr ⟨by rfl, rfl⟩) (by assumption) ?_))
            (try simp only [Act.put, List.setIfInBounds_toArray, List.set_cons_zero, List.set_cons_succ])
            (first | (refine Reg.take 10 (v := ?_) rfl (by kernel_rfl) (by kernel_rfl) (by kernel_rfl) (fun _ _ _ h => h) (Or.inl ⟨by rfl, ?_⟩) (by assumption) ?_; rotate_left; (focus ((intro W hSW); (try dsimp only at hSW); (try go_split_ands); go_simp; (try (with_reducible rfl)); done))) | (refine Reg.take 10 (v := undef) rfl (by kernel_rfl) (by kernel_rfl) (by kernel_rfl) (fun _ _ _ h => h) (Or.inr ⟨by rfl, rfl⟩) (by assumption) ?_))
            (try simp only [Act.put, List.setIfInBounds_toArray, List.set_cons_zero, List.set_cons_succ])
            (first | (refine Reg.take 11 (v := ?_) rfl (by kernel_rfl) (by kernel_rfl) (by kernel_rfl) (fun _ _ _ h => h) (Or.inl ⟨by rfl, ?_⟩) (by assumption) ?_; rotate_left; (focus ((intro W hSW); (try dsimp only at hSW); (try go_split_ands); go_simp; (try (with_reducible rfl)); done))) | (refine Reg.take 11 (v := undef) rfl (by kernel_rfl) (by kernel_rfl) (by kernel_rfl) (fun _ _ _ h => h) (Or.inr ⟨by rfl, rfl⟩) (by assumption) ?_))
            (try simp only [Act.put, List.setIfInBounds_toArray, List.set_cons_zero, List.set_cons_succ])
            (first | (refine Reg.take 12 (v := ?_) rfl (by kernel_rfl) (by kernel_rfl) (by kernel_rfl) (fun _ _ _ h => h) (Or.inl ⟨by rfl, ?_⟩) (by assumption) ?_; rotate_left; (focus ((intro W hSW); (try dsimp only at hSW); (try go_split_ands); go_simp; (try (with_reducible rfl)); done))) | (refine Reg.take 12 (v := undef) rfl (by kernel_rfl) (by kernel_rfl) (by kernel_rfl) (fun _ _ _ h => h) (Or.inr ⟨by rfl, rfl⟩) (by assumption) ?_))
            (try simp only [Act.put, List.setIfInBounds_toArray, List.set_cons_zero, List.set_cons_succ])
            (first | (refine Reg.take 13 (v := ?_) rfl (by kernel_rfl) (by kernel_rfl) (by kernel_rfl) (fun _ _ _ h => h) (Or.inl ⟨by rfl, ?_⟩) (by assumption) ?_; rotate_left; (focus ((intro W hSW); (try dsimp only at hSW); (try go_split_ands); go_simp; (try (with_reducible rfl)); done))) | (refine Reg.take 13 (v := undef) rfl (by kernel_rfl) (by kernel_rfl) (by kernel_rfl) (fun _ _ _ h => h) (Or.inr ⟨by rfl, rfl⟩) (by assumption) ?_))
            (try simp only [Act.put, List.setIfInBounds_toArray, List.set_cons_zero, List.set_cons_succ])
            (first | (refine Reg.take 14 (v := ?_) rfl (by kernel_rfl) (by kernel_rfl) (by kernel_rfl) (fun _ _ _ h => h) (Or.inl ⟨by rfl, ?_⟩) (by assumption) ?_; rotate_left; (focus ((intro W hSW); (try dsimp only at hSW); (try go_split_ands); go_simp; (try (with_reducible rfl)); done))) | (refine Reg.take 14 (v := undef) rfl (by kernel_rfl) (by kernel_rfl) (by kernel_rfl) (fun _ _ _ h => h) (Or.inr ⟨by rfl, rfl⟩) (by assumption) ?_))
            (try simp only [Act.put, List.setIfInBounds_toArray, List.set_cons_zero, List.set_cons_succ])
            (first | (refine Reg.take 15 (v := ?_) rfl (by kernel_rfl) (by kernel_rfl) (by kernel_rfl) (fun _ _ _ h => h) (Or.inl ⟨by rfl, ?_⟩) (by assumption) ?_; rotate_left; (focus ((intro W hSW); (try dsimp only at hSW); (try go_split_ands); go_simp; (try (with_reducible rfl)); done))) | (refine Reg.take 15 (v := undef) rfl (by kernel_rfl) (by kernel_rfl) (by kernel_rfl) (fun _ _ _ h => h) (Or.inr ⟨by rfl, rfl⟩) (by assumption) ?_))
            (try simp only [Act.put, List.setIfInBounds_toArray, List.set_cons_zero, List.set_cons_succ])
            (first | (refine Reg.take 16 (v := ?_) rfl (by kernel_rfl) (by kernel_rfl) (by kernel_rfl) (fun _ _ _ h => h) (Or.inl ⟨by rfl, ?_⟩) (by assumption) ?_; rotate_left; (focus ((intro W hSW); (try dsimp only at hSW); (try go_split_ands); go_simp; (try (with_reducible rfl)); done))) | (refine Reg.take 16 (v := undef) rfl (by kernel_rfl) (by kernel_rfl) (by kernel_rfl) (fun _ _ _ h => h) (Or.inr ⟨by rfl, rfl⟩) (by assumption) ?_))
            (try simp only [Act.put, List.setIfInBounds_toArray, List.set_cons_zero, List.set_cons_succ])
            (first | (refine Reg.take 17 (v := ?_) rfl (by kernel_rfl) (by kernel_rfl) (by kernel_rfl) (fun _ _ _ h => h) (Or.inl ⟨by rfl, ?_⟩) (by assumption) ?_; rotate_left; (focus ((intro W hSW); (try dsimp only at hSW); (try go_split_ands); go_simp; (try (with_reducible rfl)); done))) | (refine Reg.take 17 (v := undef) rfl (by kernel_rfl) (by kernel_rfl) (by kernel_rfl) (fun _ _ _ h => h) (Or.inr ⟨by rfl, rfl⟩) (by assumption) ?_))
            (try simp only [Act.put, List.setIfInBounds_toArray, List.set_cons_zero, List.set_cons_succ])
            (first | (refine Reg.take 18 (v := ?_) rfl (by kernel_rfl) (by kernel_rfl) (by kernel_rfl) (fun _ _ _ h => h) (Or.inl ⟨by rfl, ?_⟩) (by assumption) ?_; rotate_left; (focus ((intro W hSW); (try dsimp only at hSW); (try go_split_ands); go_simp; (try (with_reducible rfl)); done))) | (refine Reg.take 18 (v := undef) rfl (by kernel_rfl) (by kernel_rfl) (by kernel_rfl) (fun _ _ _ h => h) (Or.inr ⟨by rfl, rfl⟩) (by assumption) ?_))
            (try simp only [Act.put, List.setIfInBounds_toArray, List.set_cons_zero, List.set_cons_succ])
            (first | (refine Reg.take 19 (v := ?_) rfl (by kernel_rfl) (by kernel_rfl) (by kernel_rfl) (fun _ _ _ h => h) (Or.inl ⟨by rfl, ?_⟩) (by assumption) ?_; rotate_left; (focus ((intro W hSW); (try dsimp only at hSW); (try go_split_ands); go_simp; (try (with_reducible rfl)); done))) | (refine Reg.take 19 (v := undef) rfl (by kernel_rfl) (by kernel_rfl) (by kernel_rfl) (fun _ _ _ h => h) (Or.inr ⟨by rfl, rfl⟩) (by assumption) ?_))
            (try simp only [Act.put, List.setIfInBounds_toArray, List.set_cons_zero, List.set_cons_succ])
            (first | (refine Reg.take 20 (v := ?_) rfl (by kernel_rfl) (by kernel_rfl) (by kernel_rfl) (fun _ _ _ h => h) (Or.inl ⟨by rfl, ?_⟩) (by assumption) ?_; rotate_left; (focus ((intro W hSW); (try dsimp only at hSW); (try go_split_ands); go_simp; (try (with_reducible rfl)); done))) | (refine Reg.take 20 (v := undef) rfl (by kernel_rfl) (by kernel_rfl) (by kernel_rfl) (fun _ _ _ h => h) (Or.inr ⟨by rfl, rfl⟩) (by assumption) ?_))
            (try simp only [Act.put, List.setIfInBounds_toArray, List.set_cons_zero, List.set_cons_succ])
            (first | (refine Reg.take 21 (v := ?_) rfl (by kernel_rfl) (by kernel_rfl) (by kernel_rfl) (fun _ _ _ h => h) (Or.inl ⟨by rfl, ?_⟩) (by assumption) ?_; rotate_left; (focus ((intro W hSW); (try dsimp only at hSW); (try go_split_ands); go_simp; (try (with_reducible rfl)); done))) | (refine Reg.take 21 (v := undef) rfl (by kernel_rfl) (by kernel_rfl) (by kernel_rfl) (fun _ _ _ h => h) (Or.inr ⟨by rfl, rfl⟩) (by assumption) ?_))
            (try simp only [Act.put, List.setIfInBounds_toArray, List.set_cons_zero, List.set_cons_succ])
            (first | (refine Reg.take 22 (v := ?_) rfl (by kernel_rfl) (by kernel_rfl) (by kernel_rfl) (fun _ _ _ h => h) (Or.inl ⟨by rfl, ?_⟩) (by assumption) ?_; rotate_left; (focus ((intro W hSW); (try dsimp only at hSW); (try go_split_ands); go_simp; (try (with_reducible rfl)); done))) | (refine Reg.take 22 (v := undef) rfl (by kernel_rfl) (by kernel_rfl) (by kernel_rfl) (fun _ _ _ h => h) (Or.inr ⟨by rfl, rfl⟩) (by assumption) ?_))
            (try simp only [Act.put, List.setIfInBounds_toArray, List.set_cons_zero, List.set_cons_succ])
            (first | (refine Reg.take 23 (v := ?_) rfl (by kernel_rfl) (by kernel_rfl) (by kernel_rfl) (fun _ _ _ h => h) (Or.inl ⟨by rfl, ?_⟩) (by assumption) ?_; rotate_left; (focus ((intro W hSW); (try dsimp only at hSW); (try go_split_ands); go_simp; (try (with_reducible rfl)); done))) | (refine Reg.take 23 (v := undef) rfl (by kernel_rfl) (by kernel_rfl) (by kernel_rfl) (fun _ _ _ h => h) (Or.inr ⟨by rfl, rfl⟩) (by assumption) ?_))
            (try simp only [Act.put, List.setIfInBounds_toArray, List.set_cons_zero, List.set_cons_succ])
            (first | (refine Reg.take 24 (v := ?_) rfl (by kernel_rfl) (by kernel_rfl) (by kernel_rfl) (fun _ _ _ h => h) (Or.inl ⟨by rfl, ?_⟩) (by assumption) ?_; rotate_left; (focus ((intro W hSW); (try dsimp only at hSW); (try go_split_ands); go_simp; (try (with_reducible rfl)); done))) | (refine Reg.take 24 (v := undef) rfl (by kernel_rfl) (by kernel_rfl) (by kernel_rfl) (fun _ _ _ h => h) (Or.inr ⟨by rfl, rfl⟩) (by assumption) ?_))
            (try simp only [Act.put, List.setIfInBounds_toArray, List.set_cons_zero, List.set_cons_succ])
            (first | (refine Reg.take 25 (v := ?_) rfl (by kernel_rfl) (by kernel_rfl) (by kernel_rfl) (fun _ _ _ h => h) (Or.inl ⟨by rfl, ?_⟩) (by assumption) ?_; rotate_left; (focus ((intro W hSW); (try dsimp only at hSW); (try go_split_ands); go_simp; (try (with_reducible rfl)); done))) | (refine Reg.take 25 (v := undef) rfl (by kernel_rfl) (by kernel_rfl) (by kernel_rfl) (fun _ _ _ h => h) (Or.inr ⟨by rfl, rfl⟩) (by assumption) ?_))
            (try simp only [Act.put, List.setIfInBounds_toArray, List.set_cons_zero, List.set_cons_succ])
            (first | (refine Reg.take 26 (v := ?_) rfl (by kernel_rfl) (by kernel_rfl) (by kernel_rfl) (fun _ _ _ h => h) (Or.inl ⟨by rfl, ?_⟩) (by assumption) ?_; rotate_left; (focus ((intro W hSW); (try dsimp only at hSW); (try go_split_ands); go_simp; (try (with_reducible rfl)); done))) | (refine Reg.take 26 (v := undef) rfl (by kernel_rfl) (by kernel_rfl) (by kernel_rfl) (fun _ _ _ h => h) (Or.inr ⟨by rfl, rfl⟩) (by assumption) ?_))
            (try simp only [Act.put, List.setIfInBounds_toArray, List.set_cons_zero, List.set_cons_succ])
            (first | (refine Reg.take 27 (v := ?_) rfl (by kernel_rfl) (by kernel_rfl) (by kernel_rfl) (fun _ _ _ h => h) (Or.inl ⟨by rfl, ?_⟩) (by assumption) ?_; rotate_left; (focus ((intro W hSW); (try dsimp only at hSW); (try go_split_ands); go_simp; (try (with_reducible rfl)); done))) | (refine Reg.take 27 (v := undef) rfl (by kernel_rfl) (by kernel_rfl) (by kernel_rfl) (fun _ _ _ h => h) (Or.inr ⟨by rfl, rfl⟩) (by assumption) ?_))
            (try simp only [Act.put, List.setIfInBounds_toArray, List.set_cons_zero, List.set_cons_succ])
            (first | (refine Reg.take 28 (v := ?_) rfl (by kernel_rfl) (by kernel_rfl) (by kernel_rfl) (fun _ _ _ h => h) (Or.inl ⟨by rfl, ?_⟩) (by assumption) ?_; rotate_left; (focus ((intro W hSW); (try dsimp only at hSW); (try go_split_ands); go_simp; (try (with_reducible rfl)); done))) | (refine Reg.take 28 (v := undef) rfl (by kernel_rfl) (by kernel_rfl) (by kernel_rfl) (fun _ _ _ h => h) (Or.inr ⟨by rfl, rfl⟩) (by assumption) ?_))
            (try simp only [Act.put, List.setIfInBounds_toArray, List.set_cons_zero, List.set_cons_succ])
            (first | (refine Reg.take 29 (v := ?_) rfl (by kernel_rfl) (by kernel_rfl) (by kernel_rfl) (fun _ _ _ h => h) (Or.inl ⟨by rfl, ?_⟩) (by assumption) ?_; rotate_left; (focus ((intro W hSW); (try dsimp only at hSW); (try go_split_ands); go_simp; (try (with_reducible rfl)); done))) | (refine Reg.take 29 (v := undef) rfl (by kernel_rfl) (by kernel_rfl) (by kernel_rfl) (fun _ _ _ h => h) (Or.inr ⟨by rfl, rfl⟩) (by assumption) ?_))
            (try simp only [Act.put, List.setIfInBounds_toArray, List.set_cons_zero, List.set_cons_succ])
            (first | (refine Reg.take 30 (v := ?_) rfl (by kernel_rfl) (by kernel_rfl) (by kernel_rfl) (fun _ _ _ h => h) (Or.inl ⟨by rfl, ?_⟩) (by assumption) ?_; rotate_left; (focus ((intro W hSW); (try dsimp only at hSW); (try go_split_ands); go_simp; (try (with_reducible rfl)); done))) | (refine Reg.take 30 (v := undef) rfl (by kernel_rfl) (by kernel_rfl) (by kernel_rfl) (fun _ _ _ h => h) (Or.inr ⟨by rfl, rfl⟩) (by assumption) ?_))
            (try simp only [Act.put, List.setIfInBounds_toArray, List.set_cons_zero, List.set_cons_succ])
            refine wpAnyH_done (by kernel_rfl) ?_ _
            clear hHeld q0 q1 q2 q3 q4 n0 n1 n2 n3 n4 hne hgd OP7 OP8 X7 X8
            go_wp2_with fail
            refine (HU w9 (HA.out.below L9.out)).out.mono ?_
            rintro en w10 ⟨⟨U1, u, ud, rfl, hO⟩, hb⟩
            have L10 := Lib.hid (L9.out.trans (hb.mono L9.out.size))
            have OU := Lib.hid hO
            clear hb hO
            rcases er : rangeB k m
            · simp only [he1]
              go_wp2_with fail
              go_ret
              exact ⟨rfl, L10.out⟩
            · have HRG := Lib.hid (rangeB_iff.1 er)
              have HUO := Lib.hid (cut_ok HOK.out HRG.out.1 HRG.out.2.1)
              have HUT := Lib.hid (fun j => cut_tell HOK.out HRG.out.1 HRG.out.2.1 j)
              have HLU : Hid ((cutL l k m).length ≤ 301) := by have := cut_len HOK.out HRG.out.1 HRG.out.2.1; have := HA.out.len; show _ ≤ _; omega
              have OU2 : Hid (OwnsL w9.heap.size w10 (.slice U1 u ud) u (cutL l k m)) := by have h := OU.out; rw [er] at h; exact h
              have EU : u ≤ 301 := by have := OU2.out.2; have := HLU.out; omega
              have RU10 := Lib.hid (OwnsL.row OU2.out (by omega))
              have HN1 := Lib.hid (tell_none_at HUO.out (show tell (cutL l k m) k = none by rw [HUT.out]; exact if_pos ⟨by omega, by have := HRG.out; omega⟩))
              have HATU := Lib.hid (at_any RU10.out HUO.out (by omega) k)
              rw [HN1.out] at HATU
              simp only [he0]
              clear OU er
              go_wp2_with fail
              refine (HATU.out).mono ?_
              rintro en w11 ⟨rfl, hb⟩
              have L11 := Lib.hid (L10.out.trans (hb.mono L10.out.size))
              have RU11 := Lib.hid (RU10.out.below hb)
              clear hb
              simp only [xvO, Option.isSome_none]
              have L12 : Hid (Below w.heap.size w (w11.alloc (.cells #[.int .i64 0, .int .i64 0, .int .i64 0, .int .i64 0, .int .i64 0] 28))) := L11.out.alloc L11.out.size _
              have RU12 := Lib.hid (RowS.alloc RU11.out (.cells #[.int .i64 0, .int .i64 0, .int .i64 0, .int .i64 0, .int .i64 0] 28))
              go_upto_region 13 with fail
              generalize w11.alloc (.cells #[.int .i64 0, .int .i64 0, .int .i64 0, .int .i64 0, .int .i64 0] 28) = w12 at *
              rcases f1 : decide (k ≤ o)
              · have HTO : Hid (tell (cutL l k m) o = tell l o) := by show _ = _; rw [HUT.out]; exact if_neg (by have := of_decide_eq_false f1; omega)
                have HX1 := Lib.hid (law_at RU12.out HUO.out (by omega) o)
                rw [HTO.out] at HX1
                have HX2 := fun w (h : RowL w A n c l) => Lib.hid (law_at h HOK.out (by omega) o)
                obtain ⟨vb, vv, vz, vo, hV⟩ := bv_form (tell l o)
                rw [hV] at HX1 HX2
                have heq := fun w => blk_eql vb vv vz vo w
                have hgd := blk_guard
                clear hV
                go_wp2_with fail
                refine (HX1.out).mono ?_
                rintro en w13 ⟨rfl, hb⟩
                have L13 := Lib.hid (L12.out.trans (hb.mono L12.out.size))
                clear hb
                go_wp2_with fail
                refine ((HX2 w13 (HA.out.below L13.out)).out).mono ?_
                rintro en w14 ⟨rfl, hb⟩
                have L14 := Lib.hid (L13.out.trans (hb.mono L13.out.size))
                clear hb
                go_wp2_with fail
                go_ret
                exact ⟨rfl, L14.out⟩
              · have hw : IntKind.i64.wrap (o - k) = o - k := by have := of_decide_eq_true f1; have := HK.out; rw [IntKind.wrap_i64]; omega
                rcases f2 : decide (o - k < m)
                · have HTO : Hid (tell (cutL l k m) o = tell l o) := by show _ = _; rw [HUT.out]; exact if_neg (by have := of_decide_eq_false f2; omega)
                  have HX1 := Lib.hid (law_at RU12.out HUO.out (by omega) o)
                  rw [HTO.out] at HX1
                  have HX2 := fun w (h : RowL w A n c l) => Lib.hid (law_at h HOK.out (by omega) o)
                  obtain ⟨vb, vv, vz, vo, hV⟩ := bv_form (tell l o)
                  rw [hV] at HX1 HX2
                  have heq := fun w => blk_eql vb vv vz vo w
                  have hgd := blk_guard
                  clear hV
                  go_wp2_with fail
                  refine (HX1.out).mono ?_
                  rintro en w13 ⟨rfl, hb⟩
                  have L13 := Lib.hid (L12.out.trans (hb.mono L12.out.size))
                  clear hb
                  go_wp2_with fail
                  refine ((HX2 w13 (HA.out.below L13.out)).out).mono ?_
                  rintro en w14 ⟨rfl, hb⟩
                  have L14 := Lib.hid (L13.out.trans (hb.mono L13.out.size))
                  clear hb
                  go_wp2_with fail
                  go_ret
                  exact ⟨rfl, L14.out⟩
                · have HTN : Hid (tell (cutL l k m) o = none) := by show _ = _; rw [HUT.out]; exact if_pos ⟨of_decide_eq_true f1, by have := of_decide_eq_true f2; omega⟩
                  have HX1 := Lib.hid (law_at RU12.out HUO.out (by omega) o)
                  rw [HTN.out] at HX1
                  have hbv : bv none = .agg #[.bool false, .int .i64 0, .int .i64 0, .int .i64 0] := rfl
                  rw [hbv] at HX1
                  have hfld := fun w => run_is false 0 0 0 w
                  go_wp2_with fail
                  refine (HX1.out).mono ?_
                  rintro en w13 ⟨rfl, hb⟩
                  have L13 := Lib.hid (L12.out.trans (hb.mono L12.out.size))
                  clear hb
                  go_wp2_with fail
                  go_ret
                  exact ⟨rfl, L13.out⟩
        · go_wp2_with fail
          go_ret
          exact ⟨rfl, L4.out⟩
      · go_wp2_with fail
        go_ret
        exact ⟨rfl, L4.out⟩
end Ext
end Go.Proofs.Ythahemffeagifaa
