/-
  WALKS OVER crc'S SMALL FUNCTIONS.
-/
import Derived.Test.YtbojfiabgjaaaaaCrcWords
import Derived.Test.YtbojfiabgjaaaaaRows
import Derived.WalkKit
import Derived.LoopTactic
import Derived.Lib.Hide
import Derived.Deep.LoopGhost
namespace Go.Proofs.Ytbojfiabgjaaaaa
open Go.RowKit
namespace Crc

theorem shift_any (c : BitVec 32) (w : World) :
    Calls Try.prog 29 #[.int .u32 (v c)] w fun e w' => e = .returned (.int .u32 (v (sh c))) ∧ w = w' := by
  cases hb : c.getLsbD 0
  · have h1 : (bits .and .u32 (v c) 1 == 1) = false := by rw [low_v, hb]; rfl
    have H := Lib.hid (sh_miss c hb)
    clear hb
    go_enter Try.func29, Try.ntmps29
    go_wp2
    go_ret
    exact ⟨ret_u32 H.out, rfl⟩
  · have h1 : (bits .and .u32 (v c) 1 == 1) = true := by rw [low_v, hb]; rfl
    have H := Lib.hid (sh_hit c hb)
    clear hb
    go_enter Try.func29, Try.ntmps29
    go_wp2
    go_ret
    exact ⟨ret_u32 H.out, rfl⟩

set_option maxHeartbeats 400000 in
theorem product_any (a b : BitVec 32) (w : World) :
    Calls Try.prog 24 #[.int .u32 (v a), .int .u32 (v b)] w fun e w' => e = .returned (.int .u32 (v (prod a b))) ∧ w = w' := by
  go_enter Try.func24, Try.ntmps24
  go_wp2
  go_loop [1, 5, 7] (fun x c i => ∃ (k : Nat) (y z : BitVec 32), k ≤ 32 ∧ i = .int .i64 k ∧ x = .int .u32 (v y) ∧ c = .int .u32 (v z) ∧ prodFrom a (32 - k) y z = prod a b) (fun _ _ i => 32 - (intOf i).toNat)
  case atStart => exact ⟨0, b, 0#32, by omega, rfl, rfl, by rw [v_zero], rfl⟩
  case round =>
    obtain ⟨k, y, z, hk, rfl, rfl, rfl, hp⟩ := hrel
    have H := Lib.hid hp; clear hp
    by_cases hlt : k < 32
    · have B := Lib.hid (bit_v a k hlt)
      have S : Hid (prodFrom a (32 - k) y z = prodFrom a (32 - (k + 1)) (sh y) (if a.getLsbD (31 - k) then z ^^^ y else z)) := by
        show _ = _
        rw [show 32 - k = (32 - (k + 1)) + 1 by omega]
        show prodFrom a _ (sh y) _ = _
        rw [show 32 - (k + 1) = 31 - k by omega]
      have X := Lib.hid (xor_v z y)
      rcases Bool.eq_false_or_eq_true (a.getLsbD (31 - k)) with hb | hb
      all_goals
        have h1 := B.out
        rw [hb] at h1
        have S' := Lib.hid S.out
        have hb' := Lib.hid hb
        clear hb B S
        go_wp2_with (go_at_call 29; refine (shift_any _ _).mono ?_; rintro e w' ⟨rfl, rfl⟩)
        go_round
        case rel =>
          refine ⟨k + 1, sh y, if a.getLsbD (31 - k) then z ^^^ y else z, by omega, by go_num, rfl, ?_, ?_⟩
          rotate_left
          · exact S'.out.symm.trans H.out
          · rw [hb'.out]; first | rfl | exact congrArg _ X.out
        case measure => simp [intOf]; omega
    · go_wp2
      go_ret
      have : k = 32 := by omega
      subst this
      exact ⟨ret_u32 (congrArg v H.out), rfl⟩

set_option maxHeartbeats 400000 in
theorem pass_any (c : BitVec 32) (n : Nat) (hn : n < 9223372036854775808) (w : World) :
    Calls Try.prog 19 #[.int .u32 (v c), .int .i64 n] w fun e w' => e = .returned (.int .u32 (v (shn (8 * n) c))) ∧ w = w' := by
  have h0 : (8388608 : Int) = v (shn 8 unity) := by rw [← oneByte_eq]; decide
  have H0 := Lib.hid h0
  clear h0
  go_enter Try.func19, Try.ntmps19
  go_wp2
  go_loop [0, 1, 5] (fun x i q => ∃ (k m : Nat) (y : BitVec 32), k ≤ n ∧ i = .int .i64 k ∧ x = .int .u32 (v y) ∧ q = .int .u32 (v (shn m unity)) ∧ shn (m * k) y = shn (8 * n) c) (fun _ i _ => (intOf i).toNat)
  case atStart => exact ⟨n, 8, c, by omega, rfl, rfl, by rw [← H0.out], rfl⟩
  case round =>
    obtain ⟨k, m, y, hk, rfl, rfl, rfl, hp⟩ := hrel
    have H := Lib.hid hp; clear hp
    by_cases hlt : 0 < k
    · have B := Lib.hid (odd_i64 k)
      have P1 := Lib.hid (prod_shn y m)
      have P2 : Hid (prod (shn m unity) (shn m unity) = shn (m + m) unity) := by show _ = _; rw [prod_shn, ← shn_add]
      have hdiv : ((k : Int) / 2) = ((k / 2 : Nat) : Int) := by omega
      have HD := Lib.hid hdiv
      clear hdiv
      rcases Nat.mod_two_eq_zero_or_one k with hb | hb
      · have h1 : (bits .and .i64 (k : Int) 1 == 1) = false := by rw [B.out, hb]; rfl
        have hb' := Lib.hid hb
        clear hb B
        go_wp2_with (go_at_call 24; refine (product_any _ _ _).mono ?_; rintro e w' ⟨rfl, rfl⟩)
        go_round
        case rel =>
          refine ⟨k / 2, m + m, y, by omega, by rw [HD.out], rfl, by rw [P2.out], ?_⟩
          rw [← H.out]
          have := hb'.out
          have e : (m + m) * (k / 2) = m * k := by
            rw [← Nat.two_mul, Nat.mul_comm 2 m, Nat.mul_assoc]; congr 1; omega
          rw [e]
        case measure => simp [intOf]; omega
      · have h1 : (bits .and .i64 (k : Int) 1 == 1) = true := by rw [B.out, hb]; rfl
        have hb' := Lib.hid hb
        clear hb B
        go_wp2_with (go_at_call 24; refine (product_any _ _ _).mono ?_; rintro e w' ⟨rfl, rfl⟩)
        go_round
        case rel =>
          refine ⟨k / 2, m + m, shn m y, by omega, by rw [HD.out], by rw [P1.out], by rw [P2.out], ?_⟩
          rw [← H.out, ← shn_add]
          have := hb'.out
          have e : (m + m) * (k / 2) + m = m * k := by
            rw [← Nat.two_mul, Nat.mul_comm 2 m, Nat.mul_assoc]
            have : 2 * (k / 2) + 1 = k := by omega
            rw [← Nat.mul_succ]; congr 1
          rw [e]
        case measure => simp [intOf]; omega
    · go_wp2
      go_ret
      have : k = 0 := by omega
      subst this
      exact ⟨ret_u32 (congrArg v H.out), rfl⟩

set_option maxHeartbeats 800000 in
set_option maxRecDepth 100000 in
/-- The document's own answer goes on by the register itself. -/
theorem refUpdate_any (g : Nat) (c : BitVec 32) (A : Option Addr) (n cap : Nat) (l : List (BitVec 8)) (w : World) (h : Bytes w g A n l) :
    Calls Try.prog 14 #[.int .u32 (v c), .slice A n cap] w fun e w' => e = .returned (.int .u32 (v (goes c l))) ∧ w = w' := by
  have hc := h.at_
  obtain ⟨hl, hm, -⟩ := h
  have N1 := Lib.hid (not_v' c)
  have G : Hid (goes c l = ~~~ run (~~~ c) (l.take n)) := by show _ = _; rw [List.take_of_length_le (by omega)]; rfl
  go_enter Try.func14, Try.ntmps14
  go_wp2
  go_loop [5, 13] (fun x i => ∃ k : Nat, k ≤ n ∧ i = .int .i64 k ∧ x = .int .u32 (v (run (~~~ c) (l.take k)))) (fun _ i => n - (intOf i).toNat)
  case atStart => exact ⟨0, by omega, rfl, by rw [N1.out]; rfl⟩
  case round =>
    obtain ⟨k, hk, rfl, rfl⟩ := hrel
    by_cases hlt : k < n
    · obtain ⟨xb, xo, rfl, hxg, hcell⟩ := hc (by omega)
      have hk' : k < l.length := by omega
      have h2 := hcell k _ (List.getElem?_eq_getElem hk')
      have R : Hid (run (~~~ c) (l.take (k + 1)) = step (run (~~~ c) (l.take k)) l[k]) := by
        show _ = _
        rw [List.take_succ_eq_append_getElem hk', run_append]; rfl
      have HL := Lib.hid hl
      clear hcell hl
      generalize run (~~~ c) (l.take k) = r at *
      generalize hb : l[k] = b at *
      clear hb
      have hu0 := u_nonneg b
      have hu1 := u_lt b
      have X : Hid (bits .xor .u32 (v r) (u b) = v (r ^^^ b.setWidth 32)) := by show _ = _; rw [wide_u, xor_v]
      go_wp2
      go_loop [5, 21] (fun x i => ∃ (j : Nat) (y : BitVec 32), j ≤ 8 ∧ i = .int .i64 j ∧ x = .int .u32 (v y) ∧ shn (8 - j) y = step r b) (fun _ i => 8 - (intOf i).toNat)
      case atStart => exact ⟨0, _, by omega, rfl, by rw [X.out], rfl⟩
      case round =>
        obtain ⟨j, y, hj, rfl, rfl, hy⟩ := hrel
        have HY := Lib.hid hy
        clear hy
        by_cases hjl : j < 8
        · have S : Hid (shn (8 - (j + 1)) (sh y) = shn (8 - j) y) := by
            show _ = _
            rw [show 8 - j = (8 - (j + 1)) + 1 by omega]; rfl
          have L := Lib.hid (low_v y)
          rcases Bool.eq_false_or_eq_true (y.getLsbD 0) with hb | hb
          · have h1 : (bits .and .u32 (v y) 1 == 1) = true := by rw [L.out, hb]; rfl
            have E := Lib.hid (sh_hit y hb)
            clear hb
            go_wp2
            go_round
            case rel => exact ⟨j + 1, sh y, by omega, by go_num, by rw [E.out], by rw [S.out]; exact HY.out⟩
            case measure => simp [intOf]; omega
          · have h1 : (bits .and .u32 (v y) 1 == 1) = false := by rw [L.out, hb]; rfl
            have E := Lib.hid (sh_miss y hb)
            clear hb
            go_wp2
            go_round
            case rel => exact ⟨j + 1, sh y, by omega, by go_num, by rw [E.out], by rw [S.out]; exact HY.out⟩
            case measure => simp [intOf]; omega
        · have : j = 8 := by omega
          go_wp2
          go_round
          case rel => exact ⟨k + 1, by omega, by go_num, by rw [R.out, ← HY.out, this]; rfl⟩
          case measure => simp [intOf]; omega
    · have hkn : k = n := by omega
      have HK := Lib.hid hkn
      clear hkn
      have N2 := Lib.hid (not_v' (run (~~~ c) (l.take k)))
      go_wp2
      go_ret
      exact ⟨ret_u32 (by rw [N2.out, G.out, HK.out]), rfl⟩
end Crc
end Go.Proofs.Ytbojfiabgjaaaaa
