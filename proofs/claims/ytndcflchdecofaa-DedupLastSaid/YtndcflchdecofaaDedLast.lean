/-
  THE LAW DedupLast: in plain, and its walk.
-/
import Derived.Test.YtndcflchdecofaaDedLaw
import Derived.Test.YtndcflchdecofaaCut
namespace Go.Proofs.Ytndcflchdecofaa
open Go.RowKit Mem Box
namespace Ded
open Net (Mp Mx MAt mxv MBox)

/-- What is known of 5 behind i requests. -/
def lastP (i : Nat) : Sp := ⟨5, if i ≤ 8 then 0 else 2 * ((i : Int) - 9) + 1, ((List.range i).drop (i - 8)).map fun t : Nat => ⟨2 * (t : Int), kp (100 + (t : Int))⟩⟩
theorem last_next : ∀ i, i < 40 → withP (lastP i) ⟨2 * (i : Int), kp (100 + (i : Int))⟩ = lastP (i + 1) := by decide +kernel
theorem last_new : ∀ i, i < 41 → tellS (lastP i) (2 * (i : Int)) = (m0, 0) := by decide +kernel
theorem last_in : ∀ M, M < 40 → ∀ i, i < M → M ≤ i + 8 → tellS (lastP M) (2 * (i : Int)) = (kp (100 + (i : Int)), 1) := by decide +kernel
theorem last_out : ∀ M, M < 40 → ∀ i, i < M → ¬ M ≤ i + 8 → tellS (lastP M) (2 * (i : Int)) = (m0, 2) := by decide +kernel
theorem ofP_nil (f : Int) : ofP [] f = ⟨f, 0, []⟩ := rfl

set_option maxRecDepth 100000 in
set_option maxHeartbeats 25600000 in
theorem last_walk (many : Int) (A : Option Addr) (m c : Nat) (os : List Int) (w : World) (h : Row ci w A m c os) : Calls Try.prog 4 #[.int .i64 many, .slice A m c] w fun e w' => e = .returned (.bool true) ∧ Below w.heap.size w w' := by
  obtain ⟨r1, M, k1, k2, k3, k4, k5, k6⟩ : ∃ (r : Int) (j : Nat), Int.tmod many 40 = r ∧ -40 < r ∧ r < 40 ∧ Int.tmod (r + 40) 40 = j ∧ (r + 40) % 40 = j ∧ j < 40 := Cut.cut_at many 40 (by omega)
  have HLV := Lib.hid (live_any w)
  have HR := Lib.hid h
  clear h
  rcases e1 : decide ((50 : Int) < (m : Int))
  · have hm50 : m ≤ 50 := by have := of_decide_eq_false e1; omega
    go_enter Try.func4, Try.ntmps4
    go_upto_region 6 with (go_at_call 7; refine HLV.out.mono ?_; rintro e w1 ⟨rfl, hb⟩; have L1 := Lib.hid hb; clear hb HLV)
    clear k1 k2 k3 k4 k5
    go_wp2_with fail
    go_loopw [6, 7, 8, 9, 11, 12, 13, 31] (fun s _ _ _ _ _ _ i wr => ∃ (k n d : Nat) (B : Option Addr) (l : List Sx), s = .slice B n d ∧ i = .int .i64 k ∧ k ≤ M ∧ Hid (Below w.heap.size w wr) ∧ Hid (Good wr B n d l (51 * k)) ∧ Hid (ofP (l.map Sx.p) 5 = lastP k)) (fun _ _ _ _ _ _ _ i _ => M - (intOf i).toNat)
    case atStart => exact ⟨0, 0, 0, none, [], rfl, rfl, by omega, L1, Lib.hid (Good.nil _), Lib.hid rfl⟩
    case round =>
      obtain ⟨k, n, d, B, l, rfl, rfl, hk, L2, G2, P2⟩ := hrel
      by_cases hlt : k < M
      · have hk0 : (0 : Int) ≤ (k : Int) := by omega
        have hkn : (k : Int) < (M : Int) := by omega
        have hw1 : IntKind.i64.wrap (2 * (k : Int)) = 2 * (k : Int) := by rw [IntKind.wrap_i64]; omega
        have hw2 : IntKind.i64.wrap (100 + (k : Int)) = 100 + (k : Int) := by rw [IntKind.wrap_i64]; omega
        have HD := Lib.hid (show Calls Try.prog 9 #[.slice B n d, .int .i64 5, .int .i64 (2 * (k : Int)), .agg #[.int .i64 (100 + (k : Int)), .int .i64 0, .int .i64 0, .int .i64 0, .slice none 0 0, .slice none 0 0]] wr _ from did_any (f := 5) (i := 2 * (k : Int)) (x := kx (100 + (k : Int))) G2.out (atk wr (by omega) (by omega)) (by omega) (by omega))
        have HNW : Hid (NewAt (l.map Sx.p) 5 ⟨2 * (k : Int), kp (100 + (k : Int))⟩) := ⟨G2.out.ok, by omega, by
          unfold askP
          rw [G2.out.ok, cond_true, P2.out, last_new k (by omega)]⟩
        have HPN : Hid (ofP (putP (l.map Sx.p) 5 ⟨2 * (k : Int), kp (100 + (k : Int))⟩) 5 = lastP (k + 1)) := by
          show _ = _
          rw [ofP_put HNW.out, if_pos rfl, P2.out]
          exact last_next k (by omega)
        have HD2 : Hid (Calls Try.prog 9 #[.slice B n d, .int .i64 5, .int .i64 (2 * (k : Int)), .agg #[.int .i64 (100 + (k : Int)), .int .i64 0, .int .i64 0, .int .i64 0, .slice none 0 0, .slice none 0 0]] wr fun e w' => ∃ B n d l, e = .returned (.tuple #[.slice B n d, .int .i64 0]) ∧ Good w' B n d l (51 * k + 1) ∧ ofP (l.map Sx.p) 5 = lastP (k + 1) ∧ Below wr.heap.size wr w') := HD.out.mono (by
          rintro e w' (⟨B, n, d, l', rfl, hg, hp, -, -, hb⟩ | ⟨B, d, v, rfl, -, h3, -⟩)
          · exact ⟨B, n, d, l', rfl, hg, by rw [hp]; exact HPN.out, hb⟩
          · exfalso
            have := HNW.out.new
            rcases h3 with h3 | h3 | h3
            · exact h3 this
            · omega
            · omega)
        clear HD HNW HPN G2 P2
        go_upto_region 13 with (go_at_call 9; refine HD2.out.mono ?_; rintro e w3 ⟨B3, n3, d3, l3, rfl, hg, hp, hb⟩; have L3 := Lib.hid (L2.out.trans (hb.mono L2.out.size)); have G3 := Lib.hid hg; have P3 := Lib.hid hp; clear hb hg hp)
        clear L2 HD2
        go_wp2_with fail
        go_loopw [6, 11, 12, 13, 49] (fun s _ _ _ i wr => ∃ (j n d : Nat) (B : Option Addr) (l : List Sx), s = .slice B n d ∧ i = .int .i64 j ∧ j ≤ m ∧ Hid (Below w.heap.size w wr) ∧ Hid (Good wr B n d l (51 * k + 1 + j)) ∧ Hid (ofP (l.map Sx.p) 5 = lastP (k + 1))) (fun _ _ _ _ i _ => m - (intOf i).toNat)
        case atStart => exact ⟨0, n3, d3, B3, l3, rfl, rfl, by omega, L3, G3, P3⟩
        case round =>
          obtain ⟨j, n4, d4, B4, l4, rfl, rfl, hj, L4, G4, P4⟩ := hrel
          by_cases hlt2 : j < m
          · obtain ⟨v, hv⟩ := HR.out.get hlt2
            obtain ⟨b, o, hA, hc⟩ := (HR.out.below L4.out).cell hv
            unfold ci at hc
            subst hA
            have hj0 : (0 : Int) ≤ (j : Int) := by omega
            have hjm : (j : Int) < (m : Int) := by omega
            clear hv
            rcases a1 : decide (0 ≤ v)
            · go_wp2_with fail
              go_roundw
              case rel => exact ⟨j + 1, n4, d4, B4, l4, rfl, by go_num, by omega, L4, Lib.hid (G4.out.mono (by omega)), P4⟩
              case measure => simp [intOf]; omega
            · rcases a2 : (v != 5)
              · go_wp2_with fail
                go_roundw
                case rel => exact ⟨j + 1, n4, d4, B4, l4, rfl, by go_num, by omega, L4, Lib.hid (G4.out.mono (by omega)), P4⟩
                case measure => simp [intOf]; omega
              · have HV5 : Hid (v ≠ 5) := by show _ ≠ _; simpa using a2
                have HD := Lib.hid (show Calls Try.prog 9 #[.slice B4 n4 d4, .int .i64 v, .int .i64 (k : Int), .agg #[.int .i64 (0), .int .i64 0, .int .i64 0, .int .i64 0, .slice none 0 0, .slice none 0 0]] wr _ from did_any (f := v) (i := (k : Int)) (x := kx 0) G4.out (atk wr (by omega) (by omega)) (by omega) (by omega))
                have HPN := Lib.hid (fun (hn : NewAt (l4.map Sx.p) v ⟨(k : Int), kp 0⟩) => (show ofP (putP (l4.map Sx.p) v ⟨(k : Int), kp 0⟩) 5 = lastP (k + 1) by rw [ofP_put hn, if_neg (fun e => HV5.out e.symm), P4.out]))
                go_upto_region 18 with (go_at_call 9; refine HD.out.mono ?_; rintro e w5 (⟨B5, n5, d5, l5, rfl, hg, hp, hn, -, hb⟩ | ⟨B5, d5, ve, rfl, hv0, -, hb⟩); rotate_left)
                · have L5 := Lib.hid (L4.out.trans (hb.mono L4.out.size))
                  have G5 := Lib.hid (G4.out.below hb)
                  have e0 : (ve == 0) = false := beq_eq_false_iff_ne.2 hv0
                  clear hb
                  go_wp2_with fail
                  go_roundw
                  case rel => exact ⟨j + 1, n4, d4, B4, l4, rfl, by go_num, by omega, L5, Lib.hid (G5.out.mono (by omega)), P4⟩
                  case measure => simp [intOf]; omega
                · have L5 := Lib.hid (L4.out.trans (hb.mono L4.out.size))
                  have G5 := Lib.hid hg
                  have P5 : Hid (ofP (l5.map Sx.p) 5 = lastP (k + 1)) := by
                    show _ = _
                    rw [hp]; exact HPN.out hn
                  clear hb hg hp hn
                  go_wp2_with fail
                  go_roundw
                  case rel => exact ⟨j + 1, n5, d5, B5, l5, rfl, by go_num, by omega, L5, Lib.hid (G5.out.mono (by omega)), P5⟩
                  case measure => simp [intOf]; omega
          · go_wp2_with fail
            go_roundw
            case rel => exact ⟨k + 1, n4, d4, B4, l4, rfl, by go_num, by omega, L4, Lib.hid (G4.out.mono (by omega)), P4⟩
            case measure => simp [intOf]; omega
      · have hkM : k = M := by omega
        subst hkM
        go_wp2_with fail
        go_loopw [14, 15, 16, 73] (fun _ _ _ i wr => ∃ j : Nat, i = .int .i64 j ∧ j ≤ k ∧ Hid (Below w.heap.size w wr) ∧ Hid (Good wr B n d l (51 * k))) (fun _ _ _ i _ => k - (intOf i).toNat)
        case atStart => exact ⟨0, rfl, by omega, L2, G2⟩
        case round =>
          obtain ⟨j, rfl, hj, L3, G3⟩ := hrel
          by_cases hlt3 : j < k
          · have hj0 : (0 : Int) ≤ (j : Int) := by omega
            have hjm : (j : Int) < (k : Int) := by omega
            have hw1 : IntKind.i64.wrap (2 * (j : Int)) = 2 * (j : Int) := by rw [IntKind.wrap_i64]; omega
            have hw2 : IntKind.i64.wrap (100 + (j : Int)) = 100 + (j : Int) := by rw [IntKind.wrap_i64]; omega
            have hw3 : IntKind.i64.wrap ((k : Int) - 8) = (k : Int) - 8 := by rw [IntKind.wrap_i64]; omega
            by_cases h8 : k ≤ j + 8
            · have HA := Lib.hid (ask_st (f := 5) (i := 2 * (j : Int)) (q := kp (100 + (j : Int))) (v := 1) G3.out (by unfold askP; rw [G3.out.ok, cond_true, P2.out]; exact last_in k (by omega) j hlt3 h8))
              have hp1 : decide ((k : Int) - 8 ≤ (j : Int)) = true := decide_eq_true (by omega)
              have hp2 : decide ((j : Int) < (k : Int) - 8) = false := decide_eq_false (by omega)
              unfold kp at HA
              go_upto_region 26 with (go_at_call 8; refine HA.out.mono ?_; rintro e w4 ⟨y, rfl, hb⟩; have L4 := Lib.hid (L3.out.trans (hb.mono L3.out.size)); have G4 := Lib.hid (G3.out.below hb); clear hb)
              have b5 : Below w4.heap.size w4 (w4.alloc (.cells #[.int .i64 (100 + (j : Int)), .int .i64 y.f, .int .i64 y.t, .int .i64 y.i, .slice y.A y.n y.c, .slice y.B y.m y.d] 33)) := (Below.refl _ w4).alloc (Nat.le_refl _) _
              have L5 := Lib.hid (L4.out.trans (b5.mono L4.out.size))
              have G5 := Lib.hid (G4.out.below b5)
              have X5 : Hid (Cells (w4.alloc (.cells #[.int .i64 (100 + (j : Int)), .int .i64 y.f, .int .i64 y.t, .int .i64 y.i, .slice y.A y.n y.c, .slice y.B y.m y.d] 33)) w4.heap.size 33 _) := Cells.new _ _ _
              have m0 := Cells.cell X5.out 0
              clear b5 L4 G4
              generalize w4.alloc (.cells #[.int .i64 (100 + (j : Int)), .int .i64 y.f, .int .i64 y.t, .int .i64 y.i, .slice y.A y.n y.c, .slice y.B y.m y.d] 33) = w5 at *
              go_wp2_with fail
              go_roundw
              case rel => exact ⟨j + 1, by go_num, by omega, L5, G5⟩
              case measure => simp [intOf]; omega
            · have HA := Lib.hid (ask_st (f := 5) (i := 2 * (j : Int)) (q := Ded.m0) (v := 2) G3.out (by unfold askP; rw [G3.out.ok, cond_true, P2.out]; exact last_out k (by omega) j hlt3 h8))
              have hp1 : decide ((k : Int) - 8 ≤ (j : Int)) = false := decide_eq_false (by omega)
              have hp2 : decide ((j : Int) < (k : Int) - 8) = true := decide_eq_true (by omega)
              unfold Ded.m0 at HA
              go_upto_region 26 with (go_at_call 8; refine HA.out.mono ?_; rintro e w4 ⟨y, rfl, hb⟩; have L4 := Lib.hid (L3.out.trans (hb.mono L3.out.size)); have G4 := Lib.hid (G3.out.below hb); clear hb)
              have b5 : Below w4.heap.size w4 (w4.alloc (.cells #[.int .i64 0, .int .i64 y.f, .int .i64 y.t, .int .i64 y.i, .slice y.A y.n y.c, .slice y.B y.m y.d] 33)) := (Below.refl _ w4).alloc (Nat.le_refl _) _
              have L5 := Lib.hid (L4.out.trans (b5.mono L4.out.size))
              have G5 := Lib.hid (G4.out.below b5)
              have X5 : Hid (Cells (w4.alloc (.cells #[.int .i64 0, .int .i64 y.f, .int .i64 y.t, .int .i64 y.i, .slice y.A y.n y.c, .slice y.B y.m y.d] 33)) w4.heap.size 33 _) := Cells.new _ _ _
              have m0 := Cells.cell X5.out 0
              clear b5 L4 G4
              generalize w4.alloc (.cells #[.int .i64 0, .int .i64 y.f, .int .i64 y.t, .int .i64 y.i, .slice y.A y.n y.c, .slice y.B y.m y.d] 33) = w5 at *
              go_wp2_with fail
              go_roundw
              case rel => exact ⟨j + 1, by go_num, by omega, L5, G5⟩
              case measure => simp [intOf]; omega
          · have hw1 : IntKind.i64.wrap (2 * (k : Int)) = 2 * (k : Int) := by rw [IntKind.wrap_i64]; omega
            have HA := Lib.hid (ask_st (f := 5) (i := 2 * (k : Int)) (q := Ded.m0) (v := 0) G3.out (by unfold askP; rw [G3.out.ok, cond_true, P2.out]; exact last_new k (by omega)))
            unfold Ded.m0 at HA
            go_upto_region 30 with (go_at_call 8; refine HA.out.mono ?_; rintro e w4 ⟨y, rfl, hb⟩; have L4 := Lib.hid (L3.out.trans (hb.mono L3.out.size)); have G4 := Lib.hid (G3.out.below hb); clear hb)
            have b5 : Below w4.heap.size w4 (w4.alloc (.cells #[.int .i64 0, .int .i64 y.f, .int .i64 y.t, .int .i64 y.i, .slice y.A y.n y.c, .slice y.B y.m y.d] 33)) := (Below.refl _ w4).alloc (Nat.le_refl _) _
            have L5 := Lib.hid (L4.out.trans (b5.mono L4.out.size))
            have G5 := Lib.hid (G4.out.below b5)
            clear b5 L4 G4
            generalize w4.alloc (.cells #[.int .i64 0, .int .i64 y.f, .int .i64 y.t, .int .i64 y.i, .slice y.A y.n y.c, .slice y.B y.m y.d] 33) = w5 at *
            generalize w4.heap.size = p4 at *
            have b6 : Below w5.heap.size w5 (w5.alloc (.cells #[.int .i64 5] 3)) := (Below.refl _ w5).alloc (Nat.le_refl _) _
            have L6 := Lib.hid (L5.out.trans (b6.mono L5.out.size))
            have G6 := Lib.hid (G5.out.below b6)
            have R6 := Lib.hid (row_int w5 5)
            have HFG := Lib.hid (forget_st G6.out R6.out (by omega) (by omega))
            clear b6 L5 G5
            go_wp2_with (first | (go_at_call 11; refine HFG.out.mono ?_; rintro e w7 ⟨B7, n7, d7, l7, rfl, hg, hp, hb⟩; have L7 := Lib.hid (L6.out.trans (hb.mono L6.out.size)); have HA2 := Lib.hid (ask_st (f := 5) (i := 0) (q := Ded.m0) (v := 0) hg (by rw [hp, ask_forget G6.out.ok, if_pos (by simp)]; rfl)); unfold Ded.m0 at HA2; clear hb hg hp) | (go_at_call 8; refine HA2.out.mono ?_; rintro e w8 ⟨z, rfl, hb⟩; have L8 := Lib.hid (L7.out.trans (hb.mono L7.out.size)); clear hb))
            go_ret
            exact ⟨rfl, L8.out.alloc L8.out.size _⟩
  · have hm50 : ¬ m ≤ 50 := by have := of_decide_eq_true e1; omega
    go_enter Try.func4, Try.ntmps4
    go_wp2_with (go_at_call 7; refine HLV.out.mono ?_; rintro e w1 ⟨rfl, hb⟩; have L1 := Lib.hid hb; clear hb HLV)
    go_ret
    exact ⟨rfl, L1.out⟩
end Ded
end Go.Proofs.Ytndcflchdecofaa
