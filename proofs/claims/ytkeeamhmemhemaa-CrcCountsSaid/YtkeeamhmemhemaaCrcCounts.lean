/-
  CrcCounts: FOR EVERY LIST OF TEXTS AND EVERY NUMBER, WHATEVER MEMORY THEY SHARE, THE LAW RETURNS TRUE (a table tells how often it was asked, and what was asked ahead changes no answer) AND CHANGES NOTHING THAT WAS THERE.
  No condition beside the row's own (what can be read as data, within the model's reach).
-/
import Derived.Test.YtkeeamhmemhemaaCrcParts
namespace Go.Proofs.Ytkeeamhmemhemaa
open Go.ChangeShapes Go.WideShapes Go.ChangeAt Go.RowKit
namespace Crc

/-- One piece of many, below the call's first block. -/
theorem LowPieces.elem {w : World} {B : Nat} {A : Option Addr} {n : Nat} {ls : List (List (BitVec 8))} (h : LowPieces w B A n ls) {k : Nat} (hk : k < n) :
    ∃ b o a m c l, A = some ⟨b, o, none⟩ ∧ b < B ∧ w.cell? ⟨b, o + k, none⟩ = some (.slice a m c) ∧ LowBytes w B a m l := by
  obtain ⟨b, o, e, hx, hc⟩ := (h B (Nat.le_refl _)).2.2 (by omega)
  have hl := (h B (Nat.le_refl _)).1
  obtain ⟨a, m, c, h1, -⟩ := hc k _ (List.getElem?_eq_getElem (by omega))
  have hlt : b < B := by
    rcases Nat.lt_or_ge b B with h2 | h2
    · exact h2
    · obtain ⟨b', o', e', hx', -⟩ := (h _ h2).2.2 (by omega)
      rw [e] at e'
      injection e' with e'
      injection e' with e'
      exact absurd e'.symm hx'
  refine ⟨b, o, a, m, c, ls[k]'(by omega), e, hlt, h1, fun g hg => ?_⟩
  obtain ⟨b', o', e', -, hc'⟩ := (h g hg).2.2 (by omega)
  rw [e] at e'
  injection e' with e'
  injection e' with e1 e2
  subst e1 e2
  obtain ⟨a', m', c', h1', h2'⟩ := hc' k _ (List.getElem?_eq_getElem (by omega))
  rw [h1] at h1'
  injection h1' with h1'
  injection h1' with e1 e2 e3
  subst e1 e2
  exact h2'
/-- A table is untouched while another, newer one is asked. -/
theorem St.other {a w w' : World} {g g' : Nat} {q q' : Int} {made made' : Bool} (h : St a g q made w) (k : St w g' q' made' w') (hg : g' = w.heap.size) : St a g q made w' := by
  have hb : Below g' w w' := k.keep.below (by omega)
  have hlt := h.tab.lt
  exact ⟨h.tab.below hb (by omega), h.keep.trans ⟨⟨hb.os, hb.tape, hb.output, hb.size, fun i hi _ => hb.block i (by omega)⟩⟩⟩
theorem Calls.zero_update {a w : World} {g : Nat} {q : Int} {made : Bool} (h : St a g q made w) (h0 : 0 ≤ q) (h1 : q ≤ 4611686018427387904) {A : Option Addr} {n cap : Nat} {l : List (BitVec 8)} (hp : Bytes a g A n l) :
    Calls Try.prog 13 #[.pointer (some ⟨g, 0, none⟩), .int .u32 0, .slice A n cap] w fun e w' => e = .returned (.int .u32 (v (goes 0#32 l))) ∧ St a g (q + 1) true w' := by
  have := st_update (c := 0#32) (cap := cap) h h0 h1 hp
  rwa [v_zero] at this
theorem Calls.zero_join {a w : World} {g : Nat} {q : Int} {made : Bool} (h : St a g q made w) (h0 : 0 ≤ q) (h1 : q ≤ 4611686018427387904) {y : BitVec 32} {n : Nat} (hn : n < 9223372036854775808) {q' : Int} (hq : q' = q + 1) :
    Calls Try.prog 15 #[.pointer (some ⟨g, 0, none⟩), .int .u32 0, .int .u32 (v y), .int .i64 n] w fun e w' => e = .returned (.int .u32 (v y)) ∧ St a g q' true w' := by
  subst hq
  have := st_join (x := 0#32) (y := y) h h0 h1 hn
  rw [v_zero, shn_zero, BitVec.zero_xor] at this
  exact this
theorem Calls.small_join {a w : World} {g : Nat} {q : Int} {made : Bool} (h : St a g q made w) (h0 : 0 ≤ q) (h1 : q ≤ 4611686018427387904) {n : Nat} (hn : n < 9223372036854775808) {q' : Int} (hq : q' = q + 1) :
    Calls Try.prog 15 #[.pointer (some ⟨g, 0, none⟩), .int .u32 1, .int .u32 2, .int .i64 n] w fun e w' => (∃ x, e = .returned x) ∧ St a g q' true w' := by
  subst hq
  have := st_join (x := 1#32) (y := 2#32) h h0 h1 hn
  rw [show v 1#32 = 1 by decide, show v 2#32 = 2 by decide] at this
  exact this.mono fun _ _ ⟨he, hs⟩ => ⟨⟨_, he⟩, hs⟩

theorem round_hundred (z : Int) : ∃ m : Nat, (wrap64 (z.tmod 100 + 100)).tmod 100 = (m : Int) ∧ m < 100 := by
  have h1 := Int.tmod_lt_of_pos z (show (0 : Int) < 100 by decide)
  have h2 := Int.lt_tmod_of_pos z (show (0 : Int) < 100 by decide)
  have e : wrap64 (z.tmod 100 + 100) = z.tmod 100 + 100 := by unfold wrap64; omega
  rw [e, Int.tmod_eq_emod_of_nonneg (by omega)]
  exact ⟨((z.tmod 100 + 100) % 100).toNat, by omega, by omega⟩

set_option maxRecDepth 100000 in
set_option maxHeartbeats 3200000 in
theorem crcCounts_walk (A : Option Addr) (n cap : Nat) (ls : List (List (BitVec 8))) (z : Int) (w : World) (h1 : LowPieces w w.heap.size A n ls) :
    Calls Try.prog 6 #[.slice A n cap, .int .i64 z] w fun e w' => e = .returned (.bool true) ∧ Below w.heap.size w w' := by
  have H1 := Lib.hid h1
  clear h1
  rcases Bool.eq_false_or_eq_true (decide (20000 < bulk ls)) with t1 | t1
  · go_enter Try.func6, Try.ntmps6
    go_wp2_with (first
      | (go_at_call 8; refine (live_any _).mono ?_; rintro e w1 ⟨rfl, hb⟩; have HB := Lib.hid hb; clear hb)
      | (go_at_call 9; ((with_reducible refine (big_any w1.heap.size _ _ _ ls _ ((H1.out.below HB.out).at_ HB.out.size)).mono ?_); rintro e w2 ⟨rfl, rfl⟩)))
    go_ret
    exact ⟨rfl, HB.out⟩
  · by_cases t2 : 200 < n
    · have t2' : decide ((200 : Int) < (n : Int)) = true := by simp; omega
      go_enter Try.func6, Try.ntmps6
      go_wp2_with (first
        | (go_at_call 8; refine (live_any _).mono ?_; rintro e w1 ⟨rfl, hb⟩; have HB := Lib.hid hb; clear hb)
        | (go_at_call 9; ((with_reducible refine (big_any w1.heap.size _ _ _ ls _ ((H1.out.below HB.out).at_ HB.out.size)).mono ?_); rintro e w2 ⟨rfl, rfl⟩)))
      go_ret
      exact ⟨rfl, HB.out⟩
    · have t2' : decide ((200 : Int) < (n : Int)) = false := by simp; omega
      have hn : n ≤ 200 := by omega
      obtain ⟨r, hr, hr1⟩ := round_hundred z
      have hr2 := Lib.hid hr1
      clear hr1
      go_enter Try.func6, Try.ntmps6
      go_wp2_with (first
        | (go_at_call 8; refine (live_any _).mono ?_; rintro e w1 ⟨rfl, hb⟩; have HB := Lib.hid hb; clear hb)
        | (go_at_call 9; ((with_reducible refine (big_any w1.heap.size _ _ _ ls _ ((H1.out.below HB.out).at_ HB.out.size)).mono ?_); rintro e w2 ⟨rfl, rfl⟩))
        | (go_at_call 10; ((with_reducible refine (st_new rfl).mono ?_); rintro e w3 ⟨rfl, hM⟩; have S0 := Lib.hid hM; clear hM))
        | (go_at_call 16; ((with_reducible refine (st_used S0.out).mono ?_); rintro e w4 ⟨rfl, rfl⟩)))
      have L1 := Lib.hid (H1.out.below HB.out)
      have HG : Hid (w.heap.size ≤ w1.heap.size) := HB.out.size
      have HW := Lib.hid (show w1.heap.size ≤ w1.heap.size from Nat.le_refl _)
      generalize hg : w1.heap.size = g at *
      have hg' := Lib.hid hg
      clear hg H1
      go_loopw [31] (fun i wr => ∃ (k : Nat) (made : Bool), k ≤ n ∧ i = .int .i64 k ∧ St w1 g (3 * (k : Int)) made wr) (fun i _ => n - (intOf i).toNat)
      case atStart => exact ⟨0, false, by omega, rfl, S0.out⟩
      case round =>
        obtain ⟨k, made, hk, rfl, hS⟩ := hrel
        have S1 := Lib.hid hS
        clear hS S0
        by_cases hlt : k < n
        · obtain ⟨b, o, a, m, c, l, rfl, hb, hcell, hE⟩ := L1.out.elem hlt
          have E := Lib.hid hE
          have h3 := S1.out.keep.cell hcell (by show b ≠ g; have := HG.out; omega)
          have P := Lib.hid (hE.at_ HG.out)
          have HM := Lib.hid (show m < 9223372036854775808 by have := P.out.2.1; omega)
          have hd : decide ((k : Int) < (n : Int)) = true := by simp; omega
          clear hE hcell
          have hb' := Lib.hid hb
          clear hb
          go_wp2_with (first
            | (go_at_call 11; ((with_reducible refine (st_sum_one S1.out (by omega) (by omega) P.out rfl).mono ?_); rintro e w5 ⟨rfl, hM⟩; have S2 := Lib.hid hM; clear hM))
            | (go_at_call 13; ((with_reducible refine (Calls.zero_update S2.out (by omega) (by omega) P.out).mono ?_); rintro e w6 ⟨rfl, hM⟩; have S3 := Lib.hid hM; clear hM))
            | (go_at_call 15; ((with_reducible refine (Calls.zero_join (q' := 3 * (k : Int) + 3) S3.out (by omega) (by omega) HM.out (by omega)).mono ?_); rintro e w7 ⟨rfl, hM⟩; have S4 := Lib.hid hM; clear hM))
            | (go_at_call 16; ((with_reducible refine (st_used S4.out).mono ?_); rintro e w8 ⟨rfl, rfl⟩))
            | (go_at_call 10; ((with_reducible refine (st_new rfl).mono ?_); rintro e w9 ⟨rfl, hM⟩; have S5 := Lib.hid hM; clear hM))
            | (go_at_call 11; ((with_reducible refine (st_sum_one S5.out (by omega) (by omega) ((E.out.below (S4.out.keep.low HG.out (by rw [hg'.out]; exact HG.out))).at_ (Nat.le_trans HG.out (Nat.le_of_lt S4.out.tab.lt))) rfl).mono ?_); rintro e w10 ⟨rfl, hM⟩; have S6 := Lib.hid hM; clear hM)))
          have S7 : Hid (St w1 g (3 * ((k + 1 : Nat) : Int)) true w10) := by
            show St _ _ _ _ _
            rw [show 3 * ((k + 1 : Nat) : Int) = 3 * (k : Int) + 3 by omega]
            exact S4.out.other S6.out rfl
          go_roundw
          case rel => exact ⟨k + 1, true, by omega, by go_num, S7.out⟩
          case measure => simp [intOf]; omega
        · have hkn : k = n := by omega
          subst hkn
          have hd : decide ((k : Int) < (k : Int)) = false := by simp
          have HR := Lib.hid (show r < 9223372036854775808 by have := hr2.out; omega)
          clear hr
          go_wp2_with (first
            | (go_at_call 15; ((with_reducible refine (Calls.small_join (q' := 3 * (k : Int) + 1) S1.out (by omega) (by omega) HR.out rfl).mono ?_); rintro e w5 ⟨⟨x, rfl⟩, hM⟩; have S2 := Lib.hid hM; clear hM))
            | (go_at_call 16; ((with_reducible refine (st_used S2.out).mono ?_); rintro e w8 ⟨rfl, rfl⟩)))
          go_ret
          exact ⟨rfl, S2.out.low HB.out HG.out (by rw [hg'.out]; exact HG.out)⟩

theorem crcCounts_says : Frame.Says Rows.crcCountsSpec 2 := by
  refine ⟨rfl, fun H ds h => ?_, fun H ds h => ?_, fun H ds h => ?_⟩ <;>
  · match ds, h with
    | [d1, d2], _ => rfl

theorem crcCounts_walks : Frame.Walks 6 [22, 3] := by
  intro H enc W args ds ps base hok hA hsz
  obtain ⟨v0, vs0, d0, ds0, p0, q0, hargs, rfl, rfl, h0, r0⟩ := trodAll_cons hA
  obtain ⟨v1, vs1, d1, ds1, p1, q1, rfl, rfl, rfl, h1, r1⟩ := trodAll_cons r0
  obtain ⟨rfl, rfl, rfl⟩ := trodAll_nil r1
  obtain rfl : args = #[v0, v1] := by cases args; simp_all
  obtain ⟨A, n, cap, ls, rfl, l0⟩ := open_pieces (hok 0 _ v0 rfl rfl) h0 (sized_arg hsz (j := 0) rfl rfl)
  obtain ⟨z, rfl, rfl, rfl, wz⟩ := open_int Try.underlying3 (hok 1 _ v1 rfl rfl) h1
  exact crcCounts_walk A n cap ls z W l0

theorem crcCounts_over : Rows.crcCountsRow.holds Try.pinned (OpenSpec.ofChange Rows.crcCountsSpec) :=
  OpenClaim.holds_of_wide 6 Try.f6 rfl rfl rfl rfl rfl rfl rfl ⟨rfl, rfl, rfl, rfl, rfl⟩ rfl rfl rfl rfl rfl (by kernel_rfl) Try.func6 (by kernel_rfl)
    (of_decide_eq_true (by kernel_rfl)) (by unfold Func.isWrapper; first | (rw [if_pos (by decide +kernel)]; kernel_rfl) | (rw [if_neg (by decide +kernel)]; exact ⟨rfl, rfl⟩))
    (fun os started H enc _ => Frame.lifted (started := started) Try.underlying4 (by kernel_rfl) Try.func6 (n := 2) (by rw [Try.params6]; rfl) crcCounts_says (by rw [Try.params6]; kernel_rfl) (by kernel_rfl)
      (ChangeSpec.witness6 (enc := enc) (C := Try.checked) false ⟨#[], #[.slice none 0 0, .int .i64 0], []⟩ 8 (by kernel_rfl) (by kernel_rfl) (by kernel_rfl) (by kernel_rfl))
      (by rw [Try.params6]; exact crcCounts_walks))
end Crc
/-- The given statement. -/
theorem crcCounts_holds : Rows.CrcCountsSaid := Crc.crcCounts_over
end Go.Proofs.Ytkeeamhmemhemaa
