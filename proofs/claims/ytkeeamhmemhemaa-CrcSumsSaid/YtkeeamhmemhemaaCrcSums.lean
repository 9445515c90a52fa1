/-
  CrcSums: FOR EVERY LIST OF TEXTS, EVERY SUM AND EVERY TEXT, WHATEVER MEMORY THEY SHARE, THE LAW RETURNS TRUE AND CHANGES NOTHING THAT WAS THERE.
  No condition beside the row's own (what can be read as data, within the model's reach).
-/
import Derived.Test.YtkeeamhmemhemaaCrcState
namespace Go.Proofs.Ytkeeamhmemhemaa
open Go.ChangeShapes Go.WideShapes Go.ChangeAt Go.RowKit
namespace Crc

set_option maxRecDepth 100000 in
set_option maxHeartbeats 1600000 in
theorem crcSums_walk (A : Option Addr) (n cap : Nat) (ls : List (List (BitVec 8))) (c : BitVec 32) (B : Option Addr) (m d : Nat) (l : List (BitVec 8)) (w : World) (h1 : LowPieces w w.heap.size A n ls) (h2 : LowBytes w w.heap.size B m l) :
    Calls Try.prog 3 #[.slice A n cap, .int .u32 (v c), .slice B m d] w fun e w' => e = .returned (.bool true) ∧ Below w.heap.size w w' := by
  have H1 := Lib.hid h1
  have H2 := Lib.hid h2
  clear h1 h2
  rcases Bool.eq_false_or_eq_true (decide (20000 < bulk ls)) with t1 | t1
  · go_enter Try.func3, Try.ntmps3
    go_wp2_with (first
      | (go_at_call 8; refine (live_any _).mono ?_; rintro e w1 ⟨rfl, hb⟩; have HB := Lib.hid hb; clear hb)
      | (go_at_call 9; ((with_reducible refine (big_any w1.heap.size _ _ _ ls _ ((H1.out.below HB.out).at_ HB.out.size)).mono ?_); rintro e w2 ⟨rfl, rfl⟩)))
    go_ret
    exact ⟨rfl, HB.out⟩
  · rcases Bool.eq_false_or_eq_true (decide (20000 ≤ m)) with t2 | t2
    · go_enter Try.func3, Try.ntmps3
      go_wp2_with (first
        | (go_at_call 8; refine (live_any _).mono ?_; rintro e w1 ⟨rfl, hb⟩; have HB := Lib.hid hb; clear hb)
        | (go_at_call 9; ((with_reducible refine (big_any w1.heap.size _ _ _ ls _ ((H1.out.below HB.out).at_ HB.out.size)).mono ?_); rintro e w2 ⟨rfl, rfl⟩))
        | (go_at_call 9; ((with_reducible refine (big_one (g := w1.heap.size + 1) ((H2.out.below HB.out).at_ (Nat.le_succ_of_le HB.out.size)) (Nat.succ_ne_self _) rfl).mono ?_); rintro e w2 ⟨rfl, rfl⟩)))
      go_ret
      exact ⟨rfl, HB.out.alloc HB.out.size _⟩
    · go_enter Try.func3, Try.ntmps3
      go_wp2_with (first
        | (go_at_call 8; refine (live_any _).mono ?_; rintro e w1 ⟨rfl, hb⟩; have HB := Lib.hid hb; clear hb)
        | (go_at_call 9; ((with_reducible refine (big_any w1.heap.size _ _ _ ls _ ((H1.out.below HB.out).at_ HB.out.size)).mono ?_); rintro e w2 ⟨rfl, rfl⟩))
        | (go_at_call 9; ((with_reducible refine (big_one (g := w1.heap.size + 1) ((H2.out.below HB.out).at_ (Nat.le_succ_of_le HB.out.size)) (Nat.succ_ne_self _) rfl).mono ?_); rintro e w2 ⟨rfl, rfl⟩)))
      have HB2 := Lib.hid (HB.out.alloc HB.out.size (.cells #[.slice B m d] 24))
      have HG : Hid (w.heap.size ≤ w1.heap.size + 1) := Nat.le_succ_of_le HB.out.size
      have P1 := Lib.hid ((H1.out.below HB2.out).at_ HG.out)
      have P2 := Lib.hid ((H2.out.below HB2.out).at_ HG.out)
      clear HB H1 H2
      generalize hW : w1.alloc (.cells #[.slice B m d] 24) = W at *
      have hg : w1.heap.size + 1 = W.heap.size := by rw [← hW]; simp
      clear hW
      generalize w1.heap.size + 1 = g at *
      have hg' := Lib.hid hg
      clear hg
      go_wp2_with (first
        | (go_at_call 10; ((with_reducible refine (st_new hg'.out).mono ?_); rintro e w3 ⟨rfl, hM⟩; have S0 := Lib.hid hM; clear hM))
        | (go_at_call 11; ((with_reducible refine (st_sum S0.out (by omega) (by omega) P1.out).mono ?_); rintro e w4 ⟨rfl, hM⟩; have S1 := Lib.hid hM; clear hM))
        | (go_at_call 12; ((with_reducible refine (st_refSum S1.out P1.out).mono ?_); rintro e w5 ⟨rfl, rfl⟩))
        | (go_at_call 13; ((with_reducible refine (st_update S1.out (by omega) (by omega) P2.out).mono ?_); rintro e w6 ⟨rfl, hM⟩; have S2 := Lib.hid hM; clear hM))
        | (go_at_call 14; ((with_reducible refine (st_refUpdate S2.out P2.out).mono ?_); rintro e w7 ⟨rfl, rfl⟩))
        | (go_at_call 11; ((with_reducible refine (st_sum_one S2.out (by omega) (by omega) P2.out rfl).mono ?_); rintro e w8 ⟨rfl, hM⟩; have S3 := Lib.hid hM; clear hM))
        | (go_at_call 12; ((with_reducible refine (st_refSum_one S3.out P2.out rfl).mono ?_); rintro e w9 ⟨rfl, rfl⟩)))
      go_ret
      exact ⟨rfl, (S3.out.alloc _).low HB2.out HG.out HB2.out.size⟩

theorem crcSums_says : Frame.Says Rows.crcSumsSpec 3 := by
  refine ⟨rfl, fun H ds h => ?_, fun H ds h => ?_, fun H ds h => ?_⟩ <;>
  · match ds, h with
    | [d1, d2, d3], _ => rfl

theorem crcSums_walks : Frame.Walks 3 [22, 23, 24] := by
  intro H enc W args ds ps base hok hA hsz
  obtain ⟨v0, vs0, d0, ds0, p0, q0, hargs, rfl, rfl, h0, r0⟩ := trodAll_cons hA
  obtain ⟨v1, vs1, d1, ds1, p1, q1, rfl, rfl, rfl, h1, r1⟩ := trodAll_cons r0
  obtain ⟨v2, vs2, d2, ds2, p2, q2, rfl, rfl, rfl, h2, r2⟩ := trodAll_cons r1
  obtain ⟨rfl, rfl, rfl⟩ := trodAll_nil r2
  obtain rfl : args = #[v0, v1, v2] := by cases args; simp_all
  obtain ⟨A, n, cap, ls, rfl, l0⟩ := open_pieces (hok 0 _ v0 rfl rfl) h0 (sized_arg hsz (j := 0) rfl rfl)
  obtain ⟨c, rfl, rfl, rfl, wc⟩ := open_int Try.underlying23 (hok 1 _ v1 rfl rfl) h1
  obtain ⟨B, m, d, l, rfl, l2⟩ := open_bytes (hok 2 _ v2 rfl rfl) h2 (sized_arg hsz (j := 2) rfl rfl)
  obtain ⟨c, rfl⟩ := word_of wc
  exact crcSums_walk A n cap ls c B m d l W l0 l2

theorem crcSums_over : Rows.crcSumsRow.holds Try.pinned (OpenSpec.ofChange Rows.crcSumsSpec) :=
  OpenClaim.holds_of_wide 3 Try.f3 rfl rfl rfl rfl rfl rfl rfl ⟨rfl, rfl, rfl, rfl, rfl⟩ rfl rfl rfl rfl rfl (by kernel_rfl) Try.func3 (by kernel_rfl)
    (of_decide_eq_true (by kernel_rfl)) (by unfold Func.isWrapper; first | (rw [if_pos (by decide +kernel)]; kernel_rfl) | (rw [if_neg (by decide +kernel)]; exact ⟨rfl, rfl⟩))
    (fun os started H enc _ => Frame.lifted (started := started) Try.underlying4 (by kernel_rfl) Try.func3 (n := 3) (by rw [Try.params3]; rfl) crcSums_says (by rw [Try.params3]; kernel_rfl) (by kernel_rfl)
      (ChangeSpec.witness6 (enc := enc) (C := Try.checked) false ⟨#[], #[.slice none 0 0, .int .u32 0, .slice none 0 0], []⟩ 8 (by kernel_rfl) (by kernel_rfl) (by kernel_rfl) (by kernel_rfl))
      (by rw [Try.params3]; exact crcSums_walks))
end Crc
/-- The given statement. -/
theorem crcSums_holds : Rows.CrcSumsSaid := Crc.crcSums_over
end Go.Proofs.Ytkeeamhmemhemaa
