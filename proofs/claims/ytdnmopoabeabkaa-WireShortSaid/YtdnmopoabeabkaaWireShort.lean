/-
  WireShort: FOR EVERY TWO NUMBERS OF 64 BITS THE LAW RETURNS TRUE (a greater number has no fewer bytes; one behind the other they are read one behind the other) AND CHANGES NOTHING THAT WAS THERE.
  No condition beside the row's own (what can be read as data, within the model's reach).
-/
import Derived.Test.YtdnmopoabeabkaaWireFixed
namespace Go.Proofs.Ytdnmopoabeabkaa
open Go.ChangeShapes Go.WideShapes Go.ChangeAt Go.RowKit Mem Args
namespace Wire

set_option maxRecDepth 100000 in
set_option maxHeartbeats 1600000 in
theorem wireShort_lt (a b : Nat) (ha : a < 18446744073709551616) (hb : b < 18446744073709551616) (hab : a < b) (w : World) :
    Calls Try.prog 6 #[.int .u64 a, .int .u64 b] w fun e w' => e = .returned (.bool true) ∧ Below w.heap.size w w' := by
  have hi : (a : Int) < (b : Int) := by omega
  have HP := Lib.hid (fun w => putN_any a ha w)
  have HQ := Lib.hid (fun w => putN_any b hb w)
  have T1 := Lib.hid (take1_enc a (enc b) ha)
  have T2 : Hid (take1 (enc b) = (b, (enc b).length, 0)) := by have := take1_enc b [] hb; rwa [List.append_nil] at this
  have L1 := enc_pos a
  have L2 := enc_len_mono (Nat.le_of_lt hab)
  have L3 := enc_len_le hb
  have NE : Hid (enc a ≠ enc b) := fun e => by have := enc_inj e; omega
  clear ha hb hab
  generalize enc a = xs at *
  generalize enc b = ys at *
  go_enter Try.func6, Try.ntmps6
  go_wp2_with (go_at_call 8; refine (live_any _).mono ?_; rintro e w1 ⟨rfl, hb⟩; have B1 := Lib.hid hb; clear hb)
  refine (HP.out w1).mono ?_
  rintro e w2 ⟨X, k, c, rfl, hX, hb2⟩
  obtain ⟨hx, rfl⟩ := gave_row hX (by omega)
  have RX := Lib.hid hx
  have B2 := Lib.hid (B1.out.trans (hb2.mono B1.out.size))
  clear hX hx hb2 HP
  go_wp2_with fail
  refine (HQ.out w2).mono ?_
  rintro e w3 ⟨Y, j, d, rfl, hY, hb3⟩
  obtain ⟨hy, rfl⟩ := gave_row hY (by omega)
  have RY := Lib.hid hy
  have RX3 := Lib.hid (RX.out.below hb3)
  have B3 := Lib.hid (B2.out.trans (hb3.mono B2.out.size))
  clear hY hy hb3 RX B1 B2 HQ
  go_wp2_with (first
    | (at_builtin
       refine wpList_append_row cb_one Try.underlying23 info_byte rfl rfl (.const (.slice none 0 0)) (.tmp 24) rfl rfl w3.heap.size (.slice none 0 0) 0 [] rfl (Owns.nil _ _ _ _) X xs.length c xs rfl RX3.out (by omega) (by omega) (Nat.le_refl _) ?_
       intro A4 c4 w4 hown4 hb4
       have O4 := Lib.hid (show Owns cb 5 w3.heap.size w4 (.slice A4 xs.length c4) xs.length xs by simpa using hown4)
       have B4 := Lib.hid hb4
       clear hown4 hb4)
    | (at_builtin
       refine wpList_append_row cb_one Try.underlying23 info_byte rfl rfl (.tmp 25) (.tmp 26) rfl rfl w3.heap.size (.slice A4 xs.length c4) xs.length xs rfl O4.out Y ys.length d ys rfl (RY.out.below B4.out) (by omega) (by omega) (B4.out.size) ?_
       intro A5 c5 w5 hown5 hb5
       have R5 := Lib.hid (gave_row hown5 (by simp; omega)).1
       have B5 := Lib.hid (B4.out.trans hb5)
       clear hown5 hb5 O4 B4))
  refine (take_at R5.out T1.out).mono ?_
  rintro e w6 ⟨rfl, hb6⟩
  have B36 := Lib.hid (B5.out.trans (hb6.mono B5.out.size))
  have RX6 := Lib.hid (RX3.out.below B36.out)
  have RY6 := Lib.hid (RY.out.below B36.out)
  have B6 := Lib.hid (B3.out.trans (B36.out.mono B3.out.size))
  clear hb6 B36 RX3 RY B3 B5 R5 T1
  go_wp2_with (first
    | (at_builtin
       refine wpList_append_row cb_one Try.underlying23 info_byte rfl rfl (.const (.slice none 0 0)) (.tmp 65) rfl rfl w6.heap.size (.slice none 0 0) 0 [] rfl (Owns.nil _ _ _ _) X xs.length c xs rfl RX6.out (by omega) (by omega) (Nat.le_refl _) ?_
       intro A7 c7 w7 hown7 hb7
       have O7 := Lib.hid (show Owns cb 5 w6.heap.size w7 (.slice A7 xs.length c7) xs.length xs by simpa using hown7)
       have B7 := Lib.hid hb7
       clear hown7 hb7)
    | (at_builtin
       refine wpList_append_row cb_one Try.underlying23 info_byte rfl rfl (.tmp 66) (.tmp 67) rfl rfl w6.heap.size (.slice A7 xs.length c7) xs.length xs rfl O7.out Y ys.length d ys rfl (RY6.out.below B7.out) (by omega) (by omega) (B7.out.size) ?_
       intro A8 c8 w8 hown8 hb8
       have h8 := (gave_row hown8 (by simp; omega)).1
       have hsl := run_tail A8 (xs.length + ys.length) c8 xs.length (by omega)
       rw [Nat.add_sub_cancel_left] at hsl
       have h9 := h8.tail (k := xs.length) (by omega)
       rw [Nat.add_sub_cancel_left, List.drop_left] at h9
       have R8 := Lib.hid h9
       have B8 := Lib.hid (B7.out.trans hb8)
       clear hown8 hb8 O7 B7 h8 h9))
  refine (take_at R8.out T2.out).mono ?_
  rintro e w9 ⟨rfl, hb9⟩
  have B69 := Lib.hid (B8.out.trans (hb9.mono B8.out.size))
  have hsx := run_str (RX6.out.below B69.out)
  have hsy := run_str (RY6.out.below B69.out)
  have B9 := Lib.hid (B6.out.trans (B69.out.mono B6.out.size))
  clear hb9 B69 RX6 RY6 B6 B8 R8 T2
  go_wp2
  go_ret
  have e1 : decide (xs = ys) = false := by simpa using NE.out
  have e2 : ((a : Int) == (b : Int)) = false := by simp; omega
  exact ⟨ret_bool (by rw [str_beq, e1, e2]; rfl), B9.out⟩

set_option maxRecDepth 100000 in
set_option maxHeartbeats 1600000 in
theorem wireShort_gt (a b : Nat) (ha : a < 18446744073709551616) (hb : b < 18446744073709551616) (hab : b < a) (w : World) :
    Calls Try.prog 6 #[.int .u64 a, .int .u64 b] w fun e w' => e = .returned (.bool true) ∧ Below w.heap.size w w' := by
  have hi : (b : Int) < (a : Int) := by omega
  have HP := Lib.hid (fun w => putN_any b hb w)
  have HQ := Lib.hid (fun w => putN_any a ha w)
  have T1 := Lib.hid (take1_enc b (enc a) hb)
  have T2 : Hid (take1 (enc a) = (a, (enc a).length, 0)) := by have := take1_enc a [] ha; rwa [List.append_nil] at this
  have L1 := enc_pos b
  have L2 := enc_len_mono (Nat.le_of_lt hab)
  have L3 := enc_len_le ha
  have NE : Hid (enc b ≠ enc a) := fun e => by have := enc_inj e; omega
  clear ha hb hab
  generalize enc b = xs at *
  generalize enc a = ys at *
  go_enter Try.func6, Try.ntmps6
  go_wp2_with (go_at_call 8; refine (live_any _).mono ?_; rintro e w1 ⟨rfl, hb⟩; have B1 := Lib.hid hb; clear hb)
  refine (HP.out w1).mono ?_
  rintro e w2 ⟨X, k, c, rfl, hX, hb2⟩
  obtain ⟨hx, rfl⟩ := gave_row hX (by omega)
  have RX := Lib.hid hx
  have B2 := Lib.hid (B1.out.trans (hb2.mono B1.out.size))
  clear hX hx hb2 HP
  go_wp2_with fail
  refine (HQ.out w2).mono ?_
  rintro e w3 ⟨Y, j, d, rfl, hY, hb3⟩
  obtain ⟨hy, rfl⟩ := gave_row hY (by omega)
  have RY := Lib.hid hy
  have RX3 := Lib.hid (RX.out.below hb3)
  have B3 := Lib.hid (B2.out.trans (hb3.mono B2.out.size))
  clear hY hy hb3 RX B1 B2 HQ
  go_wp2_with (first
    | (at_builtin
       refine wpList_append_row cb_one Try.underlying23 info_byte rfl rfl (.const (.slice none 0 0)) (.tmp 24) rfl rfl w3.heap.size (.slice none 0 0) 0 [] rfl (Owns.nil _ _ _ _) X xs.length c xs rfl RX3.out (by omega) (by omega) (Nat.le_refl _) ?_
       intro A4 c4 w4 hown4 hb4
       have O4 := Lib.hid (show Owns cb 5 w3.heap.size w4 (.slice A4 xs.length c4) xs.length xs by simpa using hown4)
       have B4 := Lib.hid hb4
       clear hown4 hb4)
    | (at_builtin
       refine wpList_append_row cb_one Try.underlying23 info_byte rfl rfl (.tmp 25) (.tmp 26) rfl rfl w3.heap.size (.slice A4 xs.length c4) xs.length xs rfl O4.out Y ys.length d ys rfl (RY.out.below B4.out) (by omega) (by omega) (B4.out.size) ?_
       intro A5 c5 w5 hown5 hb5
       have R5 := Lib.hid (gave_row hown5 (by simp; omega)).1
       have B5 := Lib.hid (B4.out.trans hb5)
       clear hown5 hb5 O4 B4))
  refine (take_at R5.out T1.out).mono ?_
  rintro e w6 ⟨rfl, hb6⟩
  have B36 := Lib.hid (B5.out.trans (hb6.mono B5.out.size))
  have RX6 := Lib.hid (RX3.out.below B36.out)
  have RY6 := Lib.hid (RY.out.below B36.out)
  have B6 := Lib.hid (B3.out.trans (B36.out.mono B3.out.size))
  clear hb6 B36 RX3 RY B3 B5 R5 T1
  go_wp2_with (first
    | (at_builtin
       refine wpList_append_row cb_one Try.underlying23 info_byte rfl rfl (.const (.slice none 0 0)) (.tmp 65) rfl rfl w6.heap.size (.slice none 0 0) 0 [] rfl (Owns.nil _ _ _ _) X xs.length c xs rfl RX6.out (by omega) (by omega) (Nat.le_refl _) ?_
       intro A7 c7 w7 hown7 hb7
       have O7 := Lib.hid (show Owns cb 5 w6.heap.size w7 (.slice A7 xs.length c7) xs.length xs by simpa using hown7)
       have B7 := Lib.hid hb7
       clear hown7 hb7)
    | (at_builtin
       refine wpList_append_row cb_one Try.underlying23 info_byte rfl rfl (.tmp 66) (.tmp 67) rfl rfl w6.heap.size (.slice A7 xs.length c7) xs.length xs rfl O7.out Y ys.length d ys rfl (RY6.out.below B7.out) (by omega) (by omega) (B7.out.size) ?_
       intro A8 c8 w8 hown8 hb8
       have h8 := (gave_row hown8 (by simp; omega)).1
       have hsl := run_tail A8 (xs.length + ys.length) c8 xs.length (by omega)
       rw [Nat.add_sub_cancel_left] at hsl
       have h9 := h8.tail (k := xs.length) (by omega)
       rw [Nat.add_sub_cancel_left, List.drop_left] at h9
       have R8 := Lib.hid h9
       have B8 := Lib.hid (B7.out.trans hb8)
       clear hown8 hb8 O7 B7 h8 h9))
  refine (take_at R8.out T2.out).mono ?_
  rintro e w9 ⟨rfl, hb9⟩
  have B69 := Lib.hid (B8.out.trans (hb9.mono B8.out.size))
  have hsx := run_str (RX6.out.below B69.out)
  have hsy := run_str (RY6.out.below B69.out)
  have B9 := Lib.hid (B6.out.trans (B69.out.mono B6.out.size))
  clear hb9 B69 RX6 RY6 B6 B8 R8 T2
  go_wp2
  go_ret
  have e1 : decide (xs = ys) = false := by simpa using NE.out
  have e2 : ((a : Int) == (b : Int)) = false := by simp; omega
  exact ⟨ret_bool (by rw [str_beq, e1, e2]; rfl), B9.out⟩

set_option maxRecDepth 100000 in
set_option maxHeartbeats 1600000 in
theorem wireShort_eq (a : Nat) (ha : a < 18446744073709551616) (w : World) :
    Calls Try.prog 6 #[.int .u64 a, .int .u64 a] w fun e w' => e = .returned (.bool true) ∧ Below w.heap.size w w' := by
  have HP := Lib.hid (fun w => putN_any a ha w)
  have HQ := Lib.hid (fun w => putN_any a ha w)
  have T1 := Lib.hid (take1_enc a (enc a) ha)
  have T2 : Hid (take1 (enc a) = (a, (enc a).length, 0)) := by have := take1_enc a [] ha; rwa [List.append_nil] at this
  have L1 := enc_pos a
  have L2 := Nat.le_refl (enc a).length
  have L3 := enc_len_le ha
  clear ha
  generalize enc a = xs at *
  go_enter Try.func6, Try.ntmps6
  go_wp2_with (go_at_call 8; refine (live_any _).mono ?_; rintro e w1 ⟨rfl, hb⟩; have B1 := Lib.hid hb; clear hb)
  refine (HP.out w1).mono ?_
  rintro e w2 ⟨X, k, c, rfl, hX, hb2⟩
  obtain ⟨hx, rfl⟩ := gave_row hX (by omega)
  have RX := Lib.hid hx
  have B2 := Lib.hid (B1.out.trans (hb2.mono B1.out.size))
  clear hX hx hb2 HP
  go_wp2_with fail
  refine (HQ.out w2).mono ?_
  rintro e w3 ⟨Y, j, d, rfl, hY, hb3⟩
  obtain ⟨hy, rfl⟩ := gave_row hY (by omega)
  have RY := Lib.hid hy
  have RX3 := Lib.hid (RX.out.below hb3)
  have B3 := Lib.hid (B2.out.trans (hb3.mono B2.out.size))
  clear hY hy hb3 RX B1 B2 HQ
  go_wp2_with (first
    | (at_builtin
       refine wpList_append_row cb_one Try.underlying23 info_byte rfl rfl (.const (.slice none 0 0)) (.tmp 24) rfl rfl w3.heap.size (.slice none 0 0) 0 [] rfl (Owns.nil _ _ _ _) X xs.length c xs rfl RX3.out (by omega) (by omega) (Nat.le_refl _) ?_
       intro A4 c4 w4 hown4 hb4
       have O4 := Lib.hid (show Owns cb 5 w3.heap.size w4 (.slice A4 xs.length c4) xs.length xs by simpa using hown4)
       have B4 := Lib.hid hb4
       clear hown4 hb4)
    | (at_builtin
       refine wpList_append_row cb_one Try.underlying23 info_byte rfl rfl (.tmp 25) (.tmp 26) rfl rfl w3.heap.size (.slice A4 xs.length c4) xs.length xs rfl O4.out Y xs.length d xs rfl (RY.out.below B4.out) (by omega) (by omega) (B4.out.size) ?_
       intro A5 c5 w5 hown5 hb5
       have R5 := Lib.hid (gave_row hown5 (by simp; omega)).1
       have B5 := Lib.hid (B4.out.trans hb5)
       clear hown5 hb5 O4 B4))
  refine (take_at R5.out T1.out).mono ?_
  rintro e w6 ⟨rfl, hb6⟩
  have B36 := Lib.hid (B5.out.trans (hb6.mono B5.out.size))
  have RX6 := Lib.hid (RX3.out.below B36.out)
  have RY6 := Lib.hid (RY.out.below B36.out)
  have B6 := Lib.hid (B3.out.trans (B36.out.mono B3.out.size))
  clear hb6 B36 RX3 RY B3 B5 R5 T1
  go_wp2_with (first
    | (at_builtin
       refine wpList_append_row cb_one Try.underlying23 info_byte rfl rfl (.const (.slice none 0 0)) (.tmp 65) rfl rfl w6.heap.size (.slice none 0 0) 0 [] rfl (Owns.nil _ _ _ _) X xs.length c xs rfl RX6.out (by omega) (by omega) (Nat.le_refl _) ?_
       intro A7 c7 w7 hown7 hb7
       have O7 := Lib.hid (show Owns cb 5 w6.heap.size w7 (.slice A7 xs.length c7) xs.length xs by simpa using hown7)
       have B7 := Lib.hid hb7
       clear hown7 hb7)
    | (at_builtin
       refine wpList_append_row cb_one Try.underlying23 info_byte rfl rfl (.tmp 66) (.tmp 67) rfl rfl w6.heap.size (.slice A7 xs.length c7) xs.length xs rfl O7.out Y xs.length d xs rfl (RY6.out.below B7.out) (by omega) (by omega) (B7.out.size) ?_
       intro A8 c8 w8 hown8 hb8
       have h8 := (gave_row hown8 (by simp; omega)).1
       have hsl := run_tail A8 (xs.length + xs.length) c8 xs.length (by omega)
       rw [Nat.add_sub_cancel_left] at hsl
       have h9 := h8.tail (k := xs.length) (by omega)
       rw [Nat.add_sub_cancel_left, List.drop_left] at h9
       have R8 := Lib.hid h9
       have B8 := Lib.hid (B7.out.trans hb8)
       clear hown8 hb8 O7 B7 h8 h9))
  refine (take_at R8.out T2.out).mono ?_
  rintro e w9 ⟨rfl, hb9⟩
  have B69 := Lib.hid (B8.out.trans (hb9.mono B8.out.size))
  have hsx := run_str (RX6.out.below B69.out)
  have hsy := run_str (RY6.out.below B69.out)
  have B9 := Lib.hid (B6.out.trans (B69.out.mono B6.out.size))
  clear hb9 B69 RX6 RY6 B6 B8 R8 T2
  go_wp2
  go_ret
  exact ⟨ret_bool (by simp), B9.out⟩

theorem wireShort_says : Frame.Says Rows.wireShortSpec 2 := by
  refine ⟨rfl, fun H ds h => ?_, fun H ds h => ?_, fun H ds h => ?_⟩ <;>
  · match ds, h with
    | [d1, d2], _ => rfl

theorem wireShort_walks : Frame.Walks 6 [35, 35] := by
  intro H enc W args ds ps base hok hA hsz
  obtain ⟨v0, vs0, d0, ds0, p0, q0, hargs, rfl, rfl, h0, r0⟩ := trodAll_cons hA
  obtain ⟨v1, vs1, d1, ds1, p1, q1, rfl, rfl, rfl, h1, r1⟩ := trodAll_cons r0
  obtain ⟨rfl, rfl, rfl⟩ := trodAll_nil r1
  obtain rfl : args = #[v0, v1] := by cases args; simp_all
  obtain ⟨c, rfl, rfl, rfl, wc⟩ := open_int Try.underlying35 (hok 0 _ v0 rfl rfl) h0
  obtain ⟨d, rfl, rfl, rfl, wd⟩ := open_int Try.underlying35 (hok 1 _ v1 rfl rfl) h1
  obtain ⟨a, rfl, ha⟩ := u64_of wc
  obtain ⟨b, rfl, hb⟩ := u64_of wd
  rcases Nat.lt_trichotomy a b with hab | rfl | hab
  · exact wireShort_lt a b ha hb hab W
  · exact wireShort_eq a ha W
  · exact wireShort_gt a b ha hb hab W

theorem wireShort_over : Rows.wireShortRow.holds Try.pinned (OpenSpec.ofChange Rows.wireShortSpec) :=
  OpenClaim.holds_of_wide 6 Try.f6 rfl rfl rfl rfl rfl rfl rfl ⟨rfl, rfl, rfl, rfl, rfl⟩ rfl rfl rfl rfl rfl (by kernel_rfl) Try.func6 (by kernel_rfl)
    (of_decide_eq_true (by kernel_rfl)) (by unfold Func.isWrapper; first | (rw [if_pos (by decide +kernel)]; kernel_rfl) | (rw [if_neg (by decide +kernel)]; exact ⟨rfl, rfl⟩))
    (fun os started H enc _ => Frame.lifted (started := started) Try.underlying4 (by kernel_rfl) Try.func6 (n := 2) (by rw [Try.params6]; rfl) wireShort_says (by rw [Try.params6]; kernel_rfl) (by kernel_rfl)
      (ChangeSpec.witness6 (enc := enc) (C := Try.checked) false ⟨#[], #[.int .u64 0, .int .u64 0], []⟩ 8 (by kernel_rfl) (by kernel_rfl) (by kernel_rfl) (by kernel_rfl))
      (by rw [Try.params6]; exact wireShort_walks))
end Wire
/-- The given statement. -/
theorem wireShort_holds : Rows.WireShortSaid := Wire.wireShort_over
end Go.Proofs.Ytdnmopoabeabkaa
