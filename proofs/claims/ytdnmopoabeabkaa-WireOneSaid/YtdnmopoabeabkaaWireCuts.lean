/-
  WireCuts: FOR EVERY INTS, BYTES AND PLACE OF A CUT THE LAW RETURNS TRUE (numbers and a vector that are cut anywhere are too short, and nothing is told) AND CHANGES NOTHING THAT WAS THERE.
  No condition beside the row's own (what can be read as data, within the model's reach).
-/
import Derived.Test.YtdnmopoabeabkaaWireRows
import Derived.Test.YtdnmopoabeabkaaWireFixed
namespace Go.Proofs.Ytdnmopoabeabkaa
open Go.ChangeShapes Go.WideShapes Go.ChangeAt Go.RowKit Mem Args
namespace Wire

theorem asInts_toNat : ∀ {l : List Int}, (∀ z ∈ l, 0 ≤ z) → asInts (l.map Int.toNat) = l := by
  intro l
  induction l with
  | nil => intro _; rfl
  | cons z l ih =>
    intro h
    have h1 := h z (by simp)
    have h2 := ih fun y hy => h y (by simp [hy])
    unfold asInts at *
    simp only [List.map_cons]
    rw [h2, Int.toNat_of_nonneg h1]
theorem nums_pos {A : Option Addr} {n c : Nat} {l : List Int} {w : World} (h : Row ci w A n c l) (hr : ∀ z ∈ l, z < 9223372036854775808) (hn : n ≤ 1000) (hp : ∀ z ∈ l, 0 ≤ z) :
    Calls Try.prog 21 #[.slice A n c] w (GaveE cb 5 w.heap.size w (encs (l.map Int.toNat)) 0) :=
  (nums_any h hr hn).mono fun e w' hN => by
    rcases hN with ⟨-, h⟩ | ⟨⟨z, hz, hneg⟩, -⟩
    · exact h
    · have := hp z hz; omega
theorem nums_neg {A : Option Addr} {n c : Nat} {l : List Int} {w : World} (h : Row ci w A n c l) (hr : ∀ z ∈ l, z < 9223372036854775808) (hn : n ≤ 1000) (hp : ¬ ∀ z ∈ l, 0 ≤ z) :
    Calls Try.prog 21 #[.slice A n c] w fun e w' => e = .returned (.tuple #[.slice none 0 0, .int .i64 1]) ∧ Below w.heap.size w w' :=
  (nums_any h hr hn).mono fun e w' hN => by
    rcases hN with ⟨h, -⟩ | ⟨-, h⟩
    · exact absurd h hp
    · exact h

theorem tmod_bounds (cut : Int) (n : Nat) (hn : 0 < n) : -(n : Int) < Int.tmod cut n ∧ Int.tmod cut n < (n : Int) := by
  rcases Int.le_total 0 cut with h | h
  · rw [Int.tmod_eq_emod_of_nonneg h]
    have h1 := Int.emod_nonneg cut (b := (n : Int)) (by omega)
    have h2 := Int.emod_lt_of_pos cut (b := (n : Int)) (by omega)
    omega
  · have e : cut = -(-cut) := by omega
    rw [e, Int.neg_tmod, Int.tmod_eq_emod_of_nonneg (by omega)]
    have h1 := Int.emod_nonneg (-cut) (b := (n : Int)) (by omega)
    have h2 := Int.emod_lt_of_pos (-cut) (b := (n : Int)) (by omega)
    omega
/-- Where a cut comes to lie. -/
theorem cut_at (cut : Int) (n : Nat) (hn : 0 < n) : ∃ (r : Int) (j : Nat), Int.tmod cut n = r ∧ -(n : Int) < r ∧ r < (n : Int) ∧ Int.tmod (r + n) n = j ∧ (r + n) % (n : Int) = j ∧ j < n := by
  obtain ⟨h1, h2⟩ := tmod_bounds cut n hn
  have h3 := Int.emod_nonneg (Int.tmod cut n + n) (b := (n : Int)) (by omega)
  have h4 := Int.emod_lt_of_pos (Int.tmod cut n + n) (b := (n : Int)) (by omega)
  refine ⟨_, ((Int.tmod cut n + n) % (n : Int)).toNat, rfl, h1, h2, ?_, by omega, by omega⟩
  rw [Int.tmod_eq_emod_of_nonneg (by omega)]
  omega

set_option maxRecDepth 100000 in
set_option maxHeartbeats 1600000 in
theorem wireCuts_big (A : Option Addr) (n c : Nat) (l : List Int) (B : Option Addr) (m d : Nat) (x : List B8) (cut : Int) (w : World) (h1 : Row ci w A n c l) (h2 : Row cb w B m d x) (hbig : 500 < n ∨ 5000 < m) :
    Calls Try.prog 7 #[.slice A n c, .slice B m d, .int .i64 cut] w fun e w' => e = .returned (.bool true) ∧ Below w.heap.size w w' := by
  have b1 := h1.big
  have b2 := h2.big
  clear h1 h2
  by_cases hn : 500 < n
  · clear hbig
    go_enter Try.func7, Try.ntmps7
    go_wp2_with (go_at_call 8; refine (live_any _).mono ?_; rintro e w1 ⟨rfl, hb⟩; have B1 := Lib.hid hb; clear hb)
    all_goals (go_ret; exact ⟨rfl, B1.out⟩)
  · have hm : 5000 < m := by omega
    clear hbig
    go_enter Try.func7, Try.ntmps7
    go_wp2_with (go_at_call 8; refine (live_any _).mono ?_; rintro e w1 ⟨rfl, hb⟩; have B1 := Lib.hid hb; clear hb)
    all_goals (go_ret; exact ⟨rfl, B1.out⟩)

set_option maxRecDepth 100000 in
set_option maxHeartbeats 3200000 in
theorem wireCuts_neg (A : Option Addr) (n c : Nat) (l : List Int) (B : Option Addr) (m d : Nat) (x : List B8) (cut : Int) (w : World) (h1 : Row ci w A n c l) (h2 : Row cb w B m d x) (hr : ∀ z ∈ l, z < 9223372036854775808) (hn : n ≤ 500) (hm : m ≤ 5000) (hneg : ¬ ∀ z ∈ l, 0 ≤ z) :
    Calls Try.prog 7 #[.slice A n c, .slice B m d, .int .i64 cut] w fun e w' => e = .returned (.bool true) ∧ Below w.heap.size w w' := by
  have H1 := Lib.hid h1
  have H2 := Lib.hid h2
  have hn0 : 0 < n := by
    rcases Nat.eq_zero_or_pos n with h0 | h0
    · exfalso; apply hneg
      have : l = [] := List.eq_nil_of_length_eq_zero (by rw [h1.len, h0])
      subst this; simp
    · exact h0
  have HN := Lib.hid (fun (w : World) (h : Row ci w A n c l) => nums_neg h hr (by omega) hneg)
  have hv1 : 0 < (encV x).length := by unfold encV; have := enc_pos x.length; rw [List.length_append]; omega
  have hv2 : (encV x).length ≤ 6000 := by unfold encV; have := enc_len_le (n := x.length) (by have := h2.len; omega); have := h2.len; rw [List.length_append]; omega
  obtain ⟨r, j, q1, q2, q3, q4, q5, q6⟩ := cut_at cut _ hv1
  have HC : Hid (vec1 ((encV x).take j) = ([], 0, 20)) := vec1_cut x j (by have := h2.len; omega) q6
  have HV := Lib.hid (fun (w : World) (h : Row cb w B m d x) => vec_ok h (by omega))
  clear h1 h2 hr hneg
  generalize encV x = v at *
  have hnn : ((n : Int) == 0) = false := beq_eq_false_iff_ne.2 (by omega)
  have hv0 : ((v.length : Int) == 0) = false := beq_eq_false_iff_ne.2 (by omega)
  go_enter Try.func7, Try.ntmps7
  go_wp2_with (first
    | (go_at_call 8; refine (live_any _).mono ?_; rintro e w1 ⟨rfl, hb⟩; have B1 := Lib.hid hb; clear hb)
    | (go_at_call 21; refine (HN.out _ (H1.out.below B1.out)).mono ?_; rintro e w2 ⟨rfl, hb⟩; have B2 := Lib.hid (B1.out.trans (hb.mono B1.out.size)); clear hb)
    | (go_at_call 16; refine (HV.out _ (H2.out.below B2.out)).mono ?_; rintro e w3 ⟨X, k, f, rfl, hX, hb⟩; obtain ⟨hx, rfl⟩ := gave_row hX (by omega); have B3 := Lib.hid (B2.out.trans (hb.mono B2.out.size)); have hsl := run_head X v.length f j (by have := hx.cap; omega); have R3 := Lib.hid (hx.head (k := j) (by omega)); clear hX hx hb)
    | (go_at_call 15; refine (takeVec_at R3.out (by omega) HC.out).mono ?_; rintro e w4 ⟨Y, k, g, rfl, hY, hb⟩; obtain rfl : k = 0 := hY.len.symm; have B4 := Lib.hid (B3.out.trans (hb.mono B3.out.size)); clear hY hb))
  go_ret
  exact ⟨rfl, B4.out⟩

set_option maxRecDepth 100000 in
set_option maxHeartbeats 3200000 in
theorem wireCuts_nil (A : Option Addr) (c : Nat) (B : Option Addr) (m d : Nat) (x : List B8) (cut : Int) (w : World) (h1 : Row ci w A 0 c []) (h2 : Row cb w B m d x) (hm : m ≤ 5000) :
    Calls Try.prog 7 #[.slice A 0 c, .slice B m d, .int .i64 cut] w fun e w' => e = .returned (.bool true) ∧ Below w.heap.size w w' := by
  have H1 := Lib.hid h1
  have H2 := Lib.hid h2
  have HN := Lib.hid (fun (w : World) (h : Row ci w A 0 c []) => nums_pos h (by simp) (by omega) (by simp))
  have hv1 : 0 < (encV x).length := by unfold encV; have := enc_pos x.length; rw [List.length_append]; omega
  have hv2 : (encV x).length ≤ 6000 := by unfold encV; have := enc_len_le (n := x.length) (by have := h2.len; omega); have := h2.len; rw [List.length_append]; omega
  obtain ⟨r, j, q1, q2, q3, q4, q5, q6⟩ := cut_at cut _ hv1
  have HC : Hid (vec1 ((encV x).take j) = ([], 0, 20)) := vec1_cut x j (by have := h2.len; omega) q6
  have HV := Lib.hid (fun (w : World) (h : Row cb w B m d x) => vec_ok h (by omega))
  clear h1 h2
  generalize encV x = v at *
  have hv0 : ((v.length : Int) == 0) = false := beq_eq_false_iff_ne.2 (by omega)
  go_enter Try.func7, Try.ntmps7
  go_wp2_with (first
    | (go_at_call 8; refine (live_any _).mono ?_; rintro e w1 ⟨rfl, hb⟩; have B1 := Lib.hid hb; clear hb)
    | (go_at_call 21; refine (HN.out _ (H1.out.below B1.out)).mono ?_; rintro e w2 ⟨X2, k2, f2, rfl, hX2, hb⟩; obtain rfl : k2 = 0 := hX2.len.symm; have B2 := Lib.hid (B1.out.trans (hb.mono B1.out.size)); clear hX2 hb)
    | (go_at_call 16; refine (HV.out _ (H2.out.below B2.out)).mono ?_; rintro e w3 ⟨X, k, f, rfl, hX, hb⟩; obtain ⟨hx, rfl⟩ := gave_row hX (by omega); have B3 := Lib.hid (B2.out.trans (hb.mono B2.out.size)); have hsl := run_head X v.length f j (by have := hx.cap; omega); have R3 := Lib.hid (hx.head (k := j) (by omega)); clear hX hx hb)
    | (go_at_call 15; refine (takeVec_at R3.out (by omega) HC.out).mono ?_; rintro e w4 ⟨Y, k, g, rfl, hY, hb⟩; obtain rfl : k = 0 := hY.len.symm; have B4 := Lib.hid (B3.out.trans (hb.mono B3.out.size)); clear hY hb))
  go_ret
  exact ⟨rfl, B4.out⟩

set_option maxRecDepth 100000 in
set_option maxHeartbeats 3200000 in
theorem wireCuts_pos (A : Option Addr) (n c : Nat) (l : List Int) (B : Option Addr) (m d : Nat) (x : List B8) (cut : Int) (w : World) (h1 : Row ci w A n c l) (h2 : Row cb w B m d x) (hr : ∀ z ∈ l, z < 9223372036854775808) (hn0 : 0 < n) (hn : n ≤ 500) (hm : m ≤ 5000) (hpos : ∀ z ∈ l, 0 ≤ z) :
    Calls Try.prog 7 #[.slice A n c, .slice B m d, .int .i64 cut] w fun e w' => e = .returned (.bool true) ∧ Below w.heap.size w w' := by
  have H1 := Lib.hid h1
  have H2 := Lib.hid h2
  have HN := Lib.hid (fun (w : World) (h : Row ci w A n c l) => nums_pos h hr (by omega) hpos)
  have hv1 : 0 < (encV x).length := by unfold encV; have := enc_pos x.length; rw [List.length_append]; omega
  have hv2 : (encV x).length ≤ 6000 := by unfold encV; have := enc_len_le (n := x.length) (by have := h2.len; omega); have := h2.len; rw [List.length_append]; omega
  obtain ⟨r, j, q1, q2, q3, q4, q5, q6⟩ := cut_at cut _ hv1
  have HC : Hid (vec1 ((encV x).take j) = ([], 0, 20)) := vec1_cut x j (by have := h2.len; omega) q6
  have HV := Lib.hid (fun (w : World) (h : Row cb w B m d x) => vec_ok h (by omega))
  -- the numbers
  have hsm : ∀ y ∈ l.map Int.toNat, y < 9223372036854775808 := fun y hy => by
    obtain ⟨z, hz, rfl⟩ := List.mem_map.1 hy
    have := hr z hz
    omega
  have hb1 : 0 < (encs (l.map Int.toNat)).length := by have := encs_len_ge (l.map Int.toNat); have := h1.len; simp at *; omega
  have hb2 : (encs (l.map Int.toNat)).length ≤ 6000 := by have := encs_len (l := l.map Int.toNat) (fun y hy => by have := hsm y hy; omega); have := h1.len; simp at *; omega
  obtain ⟨s, i, p1, p2, p3, p4, p5, p6⟩ := cut_at cut _ hb1
  have hlm : (l.map Int.toNat).length = n := by rw [List.length_map, h1.len]
  have HK : Hid (ints n ((encs (l.map Int.toNat)).take i) = ([], 0, 20)) := by have := ints_cut (l.map Int.toNat) i hsm p6; rw [hlm] at this; exact this
  have HA : Hid (ints n (encs (l.map Int.toNat)) = (l.map Int.toNat, (encs (l.map Int.toNat)).length, 0)) := by have := ints_encs [] (l.map Int.toNat) hsm; rw [hlm, List.append_nil] at this; exact this
  have HI := Lib.hid (asInts_toNat hpos)
  clear h1 h2 hr hpos hsm hlm
  generalize encV x = v at *
  generalize encs (l.map Int.toNat) = b at *
  have hv0 : ((v.length : Int) == 0) = false := beq_eq_false_iff_ne.2 (by omega)
  have hb0 : ((b.length : Int) == 0) = false := beq_eq_false_iff_ne.2 (by omega)
  go_enter Try.func7, Try.ntmps7
  go_wp2_with (first
    | (go_at_call 8; refine (live_any _).mono ?_; rintro e w1 ⟨rfl, hb⟩; have B1 := Lib.hid hb; clear hb)
    | (go_at_call 21; refine (HN.out _ (H1.out.below B1.out)).mono ?_; rintro e w2 ⟨X2, k2, f2, rfl, hX2, hb⟩; obtain ⟨hx, rfl⟩ := gave_row hX2 (by omega); have hsl2 := run_head X2 b.length f2 i (by have := hx.cap; omega); have B2 := Lib.hid (B1.out.trans (hb.mono B1.out.size)); have R2 := Lib.hid hx; clear hX2 hx hb)
    | (go_at_call 16; refine (HV.out _ (H2.out.below B2.out)).mono ?_; rintro e w3 ⟨X, k, f, rfl, hX, hb⟩; obtain ⟨hx, rfl⟩ := gave_row hX (by omega); have R23 := Lib.hid (R2.out.below hb); have B3 := Lib.hid (B2.out.trans (hb.mono B2.out.size)); have hsl := run_head X v.length f j (by have := hx.cap; omega); have R3 := Lib.hid (hx.head (k := j) (by omega)); clear hX hx hb)
    | (go_at_call 15; refine (takeVec_at R3.out (by omega) HC.out).mono ?_; rintro e w4 ⟨Y, k, g, rfl, hY, hb⟩; obtain rfl : k = 0 := hY.len.symm; have R24 := Lib.hid (R23.out.below hb); have B4 := Lib.hid (B3.out.trans (hb.mono B3.out.size)); clear hY hb))
  refine (takeNums_at (R24.out.head (k := i) (by omega)) (by omega) n (by omega) HK.out).mono ?_
  rintro e w5 ⟨Z, k, g5, rfl, hZ, hb5⟩
  obtain rfl : k = 0 := hZ.len.symm
  have R25 := Lib.hid (R24.out.below hb5)
  have B5 := Lib.hid (B4.out.trans (hb5.mono B4.out.size))
  clear hZ hb5
  go_wp2_with fail
  refine (takeNums_at R25.out (by omega) n (by omega) HA.out).mono ?_
  rintro e w6 ⟨V, k6, g6, rfl, hV, hb6⟩
  obtain ⟨hv, hk6⟩ := gave_row hV (by rw [HI.out, H1.out.len]; omega)
  rw [HI.out] at hv
  have R6 := Lib.hid hv
  have B6 := Lib.hid (B5.out.trans (hb6.mono B5.out.size))
  clear hV hb6 hv hk6 B1 B2 B3 R2 R23 R24 R25 R3 HN HV HC HK HA
  go_wp2_with (go_at_call 23; refine (sameInts_any R6.out (H1.out.below B6.out)).mono ?_; rintro e w7 ⟨rfl, hb⟩; have B7 := Lib.hid (B6.out.trans (hb.mono B6.out.size)); clear hb)
  go_ret
  exact ⟨rfl, B7.out⟩

theorem wireCuts_says : Frame.Says Rows.wireCutsSpec 3 := by
  refine ⟨rfl, fun H ds h => ?_, fun H ds h => ?_, fun H ds h => ?_⟩ <;>
  · match ds, h with
    | [d1, d2, d3], _ => rfl

theorem wireCuts_walks : Frame.Walks 7 [22, 23, 3] := by
  intro H enc W args ds ps base hok hA hsz
  obtain ⟨v0, vs0, d0, ds0, p0, q0, hargs, rfl, rfl, h0, r0⟩ := trodAll_cons hA
  obtain ⟨v1, vs1, d1, ds1, p1, q1, rfl, rfl, rfl, h1, r1⟩ := trodAll_cons r0
  obtain ⟨v2, vs2, d2, ds2, p2, q2, rfl, rfl, rfl, h2, r2⟩ := trodAll_cons r1
  obtain ⟨rfl, rfl, rfl⟩ := trodAll_nil r2
  obtain rfl : args = #[v0, v1, v2] := by cases args; simp_all
  obtain ⟨A, n, c, l, rfl, l0, wl⟩ := open_ints_ (hok 0 _ v0 rfl rfl) h0 (sized_arg hsz (j := 0) rfl rfl)
  obtain ⟨B, m, d, x, rfl, l1⟩ := open_bytes (hok 1 _ v1 rfl rfl) h1 (sized_arg hsz (j := 1) rfl rfl)
  obtain ⟨cut, rfl, rfl, rfl, wc⟩ := open_int Try.underlying3 (hok 2 _ v2 rfl rfl) h2
  have hr : ∀ z ∈ l, z < 9223372036854775808 := fun z hz => by have := (i64_of (wl z hz)).2; omega
  by_cases hbig : 500 < n ∨ 5000 < m
  · exact wireCuts_big A n c l B m d x cut W l0 l1 hbig
  · by_cases hpos : ∀ z ∈ l, 0 ≤ z
    · rcases Nat.eq_zero_or_pos n with h0 | h0
      · subst h0
        obtain rfl : l = [] := List.eq_nil_of_length_eq_zero l0.len
        exact wireCuts_nil A c B m d x cut W l0 l1 (by omega)
      · exact wireCuts_pos A n c l B m d x cut W l0 l1 hr h0 (by omega) (by omega) hpos
    · exact wireCuts_neg A n c l B m d x cut W l0 l1 hr (by omega) (by omega) hpos

theorem wireCuts_over : Rows.wireCutsRow.holds Try.pinned (OpenSpec.ofChange Rows.wireCutsSpec) :=
  OpenClaim.holds_of_wide 7 Try.f7 rfl rfl rfl rfl rfl rfl rfl ⟨rfl, rfl, rfl, rfl, rfl⟩ rfl rfl rfl rfl rfl (by kernel_rfl) Try.func7 (by kernel_rfl)
    (of_decide_eq_true (by kernel_rfl)) (by unfold Func.isWrapper; first | (rw [if_pos (by decide +kernel)]; kernel_rfl) | (rw [if_neg (by decide +kernel)]; exact ⟨rfl, rfl⟩))
    (fun os started H enc _ => Frame.lifted (started := started) Try.underlying4 (by kernel_rfl) Try.func7 (n := 3) (by rw [Try.params7]; rfl) wireCuts_says (by rw [Try.params7]; kernel_rfl) (by kernel_rfl)
      (ChangeSpec.witness6 (enc := enc) (C := Try.checked) false ⟨#[], #[.slice none 0 0, .slice none 0 0, .int .i64 0], []⟩ 8 (by kernel_rfl) (by kernel_rfl) (by kernel_rfl) (by kernel_rfl))
      (by rw [Try.params7]; exact wireCuts_walks))
end Wire
/-- The given statement. -/
theorem wireCuts_holds : Rows.WireCutsSaid := Wire.wireCuts_over
end Go.Proofs.Ytdnmopoabeabkaa
