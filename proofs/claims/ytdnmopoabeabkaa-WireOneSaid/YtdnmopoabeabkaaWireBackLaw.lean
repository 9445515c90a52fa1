/-
  WireBack: FOR EVERY MESSAGE, WHATEVER STANDS BEHIND IT, AND EVERY PLACE OF A CUT THE LAW RETURNS TRUE (what was written is read as what it was; cut off short it is too short) AND CHANGES NOTHING THAT WAS THERE.
  No condition beside the row's own (what can be read as data, within the model's reach).
-/
import Derived.Test.YtdnmopoabeabkaaWireTakeMsg
import Derived.Test.YtdnmopoabeabkaaOpenMsg
namespace Go.Proofs.Ytdnmopoabeabkaa
open Go.ChangeShapes Go.WideShapes Go.ChangeAt Go.RowKit Mem Args
namespace Wire

set_option maxRecDepth 100000 in
set_option maxHeartbeats 1600000 in
/-- The document's own comparison, of two messages that read alike. -/
theorem sameMsg_any {k f t i : Int} {A B C D : Option Addr} {n c n' c' m d m' d' : Nat} {a : List Int} {v : List B8} {w : World} (h1 : Row ci w A n c a) (h2 : Row ci w C n' c' a) (h3 : Row cb w B m d v) (h4 : Row cb w D m' d' v) :
    Calls Try.prog 12 #[.agg #[.int .i64 k, .int .i64 f, .int .i64 t, .int .i64 i, .slice A n c, .slice B m d], .agg #[.int .i64 k, .int .i64 f, .int .i64 t, .int .i64 i, .slice C n' c', .slice D m' d']] w
      fun e w' => e = .returned (.bool true) ∧ Below w.heap.size w w' := by
  have H1 := Lib.hid h1
  have H2 := Lib.hid h2
  have H3 := Lib.hid h3
  have H4 := Lib.hid h4
  clear h1 h2 h3 h4
  go_enter Try.func12, Try.ntmps12
  go_wp2_with fail
  refine (sameInts_any ((H1.out.alloc _).alloc _) ((H2.out.alloc _).alloc _)).mono ?_
  rintro e w2 ⟨rfl, hb⟩
  rw [World.size_alloc, World.size_alloc] at hb
  have b1 := ((Below.refl (w.heap.size + 1) (w.alloc (.cells #[.int .i64 k, .int .i64 f, .int .i64 t, .int .i64 i, .slice A n c, .slice B m d] 25))).alloc (by simp) (.cells #[.int .i64 k, .int .i64 f, .int .i64 t, .int .i64 i, .slice C n' c', .slice D m' d'] 25)).trans (hb.mono (by omega))
  have c1 := box_cell b1 5
  have c2 := box_cell (w := w.alloc (.cells #[.int .i64 k, .int .i64 f, .int .i64 t, .int .i64 i, .slice A n c, .slice B m d] 25)) (by rw [World.size_alloc]; exact hb) 5
  rw [World.size_alloc] at c2
  have W2 := ((Below.refl _ w).alloc (Nat.le_refl _) (.cells #[.int .i64 k, .int .i64 f, .int .i64 t, .int .i64 i, .slice A n c, .slice B m d] 25)).trans (b1.mono (by omega))
  have hs1 := run_str (H3.out.below W2)
  have hs2 := run_str (H4.out.below W2)
  have HW := Lib.hid W2
  clear hb b1 W2
  go_wp2
  go_ret
  exact ⟨rfl, HW.out⟩

set_option maxRecDepth 100000 in
theorem big_no {k f t i : Int} {A B : Option Addr} {n c m d : Nat} {w : World} (hn : n ≤ 200) (hm : m ≤ 70000) :
    Calls Try.prog 9 #[.agg #[.int .i64 k, .int .i64 f, .int .i64 t, .int .i64 i, .slice A n c, .slice B m d]] w fun e w' => e = .returned (.bool false) ∧ Below w.heap.size w w' := by
  have d1 : decide (200 < (n : Int)) = false := by simp; omega
  have d2 : decide (70000 < (m : Int)) = false := by simp; omega
  go_enter Try.func9, Try.ntmps9
  go_wp2
  go_ret
  exact ⟨rfl, (Below.refl _ _).alloc (Nat.le_refl _) _⟩
set_option maxRecDepth 100000 in
theorem big_yes {k f t i : Int} {A B : Option Addr} {n c m d : Nat} {w : World} (hn : n ≤ 140737488351232) (hm : m ≤ 140737488351232) (h : 200 < n ∨ 70000 < m) :
    Calls Try.prog 9 #[.agg #[.int .i64 k, .int .i64 f, .int .i64 t, .int .i64 i, .slice A n c, .slice B m d]] w fun e w' => e = .returned (.bool true) ∧ Below w.heap.size w w' := by
  by_cases h1 : 200 < n
  · have d1 : decide (200 < (n : Int)) = true := by simp; omega
    clear h h1
    go_enter Try.func9, Try.ntmps9
    go_wp2
    go_ret
    exact ⟨rfl, (Below.refl _ _).alloc (Nat.le_refl _) _⟩
  · have d1 : decide (200 < (n : Int)) = false := by simp; omega
    have d2 : decide (70000 < (m : Int)) = true := by simp; omega
    clear h h1
    go_enter Try.func9, Try.ntmps9
    go_wp2
    go_ret
    exact ⟨rfl, (Below.refl _ _).alloc (Nat.le_refl _) _⟩
set_option maxRecDepth 100000 in
set_option maxHeartbeats 3200000 in
theorem wireBack_big {k f t i : Int} {A B C : Option Addr} {n c m d nb cc : Nat} {cut : Int} {w : World} (hn : n ≤ 140737488351232) (hm : m ≤ 140737488351232) (hbig : 200 < n ∨ 70000 < m) : Calls Try.prog 3 #[.agg #[.int .i64 k, .int .i64 f, .int .i64 t, .int .i64 i, .slice A n c, .slice B m d], .slice C nb cc, .int .i64 cut] w fun e w' => e = .returned (.bool true) ∧ Below w.heap.size w w' := by
  have HB := Lib.hid hbig
  clear hbig
  go_enter Try.func3, Try.ntmps3
  go_wp2_with (first
    | (go_at_call 8; refine (live_any _).mono ?_; rintro e w1 ⟨rfl, hb⟩; have b1 : Below (w.heap.size + 1) (w.alloc (.cells #[.int .i64 k, .int .i64 f, .int .i64 t, .int .i64 i, .slice A n c, .slice B m d] 25)) w1 := (by rw [World.size_alloc] at hb; exact hb); have hc1 := box_cell b1; have B1 := Lib.hid b1; clear hb b1)
    | (go_at_call 9; refine (big_yes (by omega) (by omega) HB.out).mono ?_; rintro e w2 ⟨rfl, hb⟩; have B2 := Lib.hid (B1.out.trans (hb.mono (by have := B1.out.size; rw [World.size_alloc] at this; exact this))); clear hb hc1))
  go_ret
  exact ⟨rfl, ((Below.refl _ w).alloc (Nat.le_refl _) _).trans (B2.out.mono (by omega))⟩

set_option maxRecDepth 100000 in
set_option maxHeartbeats 3200000 in
theorem wireBack_behind {k f t i : Int} {A B C : Option Addr} {n c m d nb cc : Nat} {cut : Int} {w : World} (hn : n ≤ 200) (hm : m ≤ 70000) (hnb : 1000 < nb) (hnb2 : nb ≤ 140737488351232) : Calls Try.prog 3 #[.agg #[.int .i64 k, .int .i64 f, .int .i64 t, .int .i64 i, .slice A n c, .slice B m d], .slice C nb cc, .int .i64 cut] w fun e w' => e = .returned (.bool true) ∧ Below w.heap.size w w' := by
  go_enter Try.func3, Try.ntmps3
  go_wp2_with (first
    | (go_at_call 8; refine (live_any _).mono ?_; rintro e w1 ⟨rfl, hb⟩; have b1 : Below (w.heap.size + 1) (w.alloc (.cells #[.int .i64 k, .int .i64 f, .int .i64 t, .int .i64 i, .slice A n c, .slice B m d] 25)) w1 := (by rw [World.size_alloc] at hb; exact hb); have hc1 := box_cell b1; have B1 := Lib.hid b1; clear hb b1)
    | (go_at_call 9; refine (big_no hn hm).mono ?_; rintro e w2 ⟨rfl, hb⟩; have b2 := B1.out.trans (hb.mono (by have := B1.out.size; rw [World.size_alloc] at this; exact this)); have hc2 := box_cell b2; have B2 := Lib.hid b2; clear hb b2 hc1))
  go_ret
  exact ⟨rfl, ((Below.refl _ w).alloc (Nat.le_refl _) _).trans (B2.out.mono (by omega))⟩

set_option maxRecDepth 100000 in
set_option maxHeartbeats 3200000 in
theorem wireBack_bad {k f t i : Int} {A B C : Option Addr} {n c m d nb cc : Nat} {cut : Int} {w : World} (hn : n ≤ 200) (hm : m ≤ 70000) (hnb : nb ≤ 1000) (hbad : ∀ W, Below w.heap.size w W → Calls Try.prog 10 #[.agg #[.int .i64 k, .int .i64 f, .int .i64 t, .int .i64 i, .slice A n c, .slice B m d]] W (MsgBad W)) : Calls Try.prog 3 #[.agg #[.int .i64 k, .int .i64 f, .int .i64 t, .int .i64 i, .slice A n c, .slice B m d], .slice C nb cc, .int .i64 cut] w fun e w' => e = .returned (.bool true) ∧ Below w.heap.size w w' := by
  have HM := Lib.hid hbad
  clear hbad
  go_enter Try.func3, Try.ntmps3
  go_wp2_with (first
    | (go_at_call 8; refine (live_any _).mono ?_; rintro e w1 ⟨rfl, hb⟩; have b1 : Below (w.heap.size + 1) (w.alloc (.cells #[.int .i64 k, .int .i64 f, .int .i64 t, .int .i64 i, .slice A n c, .slice B m d] 25)) w1 := (by rw [World.size_alloc] at hb; exact hb); have hc1 := box_cell b1; have B1 := Lib.hid b1; clear hb b1)
    | (go_at_call 9; refine (big_no hn hm).mono ?_; rintro e w2 ⟨rfl, hb⟩; have b2 := B1.out.trans (hb.mono (by have := B1.out.size; rw [World.size_alloc] at this; exact this)); have hc2 := box_cell b2; have B2 := Lib.hid b2; clear hb b2 hc1))
  refine (HM.out _ (((Below.refl _ w).alloc (Nat.le_refl _) _).trans (B2.out.mono (by omega)))).mono ?_
  rintro e w3 ⟨er, h12, rfl, hb⟩
  have B3 := Lib.hid ((((Below.refl _ w).alloc (Nat.le_refl _) _).trans (B2.out.mono (by omega))).trans (hb.mono (by have := B2.out.size; rw [World.size_alloc] at this; omega)))
  clear hb hc2
  rcases h12 with rfl | rfl
  all_goals
    go_wp2
    go_ret
    exact ⟨rfl, B3.out⟩

set_option maxRecDepth 100000 in
set_option maxHeartbeats 6400000 in
theorem wireBack_ok {k f t i : Nat} {A B C : Option Addr} {n c m d nb cc : Nat} {a : List Nat} {v bh : List B8} {cut : Int} {w : World} (hk : k < 9223372036854775808) (hf : f < 9223372036854775808) (ht : t < 9223372036854775808) (hi : i < 9223372036854775808)
    (ha : ∀ n ∈ a, n < 9223372036854775808) (h1 : Row ci w A n c (asInts a)) (h2 : Row cb w B m d v) (h3 : Row cb w C nb cc bh) (h64 : n ≤ 64) (hm : m ≤ 65536) (hnb : nb ≤ 1000) :
    Calls Try.prog 3 #[.agg #[.int .i64 k, .int .i64 f, .int .i64 t, .int .i64 i, .slice A n c, .slice B m d], .slice C nb cc, .int .i64 cut] w fun e w' => e = .returned (.bool true) ∧ Below w.heap.size w w' := by
  have H1 := Lib.hid h1
  have H2 := Lib.hid h2
  have H3 := Lib.hid h3
  have hal : a.length = n := by have := h1.len; simpa [asInts] using this
  have HM := Lib.hid (fun (W : World) (h1 : Row ci W A n c (asInts a)) (h2 : Row cb W B m d v) => msg_ok (k := k) (f := f) (t := t) (i := i) hk hf ht hi ha h1 h2 h64 hm)
  have hwl : (encM [k, f, t, i, n] a v).length ≤ 70000 := by
    have l1 : (encs [k, f, t, i, n]).length ≤ 50 := encs_len (l := [k, f, t, i, n]) (fun z hz => by have := all_five hk hf ht hi (show n < 9223372036854775808 by omega) z hz; omega)
    have l2 := encs_len (l := a) (fun z hz => by have := ha z hz; omega)
    have l3 := enc_len_le (n := v.length) (by have := h2.len; omega)
    have l4 := h2.len
    unfold encM encV
    rw [List.length_append, List.length_append, List.length_append]
    omega
  have hw0 : 0 < (encM [k, f, t, i, n] a v).length := by
    unfold encM
    rw [List.length_append, encs_cons, List.length_append]
    have := enc_pos k
    omega
  obtain ⟨r, j, q1, q2, q3, q4, q5, q6⟩ := cut_at cut _ hw0
  have HE : Hid (msg1 (encM [k, f, t, i, n] a v ++ bh) = ([k, f, t, i, n], a, v, (encM [k, f, t, i, n] a v).length, 0)) := by
    have := msg1_enc (rest := bh) hk hf ht hi ha (by omega) (show v.length ≤ 65536 by rw [h2.len]; exact hm)
    rw [hal] at this
    exact this
  have HC : Hid (msg1 ((encM [k, f, t, i, n] a v).take j) = ([], [], [], 0, 20)) := by
    have := msg1_cut hk hf ht hi ha (by omega) (show v.length ≤ 65536 by rw [h2.len]; exact hm) (j := j) (by rw [hal]; exact q6)
    rw [hal] at this
    exact this
  clear h1 h2 h3 hk hf ht hi ha
  generalize encM [k, f, t, i, n] a v = wb at *
  have hw1 : ((wb.length : Int) == 0) = false := beq_eq_false_iff_ne.2 (by omega)
  go_enter Try.func3, Try.ntmps3
  go_wp2_with (first
    | (go_at_call 8; refine (live_any _).mono ?_; rintro e w1 ⟨rfl, hb⟩; have b1 : Below (w.heap.size + 1) (w.alloc (.cells #[.int .i64 k, .int .i64 f, .int .i64 t, .int .i64 i, .slice A n c, .slice B m d] 25)) w1 := (by rw [World.size_alloc] at hb; exact hb); have hc1 := box_cell b1; have B1 := Lib.hid b1; clear hb b1)
    | (go_at_call 9; refine (big_no (by omega) (by omega)).mono ?_; rintro e w2 ⟨rfl, hb⟩; have b2 := B1.out.trans (hb.mono (by have := B1.out.size; rw [World.size_alloc] at this; exact this)); have hc2 := box_cell b2; have B2 := Lib.hid b2; clear hb b2 hc1))
  have W2 := Lib.hid (((Below.refl _ w).alloc (Nat.le_refl _) _).trans (B2.out.mono (show w.heap.size ≤ w.heap.size + 1 by omega)))
  refine (HM.out _ (H1.out.below W2.out) (H2.out.below W2.out)).mono ?_
  rintro e w3 ⟨X, kx, cx, rfl, hX, hb⟩
  obtain ⟨hx, rfl⟩ := gave_row hX (by omega)
  have hsl := run_head X wb.length cx j (by have := hx.cap; omega)
  have b3 := B2.out.trans (hb.mono (by have := B2.out.size; rw [World.size_alloc] at this; exact this))
  have B3 := Lib.hid b3
  have R3 := Lib.hid hx
  have C3 := Lib.hid (H3.out.below (W2.out.trans (hb.mono W2.out.size)))
  clear hb b3 hX hx hc2 HM B1 W2
  go_wp2_with (first
    | (at_builtin
       refine wpList_append_row cb_one Try.underlying23 info_byte rfl rfl (.const (.slice none 0 0)) (.tmp 48) rfl rfl w3.heap.size (.slice none 0 0) 0 [] rfl (Owns.nil _ _ _ _) X wb.length cx wb rfl R3.out (by omega) (by omega) (Nat.le_refl _) ?_
       intro A4 c4 w4 hown4 hb4
       have O4 := Lib.hid (show Owns cb 5 w3.heap.size w4 (.slice A4 wb.length c4) wb.length wb by simpa using hown4)
       have B4 := Lib.hid hb4
       clear hown4 hb4)
    | (at_builtin
       refine wpList_append_row cb_one Try.underlying23 info_byte rfl rfl (.tmp 49) (.tmp 50) rfl rfl w3.heap.size (.slice A4 wb.length c4) wb.length wb rfl O4.out C nb cc bh rfl (C3.out.below B4.out) (by omega) (by omega) (B4.out.size) ?_
       intro A5 c5 w5 hown5 hb5
       have R5 := Lib.hid (gave_row hown5 (by have := C3.out.len; simp; omega)).1
       have B5 := Lib.hid (B4.out.trans hb5)
       clear hown5 hb5 O4 B4))
  have B25 := Lib.hid (B3.out.trans (B5.out.mono (by have := B3.out.size; rw [World.size_alloc] at this; exact this)))
  have X5 := Lib.hid (R3.out.below B5.out)
  refine (takeMsg_ok R5.out (by omega) HE.out).mono ?_
  rintro e w6 ⟨Y, ky, cy, Z, kz, cz, rfl, hY, hZ, hb⟩
  have hsz := B25.out.size
  rw [World.size_alloc] at hsz
  have b6 := B25.out.trans (hb.mono hsz)
  have hlt6 : w.heap.size < w6.heap.size := by have := hb.size; omega
  obtain ⟨hy, hky⟩ := gave_row hY (by simp [asInts]; omega)
  obtain ⟨hz, hkz⟩ := gave_row hZ (by have := H2.out.len; omega)
  have RY := Lib.hid hy
  have RZ := Lib.hid hz
  have B6 := Lib.hid b6
  have X6 := Lib.hid (X5.out.below hb)
  clear hb b6 hsz hY hZ hy hz hky hkz B3 R3 C3 B5 B25 X5 R5 HE
  go_wp2_with fail
  refine (takeMsg_bad ((X6.out.head (k := j) (by omega)).alloc _) (by omega) HC.out (by omega)).mono ?_
  rintro e w7 ⟨rfl, hb⟩
  rw [World.size_alloc] at hb
  have hc10 := box_cell hb
  have y7 : Below w6.heap.size w6 w7 := ((Below.refl _ w6).alloc (Nat.le_refl _) _).trans (hb.mono (by omega))
  have b7 := B6.out.trans (y7.mono (by omega))
  have hlt7 : w6.heap.size < w7.heap.size := by have := hb.size; rw [World.size_alloc] at this; omega
  have hc3 := fun o => box_cell (b7.trans ((Below.refl (w.heap.size + 1) w7).alloc (by omega) (.cells #[.int .i64 0, .int .i64 0, .int .i64 0, .int .i64 0, .slice none 0 0, .slice none 0 0] 25))) o
  have hc10' : ∀ o, (w7.alloc (.cells #[.int .i64 0, .int .i64 0, .int .i64 0, .int .i64 0, .slice none 0 0, .slice none 0 0] 25)).cell? ⟨w6.heap.size, o, none⟩ = (#[.int .i64 k, .int .i64 f, .int .i64 t, .int .i64 i, .slice Y ky cy, .slice Z kz cz] : Array Value)[o]? := fun o => by
    rw [((Below.refl (w6.heap.size + 1) w7).alloc (by omega) (.cells #[.int .i64 0, .int .i64 0, .int .i64 0, .int .i64 0, .slice none 0 0, .slice none 0 0] 25)).cell (p := ⟨w6.heap.size, o, none⟩) (by show w6.heap.size < w6.heap.size + 1; omega)]
    exact hc10 o
  have W8 := ((Below.refl _ w).alloc (Nat.le_refl _) _).trans ((b7.mono (show w.heap.size ≤ w.heap.size + 1 by omega)).alloc (by omega) (.cells #[.int .i64 0, .int .i64 0, .int .i64 0, .int .i64 0, .slice none 0 0, .slice none 0 0] 25))
  have HS := Lib.hid (sameMsg_any (k := k) (f := f) (t := t) (i := i) ((RY.out.below y7).alloc (.cells #[.int .i64 0, .int .i64 0, .int .i64 0, .int .i64 0, .slice none 0 0, .slice none 0 0] 25)) (H1.out.below W8) ((RZ.out.below y7).alloc _) (H2.out.below W8))
  have HW := Lib.hid W8
  clear hb hc10 y7 b7 W8 X6 RY RZ B6 HC
  go_wp2_with (go_at_call 12; refine HS.out.mono ?_; rintro e w9 ⟨rfl, hb⟩; have H9 := Lib.hid (HW.out.trans (hb.mono HW.out.size)); clear hb)
  go_ret
  exact ⟨rfl, H9.out⟩

theorem wireBack_says : Frame.Says Rows.wireBackSpec 3 := by
  refine ⟨rfl, fun H ds h => ?_, fun H ds h => ?_, fun H ds h => ?_⟩ <;>
  · match ds, h with
    | [d1, d2, d3], _ => rfl

theorem wireBack_walks : Frame.Walks 3 [25, 23, 3] := by
  intro H enc W args ds ps base hok hA hsz
  obtain ⟨v0, vs0, d0, ds0, p0, q0, hargs, rfl, rfl, h0, r0⟩ := trodAll_cons hA
  obtain ⟨v1, vs1, d1, ds1, p1, q1, rfl, rfl, rfl, h1, r1⟩ := trodAll_cons r0
  obtain ⟨v2, vs2, d2, ds2, p2, q2, rfl, rfl, rfl, h2, r2⟩ := trodAll_cons r1
  obtain ⟨rfl, rfl, rfl⟩ := trodAll_nil r2
  obtain rfl : args = #[v0, v1, v2] := by cases args; simp_all
  obtain ⟨k, f, t, i, A, n, c, a, B, m, d, x, rfl, wk, wf, wt, wi, ra, wa, rx⟩ := open_msg (hok 0 _ v0 rfl rfl) h0 (sized_arg hsz (j := 0) rfl rfl)
  obtain ⟨C, nb, cc, bh, rfl, rb⟩ := open_bytes (hok 1 _ v1 rfl rfl) h1 (sized_arg hsz (j := 1) rfl rfl)
  obtain ⟨cut, rfl, rfl, rfl, wc⟩ := open_int Try.underlying3 (hok 2 _ v2 rfl rfl) h2
  have bk := i64_of wk; have bf := i64_of wf; have bt := i64_of wt; have bi := i64_of wi
  have ba : ∀ z ∈ a, z < 9223372036854775808 := fun z hz => by have := (i64_of (wa z hz)).2; omega
  by_cases hbig : 200 < n ∨ 70000 < m
  · exact wireBack_big ra.big rx.big hbig
  · by_cases hnb : 1000 < nb
    · exact wireBack_behind (by omega) (by omega) hnb rb.big
    · by_cases hall : ∀ z ∈ [k, f, t, i, (n : Int)], 0 ≤ z
      · have e1 := hall k (by simp); have e2 := hall f (by simp); have e3 := hall t (by simp); have e4 := hall i (by simp)
        obtain ⟨k, rfl⟩ := Int.eq_ofNat_of_zero_le e1
        obtain ⟨f, rfl⟩ := Int.eq_ofNat_of_zero_le e2
        obtain ⟨t, rfl⟩ := Int.eq_ofNat_of_zero_le e3
        obtain ⟨i, rfl⟩ := Int.eq_ofNat_of_zero_le e4
        by_cases hpos : ∀ z ∈ a, 0 ≤ z
        · have ea := asInts_toNat hpos
          have bn : ∀ y ∈ a.map Int.toNat, y < 9223372036854775808 := fun y hy => by
            obtain ⟨z, hz, rfl⟩ := List.mem_map.1 hy
            have := ba z hz
            omega
          rw [← ea] at ra
          by_cases h64 : 64 < n
          · exact wireBack_bad (by omega) (by omega) (by omega) fun W' hb => msg_bad_many (by omega) (by omega) (by omega) (by omega) (ra.below hb) bn h64 (by omega)
          · by_cases hm : 65536 < m
            · exact wireBack_bad (by omega) (by omega) (by omega) fun W' hb => msg_bad_long (by omega) (by omega) (by omega) (by omega) (ra.below hb) (rx.below hb) bn (by omega) hm
            · exact wireBack_ok (by omega) (by omega) (by omega) (by omega) bn ra rx rb (by omega) (by omega) (by omega)
        · exact wireBack_bad (by omega) (by omega) (by omega) fun W' hb => msg_bad_args (by omega) (by omega) (by omega) (by omega) (ra.below hb) ba hpos (by omega)
      · exact wireBack_bad (by omega) (by omega) (by omega) fun W' hb => msg_bad_head (by
          intro z hz
          simp only [List.mem_cons, List.not_mem_nil, or_false] at hz
          rcases hz with rfl | rfl | rfl | rfl | rfl <;> omega) hall

theorem wireBack_over : Rows.wireBackRow.holds Try.pinned (OpenSpec.ofChange Rows.wireBackSpec) :=
  OpenClaim.holds_of_wide 3 Try.f3 rfl rfl rfl rfl rfl rfl rfl ⟨rfl, rfl, rfl, rfl, rfl⟩ rfl rfl rfl rfl rfl (by kernel_rfl) Try.func3 (by kernel_rfl)
    (of_decide_eq_true (by kernel_rfl)) (by unfold Func.isWrapper; first | (rw [if_pos (by decide +kernel)]; kernel_rfl) | (rw [if_neg (by decide +kernel)]; exact ⟨rfl, rfl⟩))
    (fun os started H enc _ => Frame.lifted (started := started) Try.underlying4 (by kernel_rfl) Try.func3 (n := 3) (by rw [Try.params3]; rfl) wireBack_says (by rw [Try.params3]; kernel_rfl) (by kernel_rfl)
      (ChangeSpec.witness6 (enc := enc) (C := Try.checked) false ⟨#[], #[.agg #[.int .i64 0, .int .i64 0, .int .i64 0, .int .i64 0, .slice none 0 0, .slice none 0 0], .slice none 0 0, .int .i64 0], []⟩ 8 (by kernel_rfl) (by kernel_rfl) (by kernel_rfl) (by kernel_rfl))
      (by rw [Try.params3]; exact wireBack_walks))
end Wire
/-- The given statement. -/
theorem wireBack_holds : Rows.WireBackSaid := Wire.wireBack_over
end Go.Proofs.Ytdnmopoabeabkaa
