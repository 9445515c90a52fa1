/-
  WALKS: the document's Msg.
-/
import Derived.Test.YtamahknnppjegaaNetR02
import Derived.Test.YtamahknnppjegaaOwnB
import Derived.Test.YtamahknnppjegaaNetClone
namespace Go.Proofs.Ytamahknnppjegaa
open Go.RowKit Mem Box
namespace Net
open Wire (B8 asInts GaveE MsgBad enc encs encV encM enc_len_le encs_len encs_append encs_cons encs_nil row_new)

theorem bytes_eq (p : Mp) : bytesM p = ((encs ([p.k, p.f, p.t, p.i].map Int.toNat) ++ enc p.a.length) ++ encs (p.a.map Int.toNat)) ++ encV p.x := by
  unfold bytesM encM
  simp [encs, List.append_assoc]
/-- A row that was given is new: where it lies. -/
theorem gave_at {w w' : World} {b : Nat} {X : Option Addr} {k c : Nat} {l : List B8} (h : Mem.Owns cb 5 b w' (.slice X k c) k l) {q o : Nat} (hX : X = some ⟨q, o, none⟩) : b ≤ q := owns_new h hX

/-- Nums of four numbers that were just laid. -/
theorem numsD_four {k f t i : Int} (h : ∀ z ∈ [k, f, t, i], z < 9223372036854775808) (hp : ∀ z ∈ [k, f, t, i], 0 ≤ z) (W : World) {b : Nat} (hb : b = W.heap.size) :
    Calls Try.prog 50 #[.slice (some ⟨b, 0, none⟩) 4 4] (W.alloc (.cells #[.int .i64 k, .int .i64 f, .int .i64 t, .int .i64 i] 3)) (GaveE cb 5 W.heap.size W (encs ([k, f, t, i].map Int.toNat)) 0) := by
  subst hb
  refine (numsD_pos (l := [k, f, t, i]) (row_new ci W [k, f, t, i] 3 (by simp) rfl) h (by simp) hp).mono ?_
  rintro e w' ⟨X, j, d, rfl, h1, h2⟩
  exact ⟨X, j, d, rfl, h1.mono (by simp), ((Below.refl _ W).alloc (Nat.le_refl _) _).trans (h2.mono (by simp))⟩
theorem numsD_four_neg {k f t i : Int} (h : ∀ z ∈ [k, f, t, i], z < 9223372036854775808) (hneg : ¬ ∀ z ∈ [k, f, t, i], 0 ≤ z) (W : World) {b : Nat} (hb : b = W.heap.size) :
    Calls Try.prog 50 #[.slice (some ⟨b, 0, none⟩) 4 4] (W.alloc (.cells #[.int .i64 k, .int .i64 f, .int .i64 t, .int .i64 i] 3)) fun e w' => e = .returned (.tuple #[.slice none 0 0, .int .i64 1]) ∧ Below W.heap.size W w' := by
  subst hb
  refine (numsD_neg (l := [k, f, t, i]) (row_new ci W [k, f, t, i] 3 (by simp) rfl) h (by simp) hneg).mono ?_
  rintro e w' ⟨rfl, h2⟩
  exact ⟨rfl, ((Below.refl _ W).alloc (Nat.le_refl _) _).trans (h2.mono (by simp))⟩

set_option maxRecDepth 100000 in
set_option maxHeartbeats 6400000 in
theorem dmsg_ok {x : Mx} {w : World} (h : MAt w x) (hk : okM x.p = true) : Calls Try.prog 28 #[mxv x] w (GaveE cb 5 w.heap.size w (bytesM x.p) 0) := by
  obtain ⟨hh, ha, h64, hdl⟩ := (ok_iff _).1 hk
  obtain ⟨f1, f2, f3⟩ := h.fits
  have e1 := h.ints.len
  have e2 := h.text.len
  have h64n : x.n ≤ 64 := by rw [← e1]; exact h64
  have hdn : x.m ≤ 65536 := by rw [← e2]; exact hdl
  have hp4 : ∀ z ∈ [x.k, x.f, x.t, x.i], 0 ≤ z := fun z hz => by
    simp only [List.mem_cons, List.not_mem_nil, or_false] at hz
    obtain ⟨h1, h2, h3, h4⟩ := hh
    rcases hz with rfl | rfl | rfl | rfl <;> assumption
  have hl4 : ∀ z ∈ [x.k, x.f, x.t, x.i], z < 9223372036854775808 := fun z hz => (f1 z hz).2
  have HM := Lib.hid h
  have HN := Lib.hid (fun (W : World) (b : Nat) (hb : b = W.heap.size) => numsD_four hl4 hp4 W hb)
  have HA := Lib.hid (fun (W : World) (hW : Below w.heap.size w W) => numsD_pos (HM.out.ints.below hW) f2 (by omega) ha)
  have HV := Lib.hid (fun (W : World) (hW : Below w.heap.size w W) => vecD_ok (HM.out.text.below hW) (by omega))
  have HP := Lib.hid (fun (W : World) => put_doc x.n (by omega) W)
  have L1 : (encs ([x.k, x.f, x.t, x.i].map Int.toNat)).length ≤ 40 := encs_len (l := [x.k, x.f, x.t, x.i].map Int.toNat) (fun z hz => by obtain ⟨y, hy, rfl⟩ := List.mem_map.1 hz; have := hl4 y hy; omega)
  have L2x : (encs (x.a.map Int.toNat)).length ≤ 640 := by
    have := encs_len (l := x.a.map Int.toNat) (fun z hz => by obtain ⟨y, hy, rfl⟩ := List.mem_map.1 hz; have := f2 y hy; omega)
    rw [List.length_map] at this
    omega
  have L3 : (encV x.x).length ≤ 66000 := by
    have := enc_len_le (n := x.x.length) (by omega)
    unfold encV
    rw [List.length_append]
    omega
  have L4 := enc_len_le (n := x.n) (by omega)
  have E : Hid (bytesM x.p = ((encs ([x.k, x.f, x.t, x.i].map Int.toNat) ++ enc x.n) ++ encs (x.a.map Int.toNat)) ++ encV x.x) := by
    show _ = _
    rw [bytes_eq]
    simp only [Mx.p]
    rw [e1]
  have hwr := Wire.wrap_u64_small x.n (by omega)
  clear h hk hh ha h64 hdl hdn f1 f2 f3 hp4 hl4 e1 e2
  generalize bytesM x.p = whole at *
  generalize encs ([x.k, x.f, x.t, x.i].map Int.toNat) = b1 at *
  generalize enc x.n = b2 at *
  generalize encs (x.a.map Int.toNat) = b3 at *
  generalize encV x.x = b4 at *
  have A1 : Hid (Below w.heap.size w (w.alloc (.cells #[.int .i64 x.k, .int .i64 x.f, .int .i64 x.t, .int .i64 x.i, .slice x.A x.n x.c, .slice x.B x.m x.d] 39))) := (Below.refl _ w).alloc (Nat.le_refl _) _
  have X1 : Hid (MBox (w.alloc (.cells #[.int .i64 x.k, .int .i64 x.f, .int .i64 x.t, .int .i64 x.i, .slice x.A x.n x.c, .slice x.B x.m x.d] 39)) w.heap.size x) := Cells.new _ _ _
  unfold mxv
  go_enter Try.func28, Try.ntmps28
  go_wp2_with fail
  refine (HN.out (w.alloc _) _ (by simp)).mono ?_
  rintro e w2 ⟨X, kx, cx, rfl, hX, hb2⟩
  have L2 := Lib.hid (A1.out.trans (hb2.mono A1.out.size))
  have X2 := Lib.hid (Cells.below X1.out hb2)
  have O2 := Lib.hid (hX.mono (show w.heap.size ≤ (w.alloc (.cells #[.int .i64 x.k, .int .i64 x.f, .int .i64 x.t, .int .i64 x.i, .slice x.A x.n x.c, .slice x.B x.m x.d] 39)).heap.size by simp))
  have hkx : kx ≤ 40 := by rw [← hX.len]; exact L1
  obtain ⟨m0, m1, m2, m3, m4, m5⟩ := MBox.cells X2.out
  clear hX hb2 A1 X1 HN L1
  go_wp2_with fail
  refine (HA.out _ L2.out).mono ?_
  rintro e w3 ⟨Y, ky, cy, rfl, hY, hb⟩
  have L3' := Lib.hid (L2.out.trans (hb.mono L2.out.size))
  have X3 := Lib.hid (Cells.below X2.out hb)
  have O3 := Lib.hid (O2.out.below hb)
  have hky : ky ≤ 640 := by rw [← hY.len]; exact L2x
  have R3 := Lib.hid (Wire.gave_row hY (by omega)).1
  have D3 : Hid (∀ q o, 0 < ky → Y = some ⟨q, o, none⟩ → (Value.slice X kx cx).ownBlock ≠ some q) := fun q o _ e1 e2 => by
    have h1 := owns_new hY e1
    have h2 := (OwnB.owns_lt O2.out q e2).2
    omega
  clear hY hb HA m0 m1 m2 m3 m4 m5 O2 X2 L2 L2x
  obtain ⟨m0, m1, m2, m3, m4, m5⟩ := MBox.cells X3.out
  go_wp2_with fail
  refine (HV.out _ L3'.out).mono ?_
  rintro e w4 ⟨Z, kz, cz, rfl, hZ, hb⟩
  have L4' := Lib.hid (L3'.out.trans (hb.mono L3'.out.size))
  have X4 := Lib.hid (Cells.below X3.out hb)
  have O4 := Lib.hid (O3.out.below hb)
  have hkz : kz ≤ 66000 := by rw [← hZ.len]; exact L3
  have R4 := Lib.hid (Wire.gave_row hZ (by omega)).1
  have S4 := Lib.hid (R3.out.below hb)
  have D4 : Hid (∀ q o, 0 < kz → Z = some ⟨q, o, none⟩ → (Value.slice X kx cx).ownBlock ≠ some q) := fun q o _ e1 e2 => by
    have h1 := owns_new hZ e1
    have h2 := (OwnB.owns_lt O3.out q e2).2
    omega
  clear hZ hb HV m0 m1 m2 m3 m4 m5 O3 X3 L3' L3 R3
  obtain ⟨m0, m1, m2, m3, m4, m5⟩ := MBox.cells X4.out
  have HL4 := Lib.hid L4
  clear L4
  go_wp2_with (first
    | (go_at_call 52; refine (HP.out _).mono ?_; rintro e w5 ⟨P, kp, cp, rfl, hP, hb⟩; have L5 := Lib.hid (L4'.out.trans (hb.mono L4'.out.size)); have O5 := Lib.hid (O4.out.below hb); have R5 := Lib.hid (R4.out.below hb); have S5 := Lib.hid (S4.out.below hb); have hkp : kp ≤ 10 := (by rw [← hP.len]; exact HL4.out); have P5 := Lib.hid (Wire.gave_row hP (by have := HL4.out; omega)).1; clear hP hb)
    | (at_builtin
       refine OwnB.wpList_append cb_one Try.underlying23 info_byte rfl (by omega) rfl (.tmp 46) (.tmp 51) rfl rfl w.heap.size (.slice X kx cx) kx b1 rfl O5.out P kp cp b2 rfl P5.out (by omega) L5.out.size ?_
       intro X6 c6 w6 ho hg hn
       have O6 := Lib.hid ho
       have L6 := Lib.hid (L5.out.trans (OwnB.below_row O5.out hg L5.out.size))
       have R6 := Lib.hid (OwnB.row_grown R5.out hg D4.out)
       have S6 := Lib.hid (OwnB.row_grown S5.out hg D3.out)
       have D6 : Hid (∀ q o, 0 < ky → Y = some ⟨q, o, none⟩ → (Value.slice X6 (kx + kp) c6).ownBlock ≠ some q) := (fun q o h0 e1 e2 => by
         rcases hn with hn | hn
         · exact D3.out q o h0 e1 (hn ▸ e2)
         · rw [hn] at e2; injection e2 with e2; have := row_lt S5.out h0 e1; omega)
       have F6 : Hid (∀ q o, 0 < kz → Z = some ⟨q, o, none⟩ → (Value.slice X6 (kx + kp) c6).ownBlock ≠ some q) := (fun q o h0 e1 e2 => by
         rcases hn with hn | hn
         · exact D4.out q o h0 e1 (hn ▸ e2)
         · rw [hn] at e2; injection e2 with e2; have := row_lt R5.out h0 e1; omega)
       clear ho hg hn)
    | (at_builtin
       refine OwnB.wpList_append cb_one Try.underlying23 info_byte rfl (by omega) rfl (.tmp 52) (.tmp 53) rfl rfl w.heap.size (.slice X6 (kx + kp) c6) (kx + kp) (b1 ++ b2) rfl O6.out Y ky cy b3 rfl S6.out (by omega) L6.out.size ?_
       intro X7 c7 w7 ho hg hn
       have O7 := Lib.hid ho
       have L7 := Lib.hid (L6.out.trans (OwnB.below_row O6.out hg L6.out.size))
       have R7 := Lib.hid (OwnB.row_grown R6.out hg F6.out)
       clear ho hg hn)
    | (at_builtin
       refine OwnB.wpList_append cb_one Try.underlying23 info_byte rfl (by omega) rfl (.tmp 55) (.tmp 56) rfl rfl w.heap.size (.slice X7 (kx + kp + ky) c7) (kx + kp + ky) _ rfl O7.out Z kz cz b4 rfl R7.out (by omega) L7.out.size ?_
       intro X8 c8 w8 ho hg hn
       have O8 := Lib.hid ho
       have L8 := Lib.hid (L7.out.trans (OwnB.below_row O7.out hg L7.out.size))
       clear ho hg hn)
    | fail)
  go_ret2
  exact ⟨_, _, _, rfl, by rw [E.out]; exact O8.out, L8.out⟩

set_option maxRecDepth 100000 in
set_option maxHeartbeats 3200000 in
theorem dmsg_bad1 {x : Mx} {w : World} (h : MAt w x) (hneg : ¬ ∀ z ∈ [x.k, x.f, x.t, x.i], 0 ≤ z) : Calls Try.prog 28 #[mxv x] w (MsgBad w) := by
  obtain ⟨f1, f2, f3⟩ := h.fits
  have e1 := h.ints.len
  have e2 := h.text.len
  have hl4 : ∀ z ∈ [x.k, x.f, x.t, x.i], z < 9223372036854775808 := fun z hz => (f1 z hz).2
  have f3' : x.n ≤ 17592186044416 := by rw [← e1]; exact f3
  have HM := Lib.hid h
  have HN := Lib.hid (fun (W : World) (b : Nat) (hb : b = W.heap.size) => numsD_four_neg hl4 hneg W hb)
  clear h f1 f2 f3 f3' e1 e2 hl4 hneg
  have A1 : Hid (Below w.heap.size w (w.alloc (.cells #[.int .i64 x.k, .int .i64 x.f, .int .i64 x.t, .int .i64 x.i, .slice x.A x.n x.c, .slice x.B x.m x.d] 39))) := (Below.refl _ w).alloc (Nat.le_refl _) _
  have X1 : Hid (MBox (w.alloc (.cells #[.int .i64 x.k, .int .i64 x.f, .int .i64 x.t, .int .i64 x.i, .slice x.A x.n x.c, .slice x.B x.m x.d] 39)) w.heap.size x) := Cells.new _ _ _
  unfold mxv
  go_enter Try.func28, Try.ntmps28
  go_wp2_with fail
  refine (HN.out (w.alloc _) _ (by simp)).mono ?_
  rintro e w2 ⟨rfl, hb2⟩
  have L2 := Lib.hid (A1.out.trans (hb2.mono A1.out.size))
  clear hb2 HN
  go_wp2
  go_ret2
  exact ⟨1, .inl rfl, rfl, L2.out⟩

set_option maxRecDepth 100000 in
set_option maxHeartbeats 3200000 in
theorem dmsg_bad2 {x : Mx} {w : World} (h : MAt w x) (hp4 : ∀ z ∈ [x.k, x.f, x.t, x.i], 0 ≤ z) (hneg : ¬ ∀ z ∈ x.a, 0 ≤ z) : Calls Try.prog 28 #[mxv x] w (MsgBad w) := by
  obtain ⟨f1, f2, f3⟩ := h.fits
  have e1 := h.ints.len
  have e2 := h.text.len
  have hl4 : ∀ z ∈ [x.k, x.f, x.t, x.i], z < 9223372036854775808 := fun z hz => (f1 z hz).2
  have f3' : x.n ≤ 17592186044416 := by rw [← e1]; exact f3
  have HM := Lib.hid h
  have HN := Lib.hid (fun (W : World) (b : Nat) (hb : b = W.heap.size) => numsD_four hl4 hp4 W hb)
  have HA := Lib.hid (fun (W : World) (hW : Below w.heap.size w W) => numsD_neg (HM.out.ints.below hW) f2 f3' hneg)
  clear h f1 f2 f3 f3' e1 e2 hl4 hneg hp4
  have A1 : Hid (Below w.heap.size w (w.alloc (.cells #[.int .i64 x.k, .int .i64 x.f, .int .i64 x.t, .int .i64 x.i, .slice x.A x.n x.c, .slice x.B x.m x.d] 39))) := (Below.refl _ w).alloc (Nat.le_refl _) _
  have X1 : Hid (MBox (w.alloc (.cells #[.int .i64 x.k, .int .i64 x.f, .int .i64 x.t, .int .i64 x.i, .slice x.A x.n x.c, .slice x.B x.m x.d] 39)) w.heap.size x) := Cells.new _ _ _
  unfold mxv
  go_enter Try.func28, Try.ntmps28
  go_wp2_with fail
  refine (HN.out (w.alloc _) _ (by simp)).mono ?_
  rintro e w2 ⟨X, kx, cx, rfl, hX, hb2⟩
  have L2 := Lib.hid (A1.out.trans (hb2.mono A1.out.size))
  have X2 := Lib.hid (Cells.below X1.out hb2)
  obtain ⟨m0, m1, m2, m3, m4, m5⟩ := MBox.cells X2.out
  clear hX hb2 A1 X1 HN
  go_wp2_with fail
  refine (HA.out _ L2.out).mono ?_
  rintro e w3 ⟨rfl, hb⟩
  have L3 := Lib.hid (L2.out.trans (hb.mono L2.out.size))
  clear hb HA
  go_wp2
  go_ret2
  exact ⟨1, .inl rfl, rfl, L3.out⟩

set_option maxRecDepth 100000 in
set_option maxHeartbeats 3200000 in
theorem dmsg_bad3 {x : Mx} {w : World} (h : MAt w x) (hp4 : ∀ z ∈ [x.k, x.f, x.t, x.i], 0 ≤ z) (ha : ∀ z ∈ x.a, 0 ≤ z) (h64 : 64 < x.n) : Calls Try.prog 28 #[mxv x] w (MsgBad w) := by
  obtain ⟨f1, f2, f3⟩ := h.fits
  have e1 := h.ints.len
  have e2 := h.text.len
  have hl4 : ∀ z ∈ [x.k, x.f, x.t, x.i], z < 9223372036854775808 := fun z hz => (f1 z hz).2
  have f3' : x.n ≤ 17592186044416 := by rw [← e1]; exact f3
  have HM := Lib.hid h
  have HN := Lib.hid (fun (W : World) (b : Nat) (hb : b = W.heap.size) => numsD_four hl4 hp4 W hb)
  have HA := Lib.hid (fun (W : World) (hW : Below w.heap.size w W) => numsD_pos (HM.out.ints.below hW) f2 f3' ha)
  clear h f1 f2 f3 e1 e2 hl4 ha hp4
  have A1 : Hid (Below w.heap.size w (w.alloc (.cells #[.int .i64 x.k, .int .i64 x.f, .int .i64 x.t, .int .i64 x.i, .slice x.A x.n x.c, .slice x.B x.m x.d] 39))) := (Below.refl _ w).alloc (Nat.le_refl _) _
  have X1 : Hid (MBox (w.alloc (.cells #[.int .i64 x.k, .int .i64 x.f, .int .i64 x.t, .int .i64 x.i, .slice x.A x.n x.c, .slice x.B x.m x.d] 39)) w.heap.size x) := Cells.new _ _ _
  unfold mxv
  go_enter Try.func28, Try.ntmps28
  go_wp2_with fail
  refine (HN.out (w.alloc _) _ (by simp)).mono ?_
  rintro e w2 ⟨X, kx, cx, rfl, hX, hb2⟩
  have L2 := Lib.hid (A1.out.trans (hb2.mono A1.out.size))
  have X2 := Lib.hid (Cells.below X1.out hb2)
  obtain ⟨m0, m1, m2, m3, m4, m5⟩ := MBox.cells X2.out
  clear hX hb2 A1 X1 HN
  go_wp2_with fail
  refine (HA.out _ L2.out).mono ?_
  rintro e w3 ⟨Y, ky, cy, rfl, hY, hb⟩
  have L3 := Lib.hid (L2.out.trans (hb.mono L2.out.size))
  have X3 := Lib.hid (Cells.below X2.out hb)
  clear hY hb HA m0 m1 m2 m3 m4 m5 X2 L2
  obtain ⟨m0, m1, m2, m3, m4, m5⟩ := MBox.cells X3.out
  go_wp2
  go_ret2
  exact ⟨2, .inr rfl, rfl, L3.out⟩

set_option maxRecDepth 100000 in
set_option maxHeartbeats 3200000 in
theorem dmsg_bad4 {x : Mx} {w : World} (h : MAt w x) (hp4 : ∀ z ∈ [x.k, x.f, x.t, x.i], 0 ≤ z) (ha : ∀ z ∈ x.a, 0 ≤ z) (h64 : x.n ≤ 64) (hm : 65536 < x.m) : Calls Try.prog 28 #[mxv x] w (MsgBad w) := by
  obtain ⟨f1, f2, f3⟩ := h.fits
  have e1 := h.ints.len
  have e2 := h.text.len
  have hl4 : ∀ z ∈ [x.k, x.f, x.t, x.i], z < 9223372036854775808 := fun z hz => (f1 z hz).2
  have f3' : x.n ≤ 17592186044416 := by rw [← e1]; exact f3
  have HM := Lib.hid h
  have HN := Lib.hid (fun (W : World) (b : Nat) (hb : b = W.heap.size) => numsD_four hl4 hp4 W hb)
  have HA := Lib.hid (fun (W : World) (hW : Below w.heap.size w W) => numsD_pos (HM.out.ints.below hW) f2 f3' ha)
  have HV := Lib.hid (fun (W : World) (hW : Below w.heap.size w W) => vecD_long (HM.out.text.below hW) hm)
  clear h f1 f2 f3 f3' e1 e2 hl4 ha hp4 hm
  have A1 : Hid (Below w.heap.size w (w.alloc (.cells #[.int .i64 x.k, .int .i64 x.f, .int .i64 x.t, .int .i64 x.i, .slice x.A x.n x.c, .slice x.B x.m x.d] 39))) := (Below.refl _ w).alloc (Nat.le_refl _) _
  have X1 : Hid (MBox (w.alloc (.cells #[.int .i64 x.k, .int .i64 x.f, .int .i64 x.t, .int .i64 x.i, .slice x.A x.n x.c, .slice x.B x.m x.d] 39)) w.heap.size x) := Cells.new _ _ _
  unfold mxv
  go_enter Try.func28, Try.ntmps28
  go_wp2_with fail
  refine (HN.out (w.alloc _) _ (by simp)).mono ?_
  rintro e w2 ⟨X, kx, cx, rfl, hX, hb2⟩
  have L2 := Lib.hid (A1.out.trans (hb2.mono A1.out.size))
  have X2 := Lib.hid (Cells.below X1.out hb2)
  obtain ⟨m0, m1, m2, m3, m4, m5⟩ := MBox.cells X2.out
  clear hX hb2 A1 X1 HN
  go_wp2_with fail
  refine (HA.out _ L2.out).mono ?_
  rintro e w3 ⟨Y, ky, cy, rfl, hY, hb⟩
  have L3 := Lib.hid (L2.out.trans (hb.mono L2.out.size))
  have X3 := Lib.hid (Cells.below X2.out hb)
  clear hY hb HA m0 m1 m2 m3 m4 m5 X2 L2
  obtain ⟨m0, m1, m2, m3, m4, m5⟩ := MBox.cells X3.out
  go_wp2_with fail
  refine (HV.out _ L3.out).mono ?_
  rintro e w4 ⟨rfl, hb⟩
  have L4 := Lib.hid (L3.out.trans (hb.mono L3.out.size))
  clear hb HV
  go_wp2
  go_ret2
  exact ⟨2, .inr rfl, rfl, L4.out⟩
theorem dmsg_bad {x : Mx} {w : World} (h : MAt w x) (hk : okM x.p = false) : Calls Try.prog 28 #[mxv x] w (MsgBad w) := by
  have hk' : ¬ ((0 ≤ x.k ∧ 0 ≤ x.f ∧ 0 ≤ x.t ∧ 0 ≤ x.i) ∧ (∀ z ∈ x.a, 0 ≤ z) ∧ x.a.length ≤ 64 ∧ x.x.length ≤ 65536) := fun h => by
    rw [(ok_iff x.p).2 h] at hk
    cases hk
  have e1 := h.ints.len
  have e2 := h.text.len
  by_cases c1 : ∀ z ∈ [x.k, x.f, x.t, x.i], 0 ≤ z
  · by_cases c2 : ∀ z ∈ x.a, 0 ≤ z
    · by_cases c3 : x.n ≤ 64
      · refine dmsg_bad4 h c1 c2 c3 ?_
        by_cases c4 : x.m ≤ 65536
        · exact absurd ⟨⟨c1 _ (by simp), c1 _ (by simp), c1 _ (by simp), c1 _ (by simp)⟩, c2, by omega, by omega⟩ hk'
        · omega
      · exact dmsg_bad3 h c1 c2 (by omega)
    · exact dmsg_bad2 h c1 c2
  · exact dmsg_bad1 h c1
end Net
end Go.Proofs.Ytamahknnppjegaa
