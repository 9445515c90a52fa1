/-
  THE STATEMENT ZoneAppends: bytes appended to every zone, whole or torn, or why not, as the document says; what is given shares nothing with the zone handed in, which stays as it was. For every input.
-/
import Derived.Test.YtfcehlipbdngbaaZonBut
import Derived.Test.YtfcehlipbdngbaaZonOpen
namespace Go.Proofs.Ytfcehlipbdngbaa
open Go.ChangeShapes Go.WideShapes Go.ChangeAt Go.RowKit Mem
namespace Zon

set_option maxRecDepth 100000 in
set_option maxHeartbeats 3200000 in
theorem zoneAppends_skip (z : Zn) (D : Option Addr) (c : Nat) (most : Int) (B : Option Addr) (n d : Nat) (keep : Int) (w : World) (h1 : bigB z n = true) :
    Calls Try.prog 3 #[zv z D c, .int .i64 most, .slice B n d, .int .i64 keep] w fun e w' => e = .returned (.bool true) ∧ Below w.heap.size w w' := by
  have L1 := Lib.hid ((Below.refl w.heap.size w).alloc (Nat.le_refl _) (.cells #[.int .i64 z.st, .int .i64 z.fc, .slice D z.data.length c] 24))
  have A1 := Lib.hid (Box.new w z D c)
  have HB := fun w => Lib.hid (big_any z D c B n d w)
  rw [h1] at HB
  unfold zv at *
  clear h1
  go_enter Try.func3, Try.ntmps3
  go_wp2_with fail
  generalize w.alloc (.cells #[.int .i64 z.st, .int .i64 z.fc, .slice D z.data.length c] 24) = w1 at *
  refine (live_any w1).mono ?_
  rintro e w2 ⟨rfl, hb2⟩
  have L2 := Lib.hid (L1.out.trans (hb2.mono L1.out.size))
  have A2 := Lib.hid (A1.out.below hb2)
  obtain ⟨c0, c1, c2⟩ := A2.out.cells
  clear hb2
  go_wp2_with fail
  refine (HB w2).out.mono ?_
  rintro e w3 ⟨rfl, hb3⟩
  have L3 := Lib.hid (L2.out.trans (hb3.mono L2.out.size))
  clear hb3
  go_wp2_with fail
  go_ret
  exact ⟨rfl, L3.out⟩

set_option maxRecDepth 100000 in
set_option maxHeartbeats 6400000 in
theorem zoneAppends_main (z : Zn) (D : Option Addr) (c : Nat) (most : Int) (B : Option Addr) (b : List B8) (d : Nat) (keep : Int) (w : World) (hz : Row cb w D z.data.length c z.data) (hr : Row cb w B b.length d b) (h1 : bigB z b.length = false) :
    Calls Try.prog 3 #[zv z D c, .int .i64 most, .slice B b.length d, .int .i64 keep] w fun e w' => e = .returned (.bool true) ∧ Below w.heap.size w w' := by
  have L1 := Lib.hid ((Below.refl w.heap.size w).alloc (Nat.le_refl _) (.cells #[.int .i64 z.st, .int .i64 z.fc, .slice D z.data.length c] 24))
  have A1 := Lib.hid (Held.start hz)
  have HR := Lib.hid hr
  have HB := fun w => Lib.hid (big_any z D c B b.length d w)
  rw [h1] at HB
  have hbl : z.data.length ≤ 70000 ∧ b.length ≤ 70000 := by
    unfold bigB at h1
    simp only [Bool.or_eq_false_iff, decide_eq_false_iff_not] at h1
    omega
  have HCp := fun w (h : Row cb w D z.data.length c z.data) => Lib.hid (copy_any h)
  have HA := fun w (h1 : Row cb w D z.data.length c z.data) (h2 : Row cb w B b.length d b) => Lib.hid (append_any (most := most) h1 h2)
  have HA2 := fun w (h1 : Row cb w D z.data.length c z.data) (h2 : Row cb w B b.length d b) => Lib.hid (refAppend_any (most := most) h1 h2)
  have HT := fun w (h1 : Row cb w D z.data.length c z.data) (h2 : Row cb w B b.length d b) => Lib.hid (torn_any (most := most) (keep := keep) h1 h2)
  have HT2 := fun w (h1 : Row cb w D z.data.length c z.data) (h2 : Row cb w B b.length d b) => Lib.hid (refTorn_any (most := most) (keep := keep) h1 h2)
  have HK := fun w => Lib.hid (check_any z D c most w)
  have HK2 := fun w => Lib.hid (refCheck_any z D c most w)
  have HSm := fun (x : Zn) X q Y p w (h1 : Row cb w X x.data.length q x.data) (h2 : Row cb w Y x.data.length p x.data) => Lib.hid (same_any (x := x) (y := x) h1 h2)
  have HSm := fun (x : Zn) X q Y p w h1 h2 => (show Hid (Calls _ _ _ _ fun e w' => e = .returned (.bool true) ∧ _) from (sameZ_self x) ▸ HSm x X q Y p w h1 h2)
  have hvl := appRes_len z most b
  have htl := tornZ_len z most b keep
  have HV : Hid ((appRes z most b).data.length ≤ 140737488351232) := by show _ ≤ _; omega
  have HTn : Hid ((tornZ z most b keep).data.length ≤ 140737488351232) := by show _ ≤ _; omega
  have HZn : Hid (z.data.length ≤ 140737488351232) := by show _ ≤ _; omega
  have hvb : (appRes z most b).data.length ≤ 140000 := by omega
  have htb : (tornZ z most b keep).data.length ≤ 140000 := by omega
  clear h1 hz hr hvl htl
  generalize appRes z most b = v at *
  generalize tornZ z most b keep = t at *
  generalize appAt z most b.length = ia at *
  generalize appErr z most b.length = ie at *
  generalize tornErr z most b keep = te at *
  generalize errOf (okB z most) = ke at *
  have n1 : (ia != ia) = false := by simp
  have n2 : (ie != ie) = false := by simp
  have n3 : (te != te) = false := by simp
  have n4 : (ke != ke) = false := by simp
  unfold GaveZ GaveZ1 at *
  unfold zv at *
  go_enter Try.func3, Try.ntmps3
  go_wp2_with fail
  generalize w.alloc (.cells #[.int .i64 z.st, .int .i64 z.fc, .slice D z.data.length c] 24) = w1 at *
  refine (live_any w1).mono ?_
  rintro e w2 ⟨rfl, hb2⟩
  have L2 := Lib.hid (L1.out.trans (hb2.mono L1.out.size))
  have A2 := Lib.hid (A1.out.below hb2)
  obtain ⟨c0, c1, c2⟩ := A2.out.box.cells
  clear hb2 L1 A1
  go_wp2_with fail
  refine (HB w2).out.mono ?_
  rintro e w3 ⟨rfl, hb3⟩
  have L3 := Lib.hid (L2.out.trans (hb3.mono L2.out.size))
  have A3 := Lib.hid (A2.out.below hb3)
  clear hb3 c0 c1 c2 L2 A2 HB
  obtain ⟨c0, c1, c2⟩ := A3.out.box.cells
  go_wp2_with fail
  refine (HCp w3 A3.out.row).out.mono ?_
  rintro e w4 ⟨CX, CQ, rfl, hX, hb⟩
  unfold zv at *
  have b1 : Below w4.heap.size w4 (w4.alloc (.cells #[.int .i64 z.st, .int .i64 z.fc, .slice CX z.data.length CQ] 24)) := (Below.refl _ w4).alloc (Nat.le_refl _) _
  have b2 := hb.trans (b1.mono hb.size)
  have L5 := Lib.hid (L3.out.trans (b2.mono L3.out.size))
  have A5 := Lib.hid (A3.out.below b2)
  have C5 : Hid (Held (w4.alloc (.cells #[.int .i64 z.st, .int .i64 z.fc, .slice CX z.data.length CQ] 24)) w4.heap.size z CX CQ) := Held.new hX HZn.out
  clear hX hb b1 b2 c0 c1 c2 L3 A3 HCp
  go_upto_region 5 with fail
  generalize w4.alloc (.cells #[.int .i64 z.st, .int .i64 z.fc, .slice CX z.data.length CQ] 24) = w5 at *
  generalize w4.heap.size = g10 at *
  obtain ⟨c0, c1, c2⟩ := A5.out.box.cells
  go_wp2_with fail
  refine (HA w5 A5.out.row (HR.out.below L5.out)).out.mono ?_
  rintro e w6 ⟨XX, XQ, rfl, hX, hb⟩
  unfold zv at *
  have b1 : Below w6.heap.size w6 (w6.alloc (.cells #[.int .i64 v.st, .int .i64 v.fc, .slice XX v.data.length XQ] 24)) := (Below.refl _ w6).alloc (Nat.le_refl _) _
  have b2 := hb.trans (b1.mono hb.size)
  have L7 := Lib.hid (L5.out.trans (b2.mono L5.out.size))
  have X7 : Hid (Held (w6.alloc (.cells #[.int .i64 v.st, .int .i64 v.fc, .slice XX v.data.length XQ] 24)) w6.heap.size v XX XQ) := Held.new hX HV.out
  have A7 := Lib.hid (A5.out.below b2)
  have C7 := Lib.hid (C5.out.below b2)
  have OX7 : Hid (Owns cb 5 w5.heap.size (w6.alloc (.cells #[.int .i64 v.st, .int .i64 v.fc, .slice XX v.data.length XQ] 24)) (.slice XX v.data.length XQ) v.data.length v.data) := hX.alloc _
  have OXL : Hid (w5.heap.size ≤ w6.heap.size) := hb.size
  have T7 := Lib.hid b2
  have HX6 : Hid (0 < v.data.length → ∃ g, XX = some ⟨g, 0, none⟩ ∧ g < w6.heap.size) := fun h0 => by
    obtain ⟨g, h1, -⟩ := own_place hX
    obtain ⟨h2, -, h3⟩ := h1 h0
    exact ⟨g, h2, h3⟩
  clear hX hb b1 b2 c0 c1 c2 HA
  go_upto_region 6 with fail
  generalize w6.alloc (.cells #[.int .i64 v.st, .int .i64 v.fc, .slice XX v.data.length XQ] 24) = w7 at *
  generalize w6.heap.size = g11 at *
  obtain ⟨c0, c1, c2⟩ := A7.out.box.cells
  go_wp2_with fail
  refine (HA2 w7 A7.out.row (HR.out.below L7.out)).out.mono ?_
  rintro e w8 ⟨YX, YQ, rfl, hX, hb⟩
  unfold zv at *
  have b1 : Below w8.heap.size w8 (w8.alloc (.cells #[.int .i64 v.st, .int .i64 v.fc, .slice YX v.data.length YQ] 24)) := (Below.refl _ w8).alloc (Nat.le_refl _) _
  have b2 := hb.trans (b1.mono hb.size)
  have L9 := Lib.hid (L7.out.trans (b2.mono L7.out.size))
  have Y9 : Hid (Held (w8.alloc (.cells #[.int .i64 v.st, .int .i64 v.fc, .slice YX v.data.length YQ] 24)) w8.heap.size v YX YQ) := Held.new hX HV.out
  have A9 := Lib.hid (A7.out.below b2)
  have C9 := Lib.hid (C7.out.below b2)
  have X9 := Lib.hid (X7.out.below b2)
  have OX9 := Lib.hid (OX7.out.below b2)
  have T9 := Lib.hid (T7.out.trans (b2.mono T7.out.size))
  have HX9 : Hid (g11 < w7.heap.size) := X7.out.box.lt
  clear hX hb b1 b2 c0 c1 c2 T7 L7 A7 C7 X7 OX7 HA2
  go_upto_region 7 with fail
  generalize w8.alloc (.cells #[.int .i64 v.st, .int .i64 v.fc, .slice YX v.data.length YQ] 24) = w9 at *
  generalize w8.heap.size = g14 at *
  obtain ⟨c0, c1, c2⟩ := A9.out.box.cells
  go_wp2_with fail
  refine (HT w9 A9.out.row (HR.out.below L9.out)).out.mono ?_
  rintro e w10 ⟨PX, PQ, rfl, hX, hb⟩
  unfold zv at *
  have b1 : Below w10.heap.size w10 (w10.alloc (.cells #[.int .i64 t.st, .int .i64 t.fc, .slice PX t.data.length PQ] 24)) := (Below.refl _ w10).alloc (Nat.le_refl _) _
  have b2 := hb.trans (b1.mono hb.size)
  have L11 := Lib.hid (L9.out.trans (b2.mono L9.out.size))
  have P11 : Hid (Held (w10.alloc (.cells #[.int .i64 t.st, .int .i64 t.fc, .slice PX t.data.length PQ] 24)) w10.heap.size t PX PQ) := Held.new hX HTn.out
  have A11 := Lib.hid (A9.out.below b2)
  have C11 := Lib.hid (C9.out.below b2)
  have X11 := Lib.hid (X9.out.below b2)
  have Y11 := Lib.hid (Y9.out.below b2)
  have OX11 := Lib.hid (OX9.out.below b2)
  have OP11 : Hid (Owns cb 5 w9.heap.size (w10.alloc (.cells #[.int .i64 t.st, .int .i64 t.fc, .slice PX t.data.length PQ] 24)) (.slice PX t.data.length PQ) t.data.length t.data) := hX.alloc _
  have OPL : Hid (w9.heap.size ≤ w10.heap.size) := hb.size
  have T11 := Lib.hid (T9.out.trans (b2.mono T9.out.size))
  have HP10 : Hid (0 < t.data.length → ∃ g, PX = some ⟨g, 0, none⟩ ∧ g < w10.heap.size) := fun h0 => by
    obtain ⟨g, h1, -⟩ := own_place hX
    obtain ⟨h2, -, h3⟩ := h1 h0
    exact ⟨g, h2, h3⟩
  have HX11 : Hid (g11 < w9.heap.size) := X9.out.box.lt
  have HT9 : Hid (w5.heap.size ≤ w9.heap.size) := T9.out.size
  clear hX hb b1 b2 c0 c1 c2 T9 L9 A9 C9 X9 Y9 OX9 HT
  go_upto_region 8 with fail
  generalize w10.alloc (.cells #[.int .i64 t.st, .int .i64 t.fc, .slice PX t.data.length PQ] 24) = w11 at *
  generalize w10.heap.size = g17 at *
  obtain ⟨c0, c1, c2⟩ := A11.out.box.cells
  go_wp2_with fail
  refine (HT2 w11 A11.out.row (HR.out.below L11.out)).out.mono ?_
  rintro e w12 ⟨QX, QQ, rfl, hX, hb⟩
  unfold zv at *
  have b1 : Below w12.heap.size w12 (w12.alloc (.cells #[.int .i64 t.st, .int .i64 t.fc, .slice QX t.data.length QQ] 24)) := (Below.refl _ w12).alloc (Nat.le_refl _) _
  have b2 := hb.trans (b1.mono hb.size)
  have L13 := Lib.hid (L11.out.trans (b2.mono L11.out.size))
  have Q13 : Hid (Held (w12.alloc (.cells #[.int .i64 t.st, .int .i64 t.fc, .slice QX t.data.length QQ] 24)) w12.heap.size t QX QQ) := Held.new hX HTn.out
  have A13 := Lib.hid (A11.out.below b2)
  have C13 := Lib.hid (C11.out.below b2)
  have X13 := Lib.hid (X11.out.below b2)
  have Y13 := Lib.hid (Y11.out.below b2)
  have P13 := Lib.hid (P11.out.below b2)
  have OX13 := Lib.hid (OX11.out.below b2)
  have OP13 := Lib.hid (OP11.out.below b2)
  have T13 := Lib.hid (T11.out.trans (b2.mono T11.out.size))
  clear hX hb b1 b2 c0 c1 c2 T11 L11 A11 C11 X11 Y11 P11 OX11 OP11 HT2
  go_upto_region 9 with fail
  generalize w12.alloc (.cells #[.int .i64 t.st, .int .i64 t.fc, .slice QX t.data.length QQ] 24) = w13 at *
  generalize w12.heap.size = g19 at *
  have hcell : ∀ W, Box W g11 v XX XQ → Box W g14 v YX YQ → Box W g17 t PX PQ → Box W g19 t QX QQ → Box W w.heap.size z D c → (W.cell? ⟨g11, 0, none⟩ = some (.int .i64 v.st) ∧ W.cell? ⟨g11, 1, none⟩ = some (.int .i64 v.fc) ∧ W.cell? ⟨g11, 2, none⟩ = some (.slice XX v.data.length XQ) ∧ W.cell? ⟨g14, 0, none⟩ = some (.int .i64 v.st) ∧ W.cell? ⟨g14, 1, none⟩ = some (.int .i64 v.fc) ∧ W.cell? ⟨g14, 2, none⟩ = some (.slice YX v.data.length YQ) ∧ W.cell? ⟨g17, 0, none⟩ = some (.int .i64 t.st) ∧ W.cell? ⟨g17, 1, none⟩ = some (.int .i64 t.fc) ∧ W.cell? ⟨g17, 2, none⟩ = some (.slice PX t.data.length PQ) ∧ W.cell? ⟨g19, 0, none⟩ = some (.int .i64 t.st) ∧ W.cell? ⟨g19, 1, none⟩ = some (.int .i64 t.fc) ∧ W.cell? ⟨g19, 2, none⟩ = some (.slice QX t.data.length QQ) ∧ W.cell? ⟨w.heap.size, 0, none⟩ = some (.int .i64 z.st) ∧ W.cell? ⟨w.heap.size, 1, none⟩ = some (.int .i64 z.fc) ∧ W.cell? ⟨w.heap.size, 2, none⟩ = some (.slice D z.data.length c)) := by
    intro W h1 h2 h3 h4 h5
    obtain ⟨a1, a2, a3⟩ := h1.cells
    obtain ⟨b1, b2, b3⟩ := h2.cells
    obtain ⟨c1, c2, c3⟩ := h3.cells
    obtain ⟨d1, d2, d3⟩ := h4.cells
    obtain ⟨e1, e2, e3⟩ := h5.cells
    exact ⟨a1, a2, a3, b1, b2, b3, c1, c2, c3, d1, d2, d3, e1, e2, e3⟩
  have hdw : Below w13.heap.size w13 w13.drew := (Below.refl _ w13).drew
  have L14 : Hid (Below w.heap.size w w13.drew) := L13.out.drew
  have T14 : Hid (Below w5.heap.size w5 w13.drew) := T13.out.drew
  have A14 := Lib.hid (A13.out.below hdw)
  have C14 := Lib.hid (C13.out.below hdw)
  have X14 := Lib.hid (X13.out.below hdw)
  have Y14 := Lib.hid (Y13.out.below hdw)
  have P14 := Lib.hid (P13.out.below hdw)
  have Q14 := Lib.hid (Q13.out.below hdw)
  have OX14 := Lib.hid (OX13.out.below hdw)
  have OP14 := Lib.hid (OP13.out.below hdw)
  clear hdw T13 L13 A13 C13 X13 Y13 P13 Q13 OX13 OP13
  refine wp_region_held_drew (S := fun W => W.cell? ⟨g11, 0, none⟩ = some (.int .i64 v.st) ∧ W.cell? ⟨g11, 1, none⟩ = some (.int .i64 v.fc) ∧ W.cell? ⟨g11, 2, none⟩ = some (.slice XX v.data.length XQ) ∧ W.cell? ⟨g14, 0, none⟩ = some (.int .i64 v.st) ∧ W.cell? ⟨g14, 1, none⟩ = some (.int .i64 v.fc) ∧ W.cell? ⟨g14, 2, none⟩ = some (.slice YX v.data.length YQ) ∧ W.cell? ⟨g17, 0, none⟩ = some (.int .i64 t.st) ∧ W.cell? ⟨g17, 1, none⟩ = some (.int .i64 t.fc) ∧ W.cell? ⟨g17, 2, none⟩ = some (.slice PX t.data.length PQ) ∧ W.cell? ⟨g19, 0, none⟩ = some (.int .i64 t.st) ∧ W.cell? ⟨g19, 1, none⟩ = some (.int .i64 t.fc) ∧ W.cell? ⟨g19, 2, none⟩ = some (.slice QX t.data.length QQ) ∧ W.cell? ⟨w.heap.size, 0, none⟩ = some (.int .i64 z.st) ∧ W.cell? ⟨w.heap.size, 1, none⟩ = some (.int .i64 z.fc) ∧ W.cell? ⟨w.heap.size, 2, none⟩ = some (.slice D z.data.length c))
    (by kernel_rfl) (hcell _ X14.out.box Y14.out.box P14.out.box Q14.out.box A14.out.box) (fun hHeld => ?_)
  (first | (refine Reg.take 0 (v := ?_) rfl (by kernel_rfl) (by kernel_rfl) (by kernel_rfl) (fun _ _ _ h => h) (Or.inl ⟨by rfl, ?_⟩) (by assumption) ?_; rotate_left; (focus ((intro W hSW); (try dsimp only at hSW); (try go_split_ands); go_simp; (try (with_reducible rfl)); done))) | (refine Reg.take 0 (v := undef) rfl (by kernel_rfl) (by kernel_rfl) (by kernel_rfl) (fun _ _ _ h => h) (Or.inr ⟨by rfl, rfl⟩) (by assumption) ?_))
  (try simp only [Act.put, List.setIfInBounds_toArray, List.set_cons_zero, List.set_cons_succ])
  (first | (refine Reg.take 1 (v := ?_) rfl (by kernel_rfl) (by kernel_rfl) (by kernel_rfl) (fun _ _ _ h => h) (Or.inl ⟨by rfl, ?_⟩) (by assumption) ?_; rotate_left; (focus ((intro W hSW); (try dsimp only at hSW); (try go_split_ands); go_simp; (try (with_reducible rfl)); done))) | (refine Reg.take 1 (v := undef) rfl (by kernel_rfl) (by kernel_rfl) (by kernel_rfl) (fun _ _ _ h => h) (Or.inr ⟨by rfl, rfl⟩) (by assumption) ?_))
  (try simp only [Act.put, List.setIfInBounds_toArray, List.set_cons_zero, List.set_cons_succ])
  refine Reg.step 2 rfl (by kernel_rfl) (by rfl) (fun K hK => ?_)
  go_simp
  refine (HSm v XX XQ YX YQ w13.drew X14.out.row Y14.out.row).out.mono ?_
  rintro e w15 ⟨rfl, hb⟩
  have L15 := Lib.hid (L14.out.trans (hb.mono L14.out.size))
  have T15 := Lib.hid (T14.out.trans (hb.mono T14.out.size))
  have A15 := Lib.hid (A14.out.below hb)
  have C15 := Lib.hid (C14.out.below hb)
  have X15 := Lib.hid (X14.out.below hb)
  have Y15 := Lib.hid (Y14.out.below hb)
  have P15 := Lib.hid (P14.out.below hb)
  have Q15 := Lib.hid (Q14.out.below hb)
  have OX15 := Lib.hid (OX14.out.below hb)
  have OP15 := Lib.hid (OP14.out.below hb)
  refine hK.out _ _ (hcell _ X15.out.box Y15.out.box P15.out.box Q15.out.box A15.out.box) (fun hHeld2 => ?_)
  clear hK K hb T14 L14 A14 C14 X14 Y14 P14 Q14 OX14 OP14
  (try simp only [Act.put, List.setIfInBounds_toArray, List.set_cons_zero, List.set_cons_succ])
  (first | (refine Reg.take 3 (v := ?_) rfl (by kernel_rfl) (by kernel_rfl) (by kernel_rfl) (fun _ _ _ h => h) (Or.inl ⟨by rfl, ?_⟩) (by assumption) ?_; rotate_left; (focus ((intro W hSW); (try dsimp only at hSW); (try go_split_ands); go_simp; (try (with_reducible rfl)); done))) | (refine Reg.take 3 (v := undef) rfl (by kernel_rfl) (by kernel_rfl) (by kernel_rfl) (fun _ _ _ h => h) (Or.inr ⟨by rfl, rfl⟩) (by assumption) ?_))
  (try simp only [Act.put, List.setIfInBounds_toArray, List.set_cons_zero, List.set_cons_succ])
  (first | (refine Reg.take 4 (v := ?_) rfl (by kernel_rfl) (by kernel_rfl) (by kernel_rfl) (fun _ _ _ h => h) (Or.inl ⟨by rfl, ?_⟩) (by assumption) ?_; rotate_left; (focus ((intro W hSW); (try dsimp only at hSW); (try go_split_ands); go_simp; (try (with_reducible rfl)); done))) | (refine Reg.take 4 (v := undef) rfl (by kernel_rfl) (by kernel_rfl) (by kernel_rfl) (fun _ _ _ h => h) (Or.inr ⟨by rfl, rfl⟩) (by assumption) ?_))
  (try simp only [Act.put, List.setIfInBounds_toArray, List.set_cons_zero, List.set_cons_succ])
  (first | (refine Reg.take 5 (v := ?_) rfl (by kernel_rfl) (by kernel_rfl) (by kernel_rfl) (fun _ _ _ h => h) (Or.inl ⟨by rfl, ?_⟩) (by assumption) ?_; rotate_left; (focus ((intro W hSW); (try dsimp only at hSW); (try go_split_ands); go_simp; (try (with_reducible rfl)); done))) | (refine Reg.take 5 (v := undef) rfl (by kernel_rfl) (by kernel_rfl) (by kernel_rfl) (fun _ _ _ h => h) (Or.inr ⟨by rfl, rfl⟩) (by assumption) ?_))
  (try simp only [Act.put, List.setIfInBounds_toArray, List.set_cons_zero, List.set_cons_succ])
  (first | (refine Reg.take 6 (v := ?_) rfl (by kernel_rfl) (by kernel_rfl) (by kernel_rfl) (fun _ _ _ h => h) (Or.inl ⟨by rfl, ?_⟩) (by assumption) ?_; rotate_left; (focus ((intro W hSW); (try dsimp only at hSW); (try go_split_ands); go_simp; (try (with_reducible rfl)); done))) | (refine Reg.take 6 (v := undef) rfl (by kernel_rfl) (by kernel_rfl) (by kernel_rfl) (fun _ _ _ h => h) (Or.inr ⟨by rfl, rfl⟩) (by assumption) ?_))
  (try simp only [Act.put, List.setIfInBounds_toArray, List.set_cons_zero, List.set_cons_succ])
  (first | (refine Reg.take 7 (v := ?_) rfl (by kernel_rfl) (by kernel_rfl) (by kernel_rfl) (fun _ _ _ h => h) (Or.inl ⟨by rfl, ?_⟩) (by assumption) ?_; rotate_left; (focus ((intro W hSW); (try dsimp only at hSW); (try go_split_ands); go_simp; (try (with_reducible rfl)); done))) | (refine Reg.take 7 (v := undef) rfl (by kernel_rfl) (by kernel_rfl) (by kernel_rfl) (fun _ _ _ h => h) (Or.inr ⟨by rfl, rfl⟩) (by assumption) ?_))
  (try simp only [Act.put, List.setIfInBounds_toArray, List.set_cons_zero, List.set_cons_succ])
  (first | (refine Reg.take 8 (v := ?_) rfl (by kernel_rfl) (by kernel_rfl) (by kernel_rfl) (fun _ _ _ h => h) (Or.inl ⟨by rfl, ?_⟩) (by assumption) ?_; rotate_left; (focus ((intro W hSW); (try dsimp only at hSW); (try go_split_ands); go_simp; (try (with_reducible rfl)); done))) | (refine Reg.take 8 (v := undef) rfl (by kernel_rfl) (by kernel_rfl) (by kernel_rfl) (fun _ _ _ h => h) (Or.inr ⟨by rfl, rfl⟩) (by assumption) ?_))
  (try simp only [Act.put, List.setIfInBounds_toArray, List.set_cons_zero, List.set_cons_succ])
  (first | (refine Reg.take 9 (v := ?_) rfl (by kernel_rfl) (by kernel_rfl) (by kernel_rfl) (fun _ _ _ h => h) (Or.inl ⟨by rfl, ?_⟩) (by assumption) ?_; rotate_left; (focus ((intro W hSW); (try dsimp only at hSW); (try go_split_ands); go_simp; (try (with_reducible rfl)); done))) | (refine Reg.take 9 (v := undef) rfl (by kernel_rfl) (by kernel_rfl) (by kernel_rfl) (fun _ _ _ h => h) (Or.inr ⟨by rfl, rfl⟩) (by assumption) ?_))
  (try simp only [Act.put, List.setIfInBounds_toArray, List.set_cons_zero, List.set_cons_succ])
  (first | (refine Reg.take 10 (v := ?_) rfl (by kernel_rfl) (by kernel_rfl) (by kernel_rfl) (fun _ _ _ h => h) (Or.inl ⟨by rfl, ?_⟩) (by assumption) ?_; rotate_left; (focus ((intro W hSW); (try dsimp only at hSW); (try go_split_ands); go_simp; (try (with_reducible rfl)); done))) | (refine Reg.take 10 (v := undef) rfl (by kernel_rfl) (by kernel_rfl) (by kernel_rfl) (fun _ _ _ h => h) (Or.inr ⟨by rfl, rfl⟩) (by assumption) ?_))
  (try simp only [Act.put, List.setIfInBounds_toArray, List.set_cons_zero, List.set_cons_succ])
  (first | (refine Reg.take 11 (v := ?_) rfl (by kernel_rfl) (by kernel_rfl) (by kernel_rfl) (fun _ _ _ h => h) (Or.inl ⟨by rfl, ?_⟩) (by assumption) ?_; rotate_left; (focus ((intro W hSW); (try dsimp only at hSW); (try go_split_ands); go_simp; (try (with_reducible rfl)); done))) | (refine Reg.take 11 (v := undef) rfl (by kernel_rfl) (by kernel_rfl) (by kernel_rfl) (fun _ _ _ h => h) (Or.inr ⟨by rfl, rfl⟩) (by assumption) ?_))
  (try simp only [Act.put, List.setIfInBounds_toArray, List.set_cons_zero, List.set_cons_succ])
  (first | (refine Reg.take 12 (v := ?_) rfl (by kernel_rfl) (by kernel_rfl) (by kernel_rfl) (fun _ _ _ h => h) (Or.inl ⟨by rfl, ?_⟩) (by assumption) ?_; rotate_left; (focus ((intro W hSW); (try dsimp only at hSW); (try go_split_ands); go_simp; (try (with_reducible rfl)); done))) | (refine Reg.take 12 (v := undef) rfl (by kernel_rfl) (by kernel_rfl) (by kernel_rfl) (fun _ _ _ h => h) (Or.inr ⟨by rfl, rfl⟩) (by assumption) ?_))
  (try simp only [Act.put, List.setIfInBounds_toArray, List.set_cons_zero, List.set_cons_succ])
  (first | (refine Reg.take 13 (v := ?_) rfl (by kernel_rfl) (by kernel_rfl) (by kernel_rfl) (fun _ _ _ h => h) (Or.inl ⟨by rfl, ?_⟩) (by assumption) ?_; rotate_left; (focus ((intro W hSW); (try dsimp only at hSW); (try go_split_ands); go_simp; (try (with_reducible rfl)); done))) | (refine Reg.take 13 (v := undef) rfl (by kernel_rfl) (by kernel_rfl) (by kernel_rfl) (fun _ _ _ h => h) (Or.inr ⟨by rfl, rfl⟩) (by assumption) ?_))
  (try simp only [Act.put, List.setIfInBounds_toArray, List.set_cons_zero, List.set_cons_succ])
  (first | (refine Reg.take 14 (v := ?_) rfl (by kernel_rfl) (by kernel_rfl) (by kernel_rfl) (fun _ _ _ h => h) (Or.inl ⟨by rfl, ?_⟩) (by assumption) ?_; rotate_left; (focus ((intro W hSW); (try dsimp only at hSW); (try go_split_ands); go_simp; (try (with_reducible rfl)); done))) | (refine Reg.take 14 (v := undef) rfl (by kernel_rfl) (by kernel_rfl) (by kernel_rfl) (fun _ _ _ h => h) (Or.inr ⟨by rfl, rfl⟩) (by assumption) ?_))
  (try simp only [Act.put, List.setIfInBounds_toArray, List.set_cons_zero, List.set_cons_succ])
  (first | (refine Reg.take 15 (v := ?_) rfl (by kernel_rfl) (by kernel_rfl) (by kernel_rfl) (fun _ _ _ h => h) (Or.inl ⟨by rfl, ?_⟩) (by assumption) ?_; rotate_left; (focus ((intro W hSW); (try dsimp only at hSW); (try go_split_ands); go_simp; (try (with_reducible rfl)); done))) | (refine Reg.take 15 (v := undef) rfl (by kernel_rfl) (by kernel_rfl) (by kernel_rfl) (fun _ _ _ h => h) (Or.inr ⟨by rfl, rfl⟩) (by assumption) ?_))
  (try simp only [Act.put, List.setIfInBounds_toArray, List.set_cons_zero, List.set_cons_succ])
  (first | (refine Reg.take 16 (v := ?_) rfl (by kernel_rfl) (by kernel_rfl) (by kernel_rfl) (fun _ _ _ h => h) (Or.inl ⟨by rfl, ?_⟩) (by assumption) ?_; rotate_left; (focus ((intro W hSW); (try dsimp only at hSW); (try go_split_ands); go_simp; (try (with_reducible rfl)); done))) | (refine Reg.take 16 (v := undef) rfl (by kernel_rfl) (by kernel_rfl) (by kernel_rfl) (fun _ _ _ h => h) (Or.inr ⟨by rfl, rfl⟩) (by assumption) ?_))
  (try simp only [Act.put, List.setIfInBounds_toArray, List.set_cons_zero, List.set_cons_succ])
  refine Reg.step 17 rfl (by kernel_rfl) (by rfl) (fun K hK => ?_)
  go_simp
  refine (HSm t PX PQ QX QQ w15 P15.out.row Q15.out.row).out.mono ?_
  rintro e w16 ⟨rfl, hb⟩
  have L16 := Lib.hid (L15.out.trans (hb.mono L15.out.size))
  have T16 := Lib.hid (T15.out.trans (hb.mono T15.out.size))
  have A16 := Lib.hid (A15.out.below hb)
  have C16 := Lib.hid (C15.out.below hb)
  have X16 := Lib.hid (X15.out.below hb)
  have Y16 := Lib.hid (Y15.out.below hb)
  have P16 := Lib.hid (P15.out.below hb)
  have Q16 := Lib.hid (Q15.out.below hb)
  have OX16 := Lib.hid (OX15.out.below hb)
  have OP16 := Lib.hid (OP15.out.below hb)
  refine hK.out _ _ (hcell _ X16.out.box Y16.out.box P16.out.box Q16.out.box A16.out.box) (fun hHeld3 => ?_)
  clear hK K hb T15 L15 A15 C15 X15 Y15 P15 Q15 OX15 OP15
  (try simp only [Act.put, List.setIfInBounds_toArray, List.set_cons_zero, List.set_cons_succ])
  (first | (refine Reg.take 18 (v := ?_) rfl (by kernel_rfl) (by kernel_rfl) (by kernel_rfl) (fun _ _ _ h => h) (Or.inl ⟨by rfl, ?_⟩) (by assumption) ?_; rotate_left; (focus ((intro W hSW); (try dsimp only at hSW); (try go_split_ands); go_simp; (try (with_reducible rfl)); done))) | (refine Reg.take 18 (v := undef) rfl (by kernel_rfl) (by kernel_rfl) (by kernel_rfl) (fun _ _ _ h => h) (Or.inr ⟨by rfl, rfl⟩) (by assumption) ?_))
  (try simp only [Act.put, List.setIfInBounds_toArray, List.set_cons_zero, List.set_cons_succ])
  (first | (refine Reg.take 19 (v := ?_) rfl (by kernel_rfl) (by kernel_rfl) (by kernel_rfl) (fun _ _ _ h => h) (Or.inl ⟨by rfl, ?_⟩) (by assumption) ?_; rotate_left; (focus ((intro W hSW); (try dsimp only at hSW); (try go_split_ands); go_simp; (try (with_reducible rfl)); done))) | (refine Reg.take 19 (v := undef) rfl (by kernel_rfl) (by kernel_rfl) (by kernel_rfl) (fun _ _ _ h => h) (Or.inr ⟨by rfl, rfl⟩) (by assumption) ?_))
  (try simp only [Act.put, List.setIfInBounds_toArray, List.set_cons_zero, List.set_cons_succ])
  (first | (refine Reg.take 20 (v := ?_) rfl (by kernel_rfl) (by kernel_rfl) (by kernel_rfl) (fun _ _ _ h => h) (Or.inl ⟨by rfl, ?_⟩) (by assumption) ?_; rotate_left; (focus ((intro W hSW); (try dsimp only at hSW); (try go_split_ands); go_simp; (try (with_reducible rfl)); done))) | (refine Reg.take 20 (v := undef) rfl (by kernel_rfl) (by kernel_rfl) (by kernel_rfl) (fun _ _ _ h => h) (Or.inr ⟨by rfl, rfl⟩) (by assumption) ?_))
  (try simp only [Act.put, List.setIfInBounds_toArray, List.set_cons_zero, List.set_cons_succ])
  (first | (refine Reg.take 21 (v := ?_) rfl (by kernel_rfl) (by kernel_rfl) (by kernel_rfl) (fun _ _ _ h => h) (Or.inl ⟨by rfl, ?_⟩) (by assumption) ?_; rotate_left; (focus ((intro W hSW); (try dsimp only at hSW); (try go_split_ands); go_simp; (try (with_reducible rfl)); done))) | (refine Reg.take 21 (v := undef) rfl (by kernel_rfl) (by kernel_rfl) (by kernel_rfl) (fun _ _ _ h => h) (Or.inr ⟨by rfl, rfl⟩) (by assumption) ?_))
  (try simp only [Act.put, List.setIfInBounds_toArray, List.set_cons_zero, List.set_cons_succ])
  (first | (refine Reg.take 22 (v := ?_) rfl (by kernel_rfl) (by kernel_rfl) (by kernel_rfl) (fun _ _ _ h => h) (Or.inl ⟨by rfl, ?_⟩) (by assumption) ?_; rotate_left; (focus ((intro W hSW); (try dsimp only at hSW); (try go_split_ands); go_simp; (try (with_reducible rfl)); done))) | (refine Reg.take 22 (v := undef) rfl (by kernel_rfl) (by kernel_rfl) (by kernel_rfl) (fun _ _ _ h => h) (Or.inr ⟨by rfl, rfl⟩) (by assumption) ?_))
  (try simp only [Act.put, List.setIfInBounds_toArray, List.set_cons_zero, List.set_cons_succ])
  (first | (refine Reg.take 23 (v := ?_) rfl (by kernel_rfl) (by kernel_rfl) (by kernel_rfl) (fun _ _ _ h => h) (Or.inl ⟨by rfl, ?_⟩) (by assumption) ?_; rotate_left; (focus ((intro W hSW); (try dsimp only at hSW); (try go_split_ands); go_simp; (try (with_reducible rfl)); done))) | (refine Reg.take 23 (v := undef) rfl (by kernel_rfl) (by kernel_rfl) (by kernel_rfl) (fun _ _ _ h => h) (Or.inr ⟨by rfl, rfl⟩) (by assumption) ?_))
  (try simp only [Act.put, List.setIfInBounds_toArray, List.set_cons_zero, List.set_cons_succ])
  (first | (refine Reg.take 24 (v := ?_) rfl (by kernel_rfl) (by kernel_rfl) (by kernel_rfl) (fun _ _ _ h => h) (Or.inl ⟨by rfl, ?_⟩) (by assumption) ?_; rotate_left; (focus ((intro W hSW); (try dsimp only at hSW); (try go_split_ands); go_simp; (try (with_reducible rfl)); done))) | (refine Reg.take 24 (v := undef) rfl (by kernel_rfl) (by kernel_rfl) (by kernel_rfl) (fun _ _ _ h => h) (Or.inr ⟨by rfl, rfl⟩) (by assumption) ?_))
  (try simp only [Act.put, List.setIfInBounds_toArray, List.set_cons_zero, List.set_cons_succ])
  (first | (refine Reg.take 25 (v := ?_) rfl (by kernel_rfl) (by kernel_rfl) (by kernel_rfl) (fun _ _ _ h => h) (Or.inl ⟨by rfl, ?_⟩) (by assumption) ?_; rotate_left; (focus ((intro W hSW); (try dsimp only at hSW); (try go_split_ands); go_simp; (try (with_reducible rfl)); done))) | (refine Reg.take 25 (v := undef) rfl (by kernel_rfl) (by kernel_rfl) (by kernel_rfl) (fun _ _ _ h => h) (Or.inr ⟨by rfl, rfl⟩) (by assumption) ?_))
  (try simp only [Act.put, List.setIfInBounds_toArray, List.set_cons_zero, List.set_cons_succ])
  (first | (refine Reg.take 26 (v := ?_) rfl (by kernel_rfl) (by kernel_rfl) (by kernel_rfl) (fun _ _ _ h => h) (Or.inl ⟨by rfl, ?_⟩) (by assumption) ?_; rotate_left; (focus ((intro W hSW); (try dsimp only at hSW); (try go_split_ands); go_simp; (try (with_reducible rfl)); done))) | (refine Reg.take 26 (v := undef) rfl (by kernel_rfl) (by kernel_rfl) (by kernel_rfl) (fun _ _ _ h => h) (Or.inr ⟨by rfl, rfl⟩) (by assumption) ?_))
  (try simp only [Act.put, List.setIfInBounds_toArray, List.set_cons_zero, List.set_cons_succ])
  (first | (refine Reg.take 27 (v := ?_) rfl (by kernel_rfl) (by kernel_rfl) (by kernel_rfl) (fun _ _ _ h => h) (Or.inl ⟨by rfl, ?_⟩) (by assumption) ?_; rotate_left; (focus ((intro W hSW); (try dsimp only at hSW); (try go_split_ands); go_simp; (try (with_reducible rfl)); done))) | (refine Reg.take 27 (v := undef) rfl (by kernel_rfl) (by kernel_rfl) (by kernel_rfl) (fun _ _ _ h => h) (Or.inr ⟨by rfl, rfl⟩) (by assumption) ?_))
  (try simp only [Act.put, List.setIfInBounds_toArray, List.set_cons_zero, List.set_cons_succ])
  (first | (refine Reg.take 29 (v := ?_) rfl (by kernel_rfl) (by kernel_rfl) (by kernel_rfl) (fun _ _ _ h => h) (Or.inl ⟨by rfl, ?_⟩) (by assumption) ?_; rotate_left; (focus ((intro W hSW); (try dsimp only at hSW); (try go_split_ands); go_simp; (try (with_reducible rfl)); done))) | (refine Reg.take 29 (v := undef) rfl (by kernel_rfl) (by kernel_rfl) (by kernel_rfl) (fun _ _ _ h => h) (Or.inr ⟨by rfl, rfl⟩) (by assumption) ?_))
  (try simp only [Act.put, List.setIfInBounds_toArray, List.set_cons_zero, List.set_cons_succ])
  (first | (refine Reg.take 30 (v := ?_) rfl (by kernel_rfl) (by kernel_rfl) (by kernel_rfl) (fun _ _ _ h => h) (Or.inl ⟨by rfl, ?_⟩) (by assumption) ?_; rotate_left; (focus ((intro W hSW); (try dsimp only at hSW); (try go_split_ands); go_simp; (try (with_reducible rfl)); done))) | (refine Reg.take 30 (v := undef) rfl (by kernel_rfl) (by kernel_rfl) (by kernel_rfl) (fun _ _ _ h => h) (Or.inr ⟨by rfl, rfl⟩) (by assumption) ?_))
  (try simp only [Act.put, List.setIfInBounds_toArray, List.set_cons_zero, List.set_cons_succ])
  refine Reg.step 28 rfl (by kernel_rfl) (by rfl) (fun K hK => ?_)
  go_simp
  refine (HK w16).out.mono ?_
  rintro e w17 ⟨rfl, hb⟩
  have L17 := Lib.hid (L16.out.trans (hb.mono L16.out.size))
  have T17 := Lib.hid (T16.out.trans (hb.mono T16.out.size))
  have A17 := Lib.hid (A16.out.below hb)
  have C17 := Lib.hid (C16.out.below hb)
  have X17 := Lib.hid (X16.out.below hb)
  have Y17 := Lib.hid (Y16.out.below hb)
  have P17 := Lib.hid (P16.out.below hb)
  have Q17 := Lib.hid (Q16.out.below hb)
  have OX17 := Lib.hid (OX16.out.below hb)
  have OP17 := Lib.hid (OP16.out.below hb)
  refine hK.out _ _ (hcell _ X17.out.box Y17.out.box P17.out.box Q17.out.box A17.out.box) (fun hHeld4 => ?_)
  clear hK K hb T16 L16 A16 C16 X16 Y16 P16 Q16 OX16 OP16
  (try simp only [Act.put, List.setIfInBounds_toArray, List.set_cons_zero, List.set_cons_succ])
  refine Reg.step 31 rfl (by kernel_rfl) (by rfl) (fun K hK => ?_)
  go_simp
  refine (HK2 w17).out.mono ?_
  rintro e w18 ⟨rfl, hb⟩
  have L18 := Lib.hid (L17.out.trans (hb.mono L17.out.size))
  have T18 := Lib.hid (T17.out.trans (hb.mono T17.out.size))
  have A18 := Lib.hid (A17.out.below hb)
  have C18 := Lib.hid (C17.out.below hb)
  have X18 := Lib.hid (X17.out.below hb)
  have Y18 := Lib.hid (Y17.out.below hb)
  have P18 := Lib.hid (P17.out.below hb)
  have Q18 := Lib.hid (Q17.out.below hb)
  have OX18 := Lib.hid (OX17.out.below hb)
  have OP18 := Lib.hid (OP17.out.below hb)
  refine hK.out _ _ (hcell _ X18.out.box Y18.out.box P18.out.box Q18.out.box A18.out.box) (fun hHeld5 => ?_)
  clear hK K hb T17 L17 A17 C17 X17 Y17 P17 Q17 OX17 OP17
  (try simp only [Act.put, List.setIfInBounds_toArray, List.set_cons_zero, List.set_cons_succ])
  (first | (refine Reg.take 32 (v := ?_) rfl (by kernel_rfl) (by kernel_rfl) (by kernel_rfl) (fun _ _ _ h => h) (Or.inl ⟨by rfl, ?_⟩) (by assumption) ?_; rotate_left; (focus ((intro W hSW); (try dsimp only at hSW); (try go_split_ands); go_simp; (try (with_reducible rfl)); done))) | (refine Reg.take 32 (v := undef) rfl (by kernel_rfl) (by kernel_rfl) (by kernel_rfl) (fun _ _ _ h => h) (Or.inr ⟨by rfl, rfl⟩) (by assumption) ?_))
  (try simp only [Act.put, List.setIfInBounds_toArray, List.set_cons_zero, List.set_cons_succ])
  (first | (refine Reg.take 33 (v := ?_) rfl (by kernel_rfl) (by kernel_rfl) (by kernel_rfl) (fun _ _ _ h => h) (Or.inl ⟨by rfl, ?_⟩) (by assumption) ?_; rotate_left; (focus ((intro W hSW); (try dsimp only at hSW); (try go_split_ands); go_simp; (try (with_reducible rfl)); done))) | (refine Reg.take 33 (v := undef) rfl (by kernel_rfl) (by kernel_rfl) (by kernel_rfl) (fun _ _ _ h => h) (Or.inr ⟨by rfl, rfl⟩) (by assumption) ?_))
  (try simp only [Act.put, List.setIfInBounds_toArray, List.set_cons_zero, List.set_cons_succ])
  refine wpAnyH_done (by kernel_rfl) ?_ _
  obtain ⟨gx, hx1, hx0⟩ := own_place OX18.out
  have HS18 : Hid (g17 < w18.heap.size) := P18.out.box.lt
  have HS11 : Hid (g11 < w18.heap.size) := X18.out.box.lt
  have FX : Hid (w5.heap.size ≤ gx ∧ g11 ≠ gx ∧ g17 ≠ gx ∧ (gx < w9.heap.size ∨ w18.heap.size ≤ gx)) := by
    have e1 := T18.out.size
    have e2 := HS18.out
    have e3 := HS11.out
    have e4 := HX11.out
    have e5 := OPL.out
    rcases Nat.eq_zero_or_pos v.data.length with h0 | h0
    · have := hx0 h0
      subst this
      exact ⟨e1, by omega, by omega, .inr (Nat.le_refl _)⟩
    · obtain ⟨q1, q2, q3⟩ := hx1 h0
      obtain ⟨g, q4, q5⟩ := HX6.out h0
      rw [q1] at q4
      simp only [Option.some.injEq, Addr.mk.injEq, and_true] at q4
      subst q4
      exact ⟨q2, by omega, by omega, .inl (by omega)⟩
  have hx1 := Lib.hid hx1
  clear hHeld hHeld2 hHeld3 hHeld4 hHeld5 hcell Y18 Q18 HK HK2 hx0 HX6 HX9 HX11 HS11 OXL L18 A18 C18
  obtain ⟨x0, x1, x2⟩ := X18.out.box.cells
  go_wp2_with fail
  clear x0 x1 x2
  go_loopw [99] (fun i wr => ∃ k : Nat, i = .int .i64 k ∧ k ≤ v.data.length ∧ Hid (But gx w18 wr ∧ ∃ l, Owns cb 5 w5.heap.size wr (.slice XX v.data.length XQ) v.data.length l)) (fun i _ => v.data.length - (intOf i).toNat)
  case atStart => exact ⟨0, rfl, by omega, But.refl _ _, _, OX18.out⟩
  case round =>
    obtain ⟨k, rfl, hk, hH⟩ := hrel
    by_cases hlt : k < v.data.length
    · obtain ⟨hs, -, -⟩ := hx1.out (by omega)
      subst hs
      obtain ⟨hB, l, hO⟩ := hH.out
      obtain ⟨x, hc, hf⟩ := own_cell hO hlt
      obtain ⟨x0, x1, x2⟩ := (X18.out.box.but hB FX.out.2.1).cells
      have hw := Lib.hid (fun y hy => own_write hO k (x + 1#8) y hy)
      have hB := Lib.hid hB
      have hinc := inc_u x
      have hk0 : (0 : Int) ≤ (k : Int) := by omega
      have hk1 : (k : Int) < (v.data.length : Int) := by omega
      unfold cb at hw
      generalize u x = ux at *
      generalize u (x + 1#8) = uy at *
      clear hO
      go_wp2_with fail
      go_roundw
      case rel => exact ⟨k + 1, by go_num, by omega, hB.out.trans (hw.out _ rfl).2, _, (hw.out _ rfl).1⟩
      case measure => simp [intOf]; omega
    · have hB := Lib.hid hH.out.1
      have TR := Lib.hid (T18.out.trans (hB.out.below T18.out.size FX.out.1))
      have PB := Lib.hid (P18.out.box.but hB.out FX.out.2.2.1)
      have OPR := Lib.hid (Owns.but OP18.out hB.out FX.out.2.2.2)
      have HTR : Hid (g17 < wr.heap.size) := PB.out.lt
      clear hB T18 P18 OP18 OX18 X18 hx1 FX hH
      obtain ⟨gp, hp1, hp0⟩ := own_place OPR.out
      have FP : Hid (w5.heap.size ≤ gp ∧ g17 ≠ gp) := by
        have e1 := TR.out.size
        have e2 := HTR.out
        have e3 := HT9.out
        rcases Nat.eq_zero_or_pos t.data.length with h0 | h0
        · have := hp0 h0
          subst this
          exact ⟨e1, by omega⟩
        · obtain ⟨q1, q2, q3⟩ := hp1 h0
          obtain ⟨g, q4, q5⟩ := HP10.out h0
          rw [q1] at q4
          simp only [Option.some.injEq, Addr.mk.injEq, and_true] at q4
          subst q4
          exact ⟨by omega, by omega⟩
      have hp1 := Lib.hid hp1
      clear hp0 HP10 HTR HT9
      obtain ⟨x0, x1, x2⟩ := PB.out.cells
      go_wp2_with fail
      clear x0 x1 x2
      go_loopw [113] (fun i ws => ∃ k : Nat, i = .int .i64 k ∧ k ≤ t.data.length ∧ Hid (But gp wr ws ∧ ∃ l, Owns cb 5 w9.heap.size ws (.slice PX t.data.length PQ) t.data.length l)) (fun i _ => t.data.length - (intOf i).toNat)
      case atStart => exact ⟨0, rfl, by omega, But.refl _ _, _, OPR.out⟩
      case round =>
        obtain ⟨j, rfl, hj, hH⟩ := hrel
        by_cases hlj : j < t.data.length
        · obtain ⟨hs, -, -⟩ := hp1.out (by omega)
          subst hs
          obtain ⟨hB, l, hO⟩ := hH.out
          obtain ⟨x, hc, hf⟩ := own_cell hO hlj
          obtain ⟨x0, x1, x2⟩ := (PB.out.but hB FP.out.2).cells
          have hw := Lib.hid (fun y hy => own_write hO j (x + 1#8) y hy)
          have hB := Lib.hid hB
          have hinc := inc_u x
          have hk0 : (0 : Int) ≤ (j : Int) := by omega
          have hk1 : (j : Int) < (t.data.length : Int) := by omega
          unfold cb at hw
          generalize u x = ux at *
          generalize u (x + 1#8) = uy at *
          clear hO
          go_wp2_with fail
          go_roundw
          case rel => exact ⟨j + 1, by go_num, by omega, hB.out.trans (hw.out _ rfl).2, _, (hw.out _ rfl).1⟩
          case measure => simp [intOf]; omega
        · have hB := Lib.hid hH.out.1
          have TS := Lib.hid (TR.out.trans (hB.out.below TR.out.size FP.out.1))
          have AS := Lib.hid (A5.out.below TS.out)
          have CS := Lib.hid (C5.out.below TS.out)
          have LS := Lib.hid (L5.out.trans (TS.out.mono L5.out.size))
          clear hB hH TR PB OPR hp1 FP
          generalize wr = w30 at *
          obtain ⟨x0, x1, x2⟩ := AS.out.box.cells
          obtain ⟨y0, y1, y2⟩ := CS.out.box.cells
          go_wp2_with fail
          refine (HSm z D c CX CQ w30 AS.out.row CS.out.row).out.mono ?_
          rintro e w31 ⟨rfl, hb⟩
          have LE := Lib.hid (LS.out.trans (hb.mono LS.out.size))
          clear hb
          go_wp2_with fail
          go_ret
          exact ⟨rfl, LE.out⟩

theorem zoneAppends_walk (z : Zn) (D : Option Addr) (c : Nat) (most : Int) (B : Option Addr) (b : List B8) (d : Nat) (keep : Int) (w : World) (hz : Row cb w D z.data.length c z.data) (hr : Row cb w B b.length d b) :
    Calls Try.prog 3 #[zv z D c, .int .i64 most, .slice B b.length d, .int .i64 keep] w fun e w' => e = .returned (.bool true) ∧ Below w.heap.size w w' := by
  rcases h1 : bigB z b.length
  · exact zoneAppends_main z D c most B b d keep w hz hr h1
  · exact zoneAppends_skip z D c most B b.length d keep w h1

theorem zoneAppends_says : Frame.Says Rows.zoneAppendsSpec 4 := by
  refine ⟨rfl, fun H ds h => ?_, fun H ds h => ?_, fun H ds h => ?_⟩ <;>
  · match ds, h with
    | [d1, d2, d3, d4], _ => rfl

set_option maxRecDepth 100000 in
theorem zoneAppends_walks : Frame.Walks 3 [24, 3, 22, 3] := by
  intro H enc W args ds ps base hok hA hsz
  obtain ⟨v0, vs0, d0, ds0, p0, q0, hargs, rfl, rfl, h0, r0⟩ := trodAll_cons hA
  obtain ⟨v1, vs1, d1, ds1, p1, q1, rfl, rfl, rfl, h1, r1⟩ := trodAll_cons r0
  obtain ⟨v2, vs2, d2, ds2, p2, q2, rfl, rfl, rfl, h2, r2⟩ := trodAll_cons r1
  obtain ⟨v3, vs3, d3, ds3, p3, q3, rfl, rfl, rfl, h3, r3⟩ := trodAll_cons r2
  obtain ⟨rfl, rfl, rfl⟩ := trodAll_nil r3
  obtain rfl : args = #[v0, v1, v2, v3] := by cases args; simp_all
  obtain ⟨z, D, c, rfl, l0⟩ := Args.open_zone (hok 0 _ v0 rfl rfl) h0 (Args.sized_arg hsz (j := 0) rfl rfl)
  obtain ⟨most, rfl, rfl, rfl, w1⟩ := open_int Try.underlying3 (hok 1 _ v1 rfl rfl) h1
  obtain ⟨B, n, d, b, rfl, l2⟩ := Args.open_bytes (hok 2 _ v2 rfl rfl) h2 (Args.sized_arg hsz (j := 2) rfl rfl)
  obtain ⟨keep, rfl, rfl, rfl, w3⟩ := open_int Try.underlying3 (hok 3 _ v3 rfl rfl) h3
  obtain rfl : n = b.length := l2.len.symm
  exact zoneAppends_walk z D c most B b d keep W l0 l2

set_option maxRecDepth 100000 in
theorem zoneAppends_over : Rows.zoneAppendsRow.holds Try.pinned (OpenSpec.ofChange Rows.zoneAppendsSpec) :=
  OpenClaim.holds_of_wide 3 Try.f3 rfl rfl rfl rfl rfl rfl rfl ⟨rfl, rfl, rfl, rfl, rfl⟩ rfl rfl rfl rfl rfl (by kernel_rfl) Try.func3 (by kernel_rfl)
    (of_decide_eq_true (by kernel_rfl)) (by unfold Func.isWrapper; first | (rw [if_pos (by decide +kernel)]; kernel_rfl) | (rw [if_neg (by decide +kernel)]; exact ⟨rfl, rfl⟩))
    (fun os started H enc _ => Frame.lifted (started := started) Try.underlying4 (by kernel_rfl) Try.func3 (n := 4) (by rw [Try.params3]; rfl) zoneAppends_says (by rw [Try.params3]; kernel_rfl) (by kernel_rfl)
      (ChangeSpec.witness6 (enc := enc) (C := Try.checked) false ⟨#[], #[.agg #[.int .i64 0, .int .i64 0, .slice none 0 0], .int .i64 0, .slice none 0 0, .int .i64 0], []⟩ 8 (by kernel_rfl) (by kernel_rfl) (by kernel_rfl) (by kernel_rfl))
      (by rw [Try.params3]; exact zoneAppends_walks))
end Zon
/-- The given statement. -/
theorem zoneAppends_holds : Rows.ZoneAppendsSaid := Zon.zoneAppends_over
end Go.Proofs.Ytfcehlipbdngbaa
