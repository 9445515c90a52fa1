/-
  THE STATEMENT ZoneTorn: of every zone and all bytes, an append that is torn leaves what an append of its beginning does; torn at its end, all of it; the arguments stay as they were. For every input.
-/
import Derived.Test.YtfcehlipbdngbaaZonHeld
import Derived.Test.YtfcehlipbdngbaaZonOpen
namespace Go.Proofs.Ytfcehlipbdngbaa
open Go.ChangeShapes Go.WideShapes Go.ChangeAt Go.RowKit Mem
namespace Zon

/-- Where keep comes to lie. -/
theorem keep_at (keep : Int) (n : Nat) : ∃ (r : Int) (j : Nat), Int.tmod keep ((n : Int) + 1) = r ∧ -((n : Int) + 1) < r ∧ r < (n : Int) + 1 ∧ Int.tmod (r + n + 1) ((n : Int) + 1) = j ∧ (r + n + 1) % ((n : Int) + 1) = j ∧ j ≤ n := by
  have hb : -((n : Int) + 1) < Int.tmod keep ((n : Int) + 1) ∧ Int.tmod keep ((n : Int) + 1) < (n : Int) + 1 := by
    rcases Int.le_total 0 keep with h | h
    · rw [Int.tmod_eq_emod_of_nonneg h]
      have h1 := Int.emod_nonneg keep (b := (n : Int) + 1) (by omega)
      have h2 := Int.emod_lt_of_pos keep (b := (n : Int) + 1) (by omega)
      omega
    · have e : keep = -(-keep) := by omega
      rw [e, Int.neg_tmod, Int.tmod_eq_emod_of_nonneg (by omega)]
      have h1 := Int.emod_nonneg (-keep) (b := (n : Int) + 1) (by omega)
      have h2 := Int.emod_lt_of_pos (-keep) (b := (n : Int) + 1) (by omega)
      omega
  obtain ⟨h1, h2⟩ := hb
  have h3 := Int.emod_nonneg (Int.tmod keep ((n : Int) + 1) + n + 1) (b := (n : Int) + 1) (by omega)
  have h4 := Int.emod_lt_of_pos (Int.tmod keep ((n : Int) + 1) + n + 1) (b := (n : Int) + 1) (by omega)
  refine ⟨_, ((Int.tmod keep ((n : Int) + 1) + n + 1) % ((n : Int) + 1)).toNat, rfl, h1, h2, ?_, by omega, by omega⟩
  rw [Int.tmod_eq_emod_of_nonneg (by omega)]
  omega

theorem tornErr_keep {z : Zn} {most : Int} {b : List B8} {k : Nat} (hk : k ≤ b.length) : tornErr z most b k = appErr z most b.length := by
  unfold tornErr
  rcases e0 : (appErr z most b.length == 0)
  · rfl
  · have h1 : decide ((k : Int) < 0) = false := by simp
    have h2 : decide ((b.length : Int) < (k : Int)) = false := decide_eq_false (by omega)
    rw [h1, h2, beq_iff_eq.1 e0]; rfl

set_option maxRecDepth 100000 in
set_option maxHeartbeats 3200000 in
theorem zoneTorn_skip (z : Zn) (D : Option Addr) (c : Nat) (most : Int) (B : Option Addr) (n d : Nat) (keep : Int) (w : World) (h1 : bigB z n = true ∨ (bigB z n = false ∧ okB z most = false) ∨ (bigB z n = false ∧ okB z most = true ∧ n = 0)) :
    Calls Try.prog 7 #[zv z D c, .int .i64 most, .slice B n d, .int .i64 keep] w fun e w' => e = .returned (.bool true) ∧ Below w.heap.size w w' := by
  have L1 := Lib.hid ((Below.refl w.heap.size w).alloc (Nat.le_refl _) (.cells #[.int .i64 z.st, .int .i64 z.fc, .slice D z.data.length c] 24))
  have A1 := Lib.hid (Box.new w z D c)
  have HB := fun w => Lib.hid (big_any z D c B n d w)
  have HK := fun w => Lib.hid (refCheck_any z D c most w)
  rcases h1 with h1 | ⟨h1, h2⟩ | ⟨h1, h2, h3⟩
  all_goals
    rw [h1] at HB
    unfold zv at *
    clear h1
  · go_enter Try.func7, Try.ntmps7
    go_wp2_with fail
    generalize w.alloc (.cells #[.int .i64 z.st, .int .i64 z.fc, .slice D z.data.length c] 24) = w1 at *
    refine (live_any w1).mono ?_
    rintro e w2 ⟨rfl, hb2⟩
    have L2 := Lib.hid (L1.out.trans (hb2.mono L1.out.size))
    have A2 := Lib.hid (A1.out.below hb2)
    obtain ⟨c0, c1, c2⟩ := A2.out.cells
    clear hb2
    go_wp2_with fail
    refine (HB w2).out.mono ?_
    rintro e w3 ⟨rfl, hb3⟩
    have L3 := Lib.hid (L2.out.trans (hb3.mono L2.out.size))
    clear hb3
    go_wp2_with fail
    go_ret
    exact ⟨rfl, L3.out⟩
  · rw [h2] at HK
    unfold errOf at HK
    simp only [cond_false] at HK
    clear h2
    go_enter Try.func7, Try.ntmps7
    go_wp2_with fail
    generalize w.alloc (.cells #[.int .i64 z.st, .int .i64 z.fc, .slice D z.data.length c] 24) = w1 at *
    refine (live_any w1).mono ?_
    rintro e w2 ⟨rfl, hb2⟩
    have L2 := Lib.hid (L1.out.trans (hb2.mono L1.out.size))
    have A2 := Lib.hid (A1.out.below hb2)
    obtain ⟨c0, c1, c2⟩ := A2.out.cells
    clear hb2
    go_wp2_with fail
    refine (HB w2).out.mono ?_
    rintro e w3 ⟨rfl, hb3⟩
    have L3 := Lib.hid (L2.out.trans (hb3.mono L2.out.size))
    have A3 := Lib.hid (A2.out.below hb3)
    clear hb3 c0 c1 c2
    obtain ⟨c0, c1, c2⟩ := A3.out.cells
    go_wp2_with fail
    refine (HK w3).out.mono ?_
    rintro e w4 ⟨rfl, hb4⟩
    have L4 := Lib.hid (L3.out.trans (hb4.mono L3.out.size))
    clear hb4
    go_wp2_with fail
    go_ret
    exact ⟨rfl, L4.out⟩
  · rw [h2] at HK
    unfold errOf at HK
    simp only [cond_true] at HK
    subst h3
    clear h2
    go_enter Try.func7, Try.ntmps7
    go_wp2_with fail
    generalize w.alloc (.cells #[.int .i64 z.st, .int .i64 z.fc, .slice D z.data.length c] 24) = w1 at *
    refine (live_any w1).mono ?_
    rintro e w2 ⟨rfl, hb2⟩
    have L2 := Lib.hid (L1.out.trans (hb2.mono L1.out.size))
    have A2 := Lib.hid (A1.out.below hb2)
    obtain ⟨c0, c1, c2⟩ := A2.out.cells
    clear hb2
    go_wp2_with fail
    refine (HB w2).out.mono ?_
    rintro e w3 ⟨rfl, hb3⟩
    have L3 := Lib.hid (L2.out.trans (hb3.mono L2.out.size))
    have A3 := Lib.hid (A2.out.below hb3)
    clear hb3 c0 c1 c2
    obtain ⟨c0, c1, c2⟩ := A3.out.cells
    go_wp2_with fail
    refine (HK w3).out.mono ?_
    rintro e w4 ⟨rfl, hb4⟩
    have L4 := Lib.hid (L3.out.trans (hb4.mono L3.out.size))
    clear hb4
    go_wp2_with fail
    go_ret
    exact ⟨rfl, L4.out⟩

set_option maxRecDepth 100000 in
set_option maxHeartbeats 3200000 in
theorem zoneTorn_bad (z : Zn) (D : Option Addr) (c : Nat) (most : Int) (B : Option Addr) (b : List B8) (d : Nat) (keep : Int) (w : World) (hz : Row cb w D z.data.length c z.data) (hr : Row cb w B b.length d b) (h1 : bigB z b.length = false) (h2 : okB z most = true) (h3 : 0 < b.length) (r : Int) (k : Nat) (k1 : Int.tmod keep ((b.length : Int) + 1) = r) (k2 : -((b.length : Int) + 1) < r) (k3 : r < (b.length : Int) + 1) (k4 : Int.tmod (r + b.length + 1) ((b.length : Int) + 1) = k) (_k5 : (r + b.length + 1) % ((b.length : Int) + 1) = k) (_k6 : k ≤ b.length) (he : appErr z most b.length ≠ 0) :
    Calls Try.prog 7 #[zv z D c, .int .i64 most, .slice B b.length d, .int .i64 keep] w fun e w' => e = .returned (.bool true) ∧ Below w.heap.size w w' := by
  have L1 := Lib.hid ((Below.refl w.heap.size w).alloc (Nat.le_refl _) (.cells #[.int .i64 z.st, .int .i64 z.fc, .slice D z.data.length c] 24))
  have A1 := Lib.hid (Held.start hz)
  have HR := Lib.hid hr
  have HB := fun w => Lib.hid (big_any z D c B b.length d w)
  have HK := fun w => Lib.hid (refCheck_any z D c most w)
  rw [h1] at HB
  rw [h2] at HK
  unfold errOf at HK
  simp only [cond_true] at HK
  have hbl : b.length ≤ 70000 := by
    unfold bigB at h1
    simp only [Bool.or_eq_false_iff, decide_eq_false_iff_not] at h1
    omega
  have hn0 : ((b.length : Int) == 0) = false := beq_eq_false_iff_ne.2 (by omega)
  have hw1 : IntKind.i64.wrap ((b.length : Int) + 1) = (b.length : Int) + 1 := by rw [IntKind.wrap_i64]; omega
  have hw2 : IntKind.i64.wrap (r + (b.length : Int)) = r + (b.length : Int) := by rw [IntKind.wrap_i64]; omega
  have hw3 : IntKind.i64.wrap (r + (b.length : Int) + 1) = r + (b.length : Int) + 1 := by rw [IntKind.wrap_i64]; omega
  obtain ⟨p1, p2, -, -, p5⟩ := ok_parts h2
  have hzl : z.data.length ≤ 65536 := by unfold Zn.len at p5; omega
  clear h1 h2 hz hr p1 p2 p5
  have HA := fun w (_ : Row cb w D z.data.length c z.data) (_ : Row cb w B b.length d b) => Lib.hid (append_bad (z := z) (D := D) (c := c) (most := most) (B := B) (n := b.length) (d := d) (w := w) (by omega) rfl he)
  have HT := fun w (_ : Row cb w D z.data.length c z.data) (_ : Row cb w B b.length d b) => Lib.hid (torn_bad (z := z) (D := D) (c := c) (most := most) (B := B) (n := b.length) (d := d) (keep := (k : Int)) (w := w) (by omega) rfl he)
  have hne : (appErr z most b.length != 0) = true := bne_iff_ne.2 he
  have hsm : (appErr z most b.length != appErr z most b.length) = false := by simp
  clear he
  generalize appErr z most b.length = er at *
  obtain ⟨v, hv⟩ : ∃ v, nilZ = v := ⟨_, rfl⟩
  rw [hv] at HA HT
  have hvl : ((v.data.length : Int) == 0) = true := by rw [← hv]; rfl
  have HV : Hid (v.data.length ≤ 140737488351232) := by show _ ≤ _; rw [← hv]; simp [nilZ]
  have HTn := HV
  clear hv
  unfold GaveZ at *
  unfold zv at *
  go_enter Try.func7, Try.ntmps7
  go_wp2_with fail
  generalize w.alloc (.cells #[.int .i64 z.st, .int .i64 z.fc, .slice D z.data.length c] 24) = w1 at *
  refine (live_any w1).mono ?_
  rintro e w2 ⟨rfl, hb2⟩
  have L2 := Lib.hid (L1.out.trans (hb2.mono L1.out.size))
  have A2 := Lib.hid (A1.out.below hb2)
  obtain ⟨c0, c1, c2⟩ := A2.out.box.cells
  clear hb2 L1 A1
  go_wp2_with fail
  refine (HB w2).out.mono ?_
  rintro e w3 ⟨rfl, hb3⟩
  have L3 := Lib.hid (L2.out.trans (hb3.mono L2.out.size))
  have A3 := Lib.hid (A2.out.below hb3)
  clear hb3 c0 c1 c2 L2 A2 HB
  obtain ⟨c0, c1, c2⟩ := A3.out.box.cells
  go_wp2_with fail
  refine (HK w3).out.mono ?_
  rintro e w4 ⟨rfl, hb4⟩
  have L4 := Lib.hid (L3.out.trans (hb4.mono L3.out.size))
  have A4 := Lib.hid (A3.out.below hb4)
  clear hb4 c0 c1 c2 L3 A3 HK
  obtain ⟨c0, c1, c2⟩ := A4.out.box.cells
  go_wp2_with fail
  refine (HA w4 A4.out.row (HR.out.below L4.out)).out.mono ?_
  rintro e w5 ⟨V, k0, rfl, hV, hb5⟩
  unfold zv at *
  have b56 : Below w5.heap.size w5 (w5.alloc (.cells #[.int .i64 v.st, .int .i64 v.fc, .slice V v.data.length k0] 24)) := (Below.refl _ w5).alloc (Nat.le_refl _) _
  have b46 := hb5.trans (b56.mono hb5.size)
  have L6 := Lib.hid (L4.out.trans (b46.mono L4.out.size))
  have A6 := Lib.hid (A4.out.below b46)
  have V6 := Lib.hid (Held.new hV HV.out)
  clear hV hb5 b56 b46 c0 c1 c2 L4 A4 HA
  go_upto_region 6 with fail
  generalize w5.alloc (.cells #[.int .i64 v.st, .int .i64 v.fc, .slice V v.data.length k0] 24) = w6 at *
  generalize w5.heap.size = g1 at *
  obtain ⟨c0, c1, c2⟩ := A6.out.box.cells
  go_wp2_with fail
  refine (HT w6 A6.out.row (HR.out.below L6.out)).out.mono ?_
  rintro e w7 ⟨T, k1, rfl, hT, hb7⟩
  unfold zv at *
  have b78 : Below w7.heap.size w7 (w7.alloc (.cells #[.int .i64 v.st, .int .i64 v.fc, .slice T v.data.length k1] 24)) := (Below.refl _ w7).alloc (Nat.le_refl _) _
  have b68 := hb7.trans (b78.mono hb7.size)
  have L8 := Lib.hid (L6.out.trans (b68.mono L6.out.size))
  have A8 := Lib.hid (A6.out.below b68)
  have V8 := Lib.hid (V6.out.below b68)
  have T8 := Lib.hid (Held.new hT HTn.out)
  clear hT hb7 b78 b68 c0 c1 c2 L6 A6 V6 HT
  go_upto_region 7 with fail
  generalize w7.alloc (.cells #[.int .i64 v.st, .int .i64 v.fc, .slice T v.data.length k1] 24) = w8 at *
  generalize w7.heap.size = g2 at *
  obtain ⟨t0, t1, t2⟩ := T8.out.box.cells
  obtain ⟨c0, c1, c2⟩ := A8.out.box.cells
  go_wp2_with fail
  go_ret
  exact ⟨rfl, L8.out⟩

set_option maxRecDepth 100000 in
set_option maxHeartbeats 3200000 in
theorem zoneTorn_none (z : Zn) (D : Option Addr) (c : Nat) (most : Int) (B : Option Addr) (b : List B8) (d : Nat) (keep : Int) (w : World) (hz : Row cb w D z.data.length c z.data) (hr : Row cb w B b.length d b) (h1 : bigB z b.length = false) (h2 : okB z most = true) (h3 : 0 < b.length) (r : Int) (k1 : Int.tmod keep ((b.length : Int) + 1) = r) (k2 : -((b.length : Int) + 1) < r) (k3 : r < (b.length : Int) + 1) (k4 : Int.tmod (r + b.length + 1) ((b.length : Int) + 1) = (0 : Nat)) (_k5 : (r + b.length + 1) % ((b.length : Int) + 1) = (0 : Nat)) (he : appErr z most b.length = 0) :
    Calls Try.prog 7 #[zv z D c, .int .i64 most, .slice B b.length d, .int .i64 keep] w fun e w' => e = .returned (.bool true) ∧ Below w.heap.size w w' := by
  have L1 := Lib.hid ((Below.refl w.heap.size w).alloc (Nat.le_refl _) (.cells #[.int .i64 z.st, .int .i64 z.fc, .slice D z.data.length c] 24))
  have A1 := Lib.hid (Held.start hz)
  have HR := Lib.hid hr
  have HB := fun w => Lib.hid (big_any z D c B b.length d w)
  have HK := fun w => Lib.hid (refCheck_any z D c most w)
  rw [h1] at HB
  rw [h2] at HK
  unfold errOf at HK
  simp only [cond_true] at HK
  have hbl : b.length ≤ 70000 := by
    unfold bigB at h1
    simp only [Bool.or_eq_false_iff, decide_eq_false_iff_not] at h1
    omega
  have hn0 : ((b.length : Int) == 0) = false := beq_eq_false_iff_ne.2 (by omega)
  have hw1 : IntKind.i64.wrap ((b.length : Int) + 1) = (b.length : Int) + 1 := by rw [IntKind.wrap_i64]; omega
  have hw2 : IntKind.i64.wrap (r + (b.length : Int)) = r + (b.length : Int) := by rw [IntKind.wrap_i64]; omega
  have hw3 : IntKind.i64.wrap (r + (b.length : Int) + 1) = r + (b.length : Int) + 1 := by rw [IntKind.wrap_i64]; omega
  obtain ⟨p1, p2, -, -, p5⟩ := ok_parts h2
  have hzl : z.data.length ≤ 65536 := by unfold Zn.len at p5; omega
  clear h1 h2 hz hr p1 p2 p5
  have hle := (appErr_zero he).2.2.2
  have HA := fun w (h1 : Row cb w D z.data.length c z.data) (h2 : Row cb w B b.length d b) => Lib.hid (append_ok h1 h2 he)
  have HT := fun w (h1 : Row cb w D z.data.length c z.data) (h2 : Row cb w B b.length d b) => Lib.hid (torn_none (n := b.length) (B := B) (d := d) h2.big he h1)
  have HV : Hid ((appZ z most b).data.length ≤ 140737488351232) := by show (z.data ++ b).length ≤ _; simp; omega
  have HTn : Hid (z.data.length ≤ 140737488351232) := by show _ ≤ _; omega
  have HSm := fun X q Y p w (h1 : Row cb w X z.data.length q z.data) (h2 : Row cb w Y z.data.length p z.data) => Lib.hid (same_any (x := z) (y := z) h1 h2)
  rw [sameZ_self] at HSm
  clear he hle
  generalize appZ z most b = v at *
  unfold GaveZ at *
  unfold zv Zn.len at *
  go_enter Try.func7, Try.ntmps7
  go_wp2_with fail
  generalize w.alloc (.cells #[.int .i64 z.st, .int .i64 z.fc, .slice D z.data.length c] 24) = w1 at *
  refine (live_any w1).mono ?_
  rintro e w2 ⟨rfl, hb2⟩
  have L2 := Lib.hid (L1.out.trans (hb2.mono L1.out.size))
  have A2 := Lib.hid (A1.out.below hb2)
  obtain ⟨c0, c1, c2⟩ := A2.out.box.cells
  clear hb2 L1 A1
  go_wp2_with fail
  refine (HB w2).out.mono ?_
  rintro e w3 ⟨rfl, hb3⟩
  have L3 := Lib.hid (L2.out.trans (hb3.mono L2.out.size))
  have A3 := Lib.hid (A2.out.below hb3)
  clear hb3 c0 c1 c2 L2 A2 HB
  obtain ⟨c0, c1, c2⟩ := A3.out.box.cells
  go_wp2_with fail
  refine (HK w3).out.mono ?_
  rintro e w4 ⟨rfl, hb4⟩
  have L4 := Lib.hid (L3.out.trans (hb4.mono L3.out.size))
  have A4 := Lib.hid (A3.out.below hb4)
  clear hb4 c0 c1 c2 L3 A3 HK
  obtain ⟨c0, c1, c2⟩ := A4.out.box.cells
  go_wp2_with fail
  refine (HA w4 A4.out.row (HR.out.below L4.out)).out.mono ?_
  rintro e w5 ⟨V, k0, rfl, hV, hb5⟩
  unfold zv at *
  have b56 : Below w5.heap.size w5 (w5.alloc (.cells #[.int .i64 v.st, .int .i64 v.fc, .slice V v.data.length k0] 24)) := (Below.refl _ w5).alloc (Nat.le_refl _) _
  have b46 := hb5.trans (b56.mono hb5.size)
  have L6 := Lib.hid (L4.out.trans (b46.mono L4.out.size))
  have A6 := Lib.hid (A4.out.below b46)
  have V6 := Lib.hid (Held.new hV HV.out)
  clear hV hb5 b56 b46 c0 c1 c2 L4 A4 HA
  go_upto_region 6 with fail
  generalize w5.alloc (.cells #[.int .i64 v.st, .int .i64 v.fc, .slice V v.data.length k0] 24) = w6 at *
  generalize w5.heap.size = g1 at *
  obtain ⟨c0, c1, c2⟩ := A6.out.box.cells
  go_wp2_with fail
  refine (HT w6 A6.out.row (HR.out.below L6.out)).out.mono ?_
  rintro e w7 ⟨T, k1, rfl, hT, hb7⟩
  unfold zv at *
  have b78 : Below w7.heap.size w7 (w7.alloc (.cells #[.int .i64 z.st, .int .i64 z.fc, .slice T z.data.length k1] 24)) := (Below.refl _ w7).alloc (Nat.le_refl _) _
  have b68 := hb7.trans (b78.mono hb7.size)
  have L8 := Lib.hid (L6.out.trans (b68.mono L6.out.size))
  have A8 := Lib.hid (A6.out.below b68)
  have V8 := Lib.hid (V6.out.below b68)
  have T8 := Lib.hid (Held.new hT HTn.out)
  clear hT hb7 b78 b68 c0 c1 c2 L6 A6 V6 HT
  go_upto_region 7 with fail
  generalize w7.alloc (.cells #[.int .i64 z.st, .int .i64 z.fc, .slice T z.data.length k1] 24) = w8 at *
  generalize w7.heap.size = g2 at *
  obtain ⟨t0, t1, t2⟩ := T8.out.box.cells
  obtain ⟨c0, c1, c2⟩ := A8.out.box.cells
  go_wp2_with fail
  refine (HSm T k1 D c w8 T8.out.row A8.out.row).out.mono ?_
  rintro e w9 ⟨rfl, hb9⟩
  have L9 := Lib.hid (L8.out.trans (hb9.mono L8.out.size))
  clear hb9
  go_wp2_with fail
  go_ret
  exact ⟨rfl, L9.out⟩

set_option maxRecDepth 100000 in
set_option maxHeartbeats 3200000 in
theorem zoneTorn_some (z : Zn) (D : Option Addr) (c : Nat) (most : Int) (B : Option Addr) (b : List B8) (d : Nat) (keep : Int) (w : World) (hz : Row cb w D z.data.length c z.data) (hr : Row cb w B b.length d b) (h1 : bigB z b.length = false) (h2 : okB z most = true) (h3 : 0 < b.length) (r : Int) (k : Nat) (k1 : Int.tmod keep ((b.length : Int) + 1) = r) (k2 : -((b.length : Int) + 1) < r) (k3 : r < (b.length : Int) + 1) (k4 : Int.tmod (r + b.length + 1) ((b.length : Int) + 1) = k) (k5 : (r + b.length + 1) % ((b.length : Int) + 1) = k) (k6 : k ≤ b.length) (hk0 : 0 < k) (he : appErr z most b.length = 0) :
    Calls Try.prog 7 #[zv z D c, .int .i64 most, .slice B b.length d, .int .i64 keep] w fun e w' => e = .returned (.bool true) ∧ Below w.heap.size w w' := by
  have L1 := Lib.hid ((Below.refl w.heap.size w).alloc (Nat.le_refl _) (.cells #[.int .i64 z.st, .int .i64 z.fc, .slice D z.data.length c] 24))
  have A1 := Lib.hid (Held.start hz)
  have HR := Lib.hid hr
  have HB := fun w => Lib.hid (big_any z D c B b.length d w)
  have HK := fun w => Lib.hid (refCheck_any z D c most w)
  rw [h1] at HB
  rw [h2] at HK
  unfold errOf at HK
  simp only [cond_true] at HK
  have hbl : b.length ≤ 70000 := by
    unfold bigB at h1
    simp only [Bool.or_eq_false_iff, decide_eq_false_iff_not] at h1
    omega
  have hn0 : ((b.length : Int) == 0) = false := beq_eq_false_iff_ne.2 (by omega)
  have hw1 : IntKind.i64.wrap ((b.length : Int) + 1) = (b.length : Int) + 1 := by rw [IntKind.wrap_i64]; omega
  have hw2 : IntKind.i64.wrap (r + (b.length : Int)) = r + (b.length : Int) := by rw [IntKind.wrap_i64]; omega
  have hw3 : IntKind.i64.wrap (r + (b.length : Int) + 1) = r + (b.length : Int) + 1 := by rw [IntKind.wrap_i64]; omega
  obtain ⟨p1, p2, -, -, p5⟩ := ok_parts h2
  have hzl : z.data.length ≤ 65536 := by unfold Zn.len at p5; omega
  clear h1 h2 hz hr p1 p2 p5
  obtain ⟨ho, hb0, h4, hle⟩ := appErr_zero he
  have htl : (b.take k).length = k := by rw [List.length_take]; omega
  have he2 : appErr z most (b.take k).length = 0 := appErr_of ho (by omega) h4 (by omega)
  have HA := fun w (h1 : Row cb w D z.data.length c z.data) (h2 : Row cb w B b.length d b) => Lib.hid (append_ok h1 h2 he)
  have HT := fun w (h1 : Row cb w D z.data.length c z.data) (h2 : Row cb w B b.length d b) => Lib.hid (torn_some he h1 h2 hk0 k6)
  have HP := fun w (h1 : Row cb w D z.data.length c z.data) (h2 : Row cb w B k d (b.take k)) => Lib.hid (append_ok (b := b.take k) (d := d) h1 (by rw [htl]; exact h2) he2)
  rw [htl] at HP
  have HV : Hid ((appZ z most b).data.length ≤ 140737488351232) := by show (z.data ++ b).length ≤ _; simp; omega
  have HTn : Hid ((appZ z most (b.take k)).data.length ≤ 140737488351232) := by show (z.data ++ b.take k).length ≤ _; simp; omega
  have HEV : Hid (b.length ≤ k → sameZ (appZ z most (b.take k)) (appZ z most b) = true) := fun h => by rw [List.take_of_length_le h]; exact sameZ_self _
  have H2 := Lib.hid (HR.out.head k6)
  have hsl := run_head B b.length d k (by have := HR.out.cap; omega)
  have hd3 : ((k : Int) == 0) = false := beq_eq_false_iff_ne.2 (by omega)
  clear he hle ho hb0 h4 he2 htl
  generalize appZ z most b = v at *
  generalize appZ z most (b.take k) = t at *
  have HSm := fun X q Y p w (h1 : Row cb w X t.data.length q t.data) (h2 : Row cb w Y t.data.length p t.data) => Lib.hid (same_any (x := t) (y := t) h1 h2)
  rw [sameZ_self] at HSm
  have HSv := fun X q Y p w (h1 : Row cb w X t.data.length q t.data) (h2 : Row cb w Y v.data.length p v.data) => Lib.hid (same_any (x := t) (y := v) h1 h2)
  unfold GaveZ at *
  unfold zv Zn.len at *
  have hcell := fun W (h : Held W w.heap.size z D c) => h.box.cells
  go_enter Try.func7, Try.ntmps7
  go_wp2_with fail
  generalize w.alloc (.cells #[.int .i64 z.st, .int .i64 z.fc, .slice D z.data.length c] 24) = w1 at *
  refine (live_any w1).mono ?_
  rintro e w2 ⟨rfl, hb2⟩
  have L2 := Lib.hid (L1.out.trans (hb2.mono L1.out.size))
  have A2 := Lib.hid (A1.out.below hb2)
  obtain ⟨c0, c1, c2⟩ := A2.out.box.cells
  clear hb2 L1 A1
  go_wp2_with fail
  refine (HB w2).out.mono ?_
  rintro e w3 ⟨rfl, hb3⟩
  have L3 := Lib.hid (L2.out.trans (hb3.mono L2.out.size))
  have A3 := Lib.hid (A2.out.below hb3)
  clear hb3 c0 c1 c2 L2 A2 HB
  obtain ⟨c0, c1, c2⟩ := A3.out.box.cells
  go_wp2_with fail
  refine (HK w3).out.mono ?_
  rintro e w4 ⟨rfl, hb4⟩
  have L4 := Lib.hid (L3.out.trans (hb4.mono L3.out.size))
  have A4 := Lib.hid (A3.out.below hb4)
  clear hb4 c0 c1 c2 L3 A3 HK
  obtain ⟨c0, c1, c2⟩ := A4.out.box.cells
  go_wp2_with fail
  refine (HA w4 A4.out.row (HR.out.below L4.out)).out.mono ?_
  rintro e w5 ⟨V, k0, rfl, hV, hb5⟩
  unfold zv at *
  have b56 : Below w5.heap.size w5 (w5.alloc (.cells #[.int .i64 v.st, .int .i64 v.fc, .slice V v.data.length k0] 24)) := (Below.refl _ w5).alloc (Nat.le_refl _) _
  have b46 := hb5.trans (b56.mono hb5.size)
  have L6 := Lib.hid (L4.out.trans (b46.mono L4.out.size))
  have A6 := Lib.hid (A4.out.below b46)
  have V6 := Lib.hid (Held.new hV HV.out)
  clear hV hb5 b56 b46 c0 c1 c2 L4 A4 HA
  go_upto_region 6 with fail
  generalize w5.alloc (.cells #[.int .i64 v.st, .int .i64 v.fc, .slice V v.data.length k0] 24) = w6 at *
  generalize w5.heap.size = g1 at *
  obtain ⟨c0, c1, c2⟩ := A6.out.box.cells
  go_wp2_with fail
  refine (HT w6 A6.out.row (HR.out.below L6.out)).out.mono ?_
  rintro e w7 ⟨T, k1, rfl, hT, hb7⟩
  unfold zv at *
  have b78 : Below w7.heap.size w7 (w7.alloc (.cells #[.int .i64 t.st, .int .i64 t.fc, .slice T t.data.length k1] 24)) := (Below.refl _ w7).alloc (Nat.le_refl _) _
  have b68 := hb7.trans (b78.mono hb7.size)
  have L8 := Lib.hid (L6.out.trans (b68.mono L6.out.size))
  have A8 := Lib.hid (A6.out.below b68)
  have V8 := Lib.hid (V6.out.below b68)
  have T8 := Lib.hid (Held.new hT HTn.out)
  clear hT hb7 b78 b68 c0 c1 c2 L6 A6 V6 HT
  go_upto_region 7 with fail
  generalize w7.alloc (.cells #[.int .i64 t.st, .int .i64 t.fc, .slice T t.data.length k1] 24) = w8 at *
  generalize w7.heap.size = g2 at *
  go_wp2_with fail
  have A9 := Lib.hid A8.out.drew
  have V9 := Lib.hid V8.out.drew
  have T9 := Lib.hid T8.out.drew
  have L9 : Hid (Below w.heap.size w w8.drew) := L8.out.drew
  clear A8 V8 T8 L8
  refine wp_region_held_drew (S := fun W => W.cell? ⟨w.heap.size, 0, none⟩ = some (.int .i64 z.st) ∧ W.cell? ⟨w.heap.size, 1, none⟩ = some (.int .i64 z.fc) ∧ W.cell? ⟨w.heap.size, 2, none⟩ = some (.slice D z.data.length c))
    (by kernel_rfl) (hcell _ A9.out) (fun hHeld => ?_)
  (first | (refine Reg.take 0 (v := ?_) rfl (by kernel_rfl) (by kernel_rfl) (by kernel_rfl) (fun _ _ _ h => h) (Or.inl ⟨by rfl, ?_⟩) (by assumption) ?_; rotate_left; (focus ((intro W hSW); (try dsimp only at hSW); (try go_split_ands); go_simp; (try (with_reducible rfl)); done))) | (refine Reg.take 0 (v := undef) rfl (by kernel_rfl) (by kernel_rfl) (by kernel_rfl) (fun _ _ _ h => h) (Or.inr ⟨by rfl, rfl⟩) (by assumption) ?_))
  (try simp only [Act.put, List.setIfInBounds_toArray, List.set_cons_zero, List.set_cons_succ])
  (first | (refine Reg.take 1 (v := ?_) rfl (by kernel_rfl) (by kernel_rfl) (by kernel_rfl) (fun _ _ _ h => h) (Or.inl ⟨by rfl, ?_⟩) (by assumption) ?_; rotate_left; (focus ((intro W hSW); (try dsimp only at hSW); (try go_split_ands); go_simp; (try (with_reducible rfl)); done))) | (refine Reg.take 1 (v := undef) rfl (by kernel_rfl) (by kernel_rfl) (by kernel_rfl) (fun _ _ _ h => h) (Or.inr ⟨by rfl, rfl⟩) (by assumption) ?_))
  (try simp only [Act.put, List.setIfInBounds_toArray, List.set_cons_zero, List.set_cons_succ])
  (first | (refine Reg.take 2 (v := ?_) rfl (by kernel_rfl) (by kernel_rfl) (by kernel_rfl) (fun _ _ _ h => h) (Or.inl ⟨by rfl, ?_⟩) (by assumption) ?_; rotate_left; (focus ((intro W hSW); (try dsimp only at hSW); (try go_split_ands); go_simp; (try (with_reducible rfl)); done))) | (refine Reg.take 2 (v := undef) rfl (by kernel_rfl) (by kernel_rfl) (by kernel_rfl) (fun _ _ _ h => h) (Or.inr ⟨by rfl, rfl⟩) (by assumption) ?_))
  (try simp only [Act.put, List.setIfInBounds_toArray, List.set_cons_zero, List.set_cons_succ])
  (first | (refine Reg.take 3 (v := ?_) rfl (by kernel_rfl) (by kernel_rfl) (by kernel_rfl) (fun _ _ _ h => h) (Or.inl ⟨by rfl, ?_⟩) (by assumption) ?_; rotate_left; (focus ((intro W hSW); (try dsimp only at hSW); (try go_split_ands); go_simp; (try (with_reducible rfl)); done))) | (refine Reg.take 3 (v := undef) rfl (by kernel_rfl) (by kernel_rfl) (by kernel_rfl) (fun _ _ _ h => h) (Or.inr ⟨by rfl, rfl⟩) (by assumption) ?_))
  (try simp only [Act.put, List.setIfInBounds_toArray, List.set_cons_zero, List.set_cons_succ])
  (first | (refine Reg.take 4 (v := ?_) rfl (by kernel_rfl) (by kernel_rfl) (by kernel_rfl) (fun _ _ _ h => h) (Or.inl ⟨by rfl, ?_⟩) (by assumption) ?_; rotate_left; (focus ((intro W hSW); (try dsimp only at hSW); (try go_split_ands); go_simp; (try (with_reducible rfl)); done))) | (refine Reg.take 4 (v := undef) rfl (by kernel_rfl) (by kernel_rfl) (by kernel_rfl) (fun _ _ _ h => h) (Or.inr ⟨by rfl, rfl⟩) (by assumption) ?_))
  (try simp only [Act.put, List.setIfInBounds_toArray, List.set_cons_zero, List.set_cons_succ])
  refine Reg.step2 5 10 rfl rfl (by kernel_rfl) (by rfl) (by rfl) (fun K hK => ?_) (fun K hK => ?_)
  · go_simp
    refine (HP w8.drew A9.out.row (H2.out.below L9.out)).out.mono ?_
    rintro e wa ⟨X, q, rfl, hX, hba⟩
    unfold zv at *
    have Aa := Lib.hid (A9.out.below hba)
    have Va := Lib.hid (V9.out.below hba)
    have Ta := Lib.hid (T9.out.below hba)
    have La := Lib.hid (L9.out.trans (hba.mono L9.out.size))
    have Oa := Lib.hid hX
    clear hX hba A9 V9 T9 L9
    refine hK.out _ _ (hcell _ Aa.out) (fun hHeld4 => ?_)
    clear hK K
    (try simp only [Act.put, List.setIfInBounds_toArray, List.set_cons_zero, List.set_cons_succ])
    (first | (refine Reg.take 6 (v := ?_) rfl (by kernel_rfl) (by kernel_rfl) (by kernel_rfl) (fun _ _ _ h => h) (Or.inl ⟨by rfl, ?_⟩) (by assumption) ?_; rotate_left; (focus ((intro W hSW); (try dsimp only at hSW); (try go_split_ands); go_simp; (try (with_reducible rfl)); done))) | (refine Reg.take 6 (v := undef) rfl (by kernel_rfl) (by kernel_rfl) (by kernel_rfl) (fun _ _ _ h => h) (Or.inr ⟨by rfl, rfl⟩) (by assumption) ?_))
    (try simp only [Act.put, List.setIfInBounds_toArray, List.set_cons_zero, List.set_cons_succ])
    (first | (refine Reg.take 7 (v := ?_) rfl (by kernel_rfl) (by kernel_rfl) (by kernel_rfl) (fun _ _ _ h => h) (Or.inl ⟨by rfl, ?_⟩) (by assumption) ?_; rotate_left; (focus ((intro W hSW); (try dsimp only at hSW); (try go_split_ands); go_simp; (try (with_reducible rfl)); done))) | (refine Reg.take 7 (v := undef) rfl (by kernel_rfl) (by kernel_rfl) (by kernel_rfl) (fun _ _ _ h => h) (Or.inr ⟨by rfl, rfl⟩) (by assumption) ?_))
    (try simp only [Act.put, List.setIfInBounds_toArray, List.set_cons_zero, List.set_cons_succ])
    (first | (refine Reg.take 8 (v := ?_) rfl (by kernel_rfl) (by kernel_rfl) (by kernel_rfl) (fun _ _ _ h => h) (Or.inl ⟨by rfl, ?_⟩) (by assumption) ?_; rotate_left; (focus ((intro W hSW); (try dsimp only at hSW); (try go_split_ands); go_simp; (try (with_reducible rfl)); done))) | (refine Reg.take 8 (v := undef) rfl (by kernel_rfl) (by kernel_rfl) (by kernel_rfl) (fun _ _ _ h => h) (Or.inr ⟨by rfl, rfl⟩) (by assumption) ?_))
    (try simp only [Act.put, List.setIfInBounds_toArray, List.set_cons_zero, List.set_cons_succ])
    (first | (refine Reg.take 9 (v := ?_) rfl (by kernel_rfl) (by kernel_rfl) (by kernel_rfl) (fun _ _ _ h => h) (Or.inl ⟨by rfl, ?_⟩) (by assumption) ?_; rotate_left; (focus ((intro W hSW); (try dsimp only at hSW); (try go_split_ands); go_simp; (try (with_reducible rfl)); done))) | (refine Reg.take 9 (v := undef) rfl (by kernel_rfl) (by kernel_rfl) (by kernel_rfl) (fun _ _ _ h => h) (Or.inr ⟨by rfl, rfl⟩) (by assumption) ?_))
    (try simp only [Act.put, List.setIfInBounds_toArray, List.set_cons_zero, List.set_cons_succ])
    refine Reg.step 10 rfl (by kernel_rfl) (by rfl) (fun K hK => ?_)
    go_simp
    refine hK.out _ _ (hcell _ (Aa.out.alloc (.cells #[.int .i64 0, .int .i64 0, .slice none 0 0] 24))) (fun hHeld5 => ?_)
    clear hK K
    (try simp only [Act.put, List.setIfInBounds_toArray, List.set_cons_zero, List.set_cons_succ])
    refine Reg.step 11 rfl (by kernel_rfl) (by rfl) (fun K hK => ?_)
    go_simp
    have A10 := Lib.hid (Aa.out.alloc (.cells #[.int .i64 t.st, .int .i64 t.fc, .slice X t.data.length q] 24))
    have V10 := Lib.hid (Va.out.alloc (.cells #[.int .i64 t.st, .int .i64 t.fc, .slice X t.data.length q] 24))
    have T10 := Lib.hid (Ta.out.alloc (.cells #[.int .i64 t.st, .int .i64 t.fc, .slice X t.data.length q] 24))
    have L10 := Lib.hid (La.out.alloc La.out.size (.cells #[.int .i64 t.st, .int .i64 t.fc, .slice X t.data.length q] 24))
    have P10 := Lib.hid (Held.new Oa.out HTn.out)
    refine hK.out _ _ (hcell _ A10.out) (fun hHeld6 => ?_)
    clear hK K Aa Va Ta La Oa
    (try simp only [Act.put, List.setIfInBounds_toArray, List.set_cons_zero, List.set_cons_succ])
    generalize wa.heap.size = g at *
    generalize wa.alloc (.cells #[.int .i64 t.st, .int .i64 t.fc, .slice X t.data.length q] 24) = w10 at *
    (first | (refine Reg.take 12 (v := ?_) rfl (by kernel_rfl) (by kernel_rfl) (by kernel_rfl) (fun _ _ _ h => h) (Or.inl ⟨by rfl, ?_⟩) (by assumption) ?_; rotate_left; (focus ((intro W hSW); (try dsimp only at hSW); (try go_split_ands); go_simp; (try (with_reducible rfl)); done))) | (refine Reg.take 12 (v := undef) rfl (by kernel_rfl) (by kernel_rfl) (by kernel_rfl) (fun _ _ _ h => h) (Or.inr ⟨by rfl, rfl⟩) (by assumption) ?_))
    (try simp only [Act.put, List.setIfInBounds_toArray, List.set_cons_zero, List.set_cons_succ])
    (first | (refine Reg.take 13 (v := ?_) rfl (by kernel_rfl) (by kernel_rfl) (by kernel_rfl) (fun _ _ _ h => h) (Or.inl ⟨by rfl, ?_⟩) (by assumption) ?_; rotate_left; (focus ((intro W hSW); (try dsimp only at hSW); (try go_split_ands); go_simp; (try (with_reducible rfl)); done))) | (refine Reg.take 13 (v := undef) rfl (by kernel_rfl) (by kernel_rfl) (by kernel_rfl) (fun _ _ _ h => h) (Or.inr ⟨by rfl, rfl⟩) (by assumption) ?_))
    (try simp only [Act.put, List.setIfInBounds_toArray, List.set_cons_zero, List.set_cons_succ])
    refine wpAnyH_done (by kernel_rfl) ?_ _
    obtain ⟨x0, x1, x2⟩ := P10.out.box.cells
    obtain ⟨t0, t1, t2⟩ := T10.out.box.cells
    obtain ⟨c0, c1, c2⟩ := A10.out.box.cells
    obtain ⟨v0, v1, v2⟩ := V10.out.box.cells
    rcases Nat.lt_or_ge k b.length with hkb | hkb
    · have hd5 : decide (k < b.length) = true := decide_eq_true hkb
      go_wp2_with fail
      refine (HSm X q T k1 w10 P10.out.row T10.out.row).out.mono ?_
      rintro e w11 ⟨rfl, hb11⟩
      have L11 := Lib.hid (L10.out.trans (hb11.mono L10.out.size))
      clear hb11
      go_wp2_with fail
      go_ret
      exact ⟨rfl, L11.out⟩
    · have hd5 : decide (k < b.length) = false := decide_eq_false (by omega)
      go_wp2_with fail
      refine (HSm X q T k1 w10 P10.out.row T10.out.row).out.mono ?_
      rintro e w11 ⟨rfl, hb11⟩
      have L11 := Lib.hid (L10.out.trans (hb11.mono L10.out.size))
      have T11 := Lib.hid (T10.out.below hb11)
      have V11 := Lib.hid (V10.out.below hb11)
      clear hb11 x0 x1 x2 t0 t1 t2 c0 c1 c2 v0 v1 v2
      obtain ⟨t0, t1, t2⟩ := T11.out.box.cells
      obtain ⟨v0, v1, v2⟩ := V11.out.box.cells
      go_wp2_with fail
      refine (HSv T k1 V k0 w11 T11.out.row V11.out.row).out.mono ?_
      rintro e w12 ⟨rfl, hb12⟩
      have L12 := Lib.hid (L11.out.trans (hb12.mono L11.out.size))
      rw [HEV.out (by omega)]
      clear hb12
      go_wp2_with fail
      go_ret
      exact ⟨rfl, L12.out⟩
  · go_simp
    have b9a : Below w8.drew.heap.size w8.drew (w8.alloc (.cells #[.int .i64 0, .int .i64 0, .slice none 0 0] 24)).drew := (Below.refl _ w8.drew).alloc (Nat.le_refl _) (.cells #[.int .i64 0, .int .i64 0, .slice none 0 0] 24)
    have Aa := Lib.hid (A9.out.below b9a)
    have La := Lib.hid (L9.out.trans (b9a.mono L9.out.size))
    have Ya : Hid (Box (w8.alloc (.cells #[.int .i64 0, .int .i64 0, .slice none 0 0] 24)).drew w8.heap.size nilZ none 0) := Box.new w8.drew nilZ none 0
    have b9a := Lib.hid b9a
    refine hK.out _ _ (hcell _ Aa.out) (fun hHeld3 => ?_)
    clear hK K
    (try simp only [Act.put, List.setIfInBounds_toArray, List.set_cons_zero, List.set_cons_succ])
    have HG : Hid (w8.drew.heap.size ≤ w8.heap.size) := Nat.le_refl _
    generalize (w8.alloc (.cells #[.int .i64 0, .int .i64 0, .slice none 0 0] 24)).drew = wa at *
    refine Reg.step 5 rfl (by kernel_rfl) (by rfl) (fun K hK => ?_)
    go_simp
    refine (HP wa Aa.out.row (H2.out.below La.out)).out.mono ?_
    rintro e wb ⟨X, q, rfl, hX, hbb⟩
    unfold zv at *
    have b9b := Lib.hid (b9a.out.trans (hbb.mono b9a.out.size))
    have Ab := Lib.hid (A9.out.below b9b.out)
    have Yb := Lib.hid (Ya.out.below hbb)
    have Ob := Lib.hid (Owns.other3 hX Ya.out.lt (.int .i64 t.st) (.int .i64 t.fc) (.slice X t.data.length q))
    clear hX hbb
    refine hK.out _ _ (hcell _ Ab.out) (fun hHeld4 => ?_)
    clear hK K
    (try simp only [Act.put, List.setIfInBounds_toArray, List.set_cons_zero, List.set_cons_succ])
    (first | (refine Reg.take 6 (v := ?_) rfl (by kernel_rfl) (by kernel_rfl) (by kernel_rfl) (fun _ _ _ h => h) (Or.inl ⟨by rfl, ?_⟩) (by assumption) ?_; rotate_left; (focus ((intro W hSW); (try dsimp only at hSW); (try go_split_ands); go_simp; (try (with_reducible rfl)); done))) | (refine Reg.take 6 (v := undef) rfl (by kernel_rfl) (by kernel_rfl) (by kernel_rfl) (fun _ _ _ h => h) (Or.inr ⟨by rfl, rfl⟩) (by assumption) ?_))
    (try simp only [Act.put, List.setIfInBounds_toArray, List.set_cons_zero, List.set_cons_succ])
    (first | (refine Reg.take 7 (v := ?_) rfl (by kernel_rfl) (by kernel_rfl) (by kernel_rfl) (fun _ _ _ h => h) (Or.inl ⟨by rfl, ?_⟩) (by assumption) ?_; rotate_left; (focus ((intro W hSW); (try dsimp only at hSW); (try go_split_ands); go_simp; (try (with_reducible rfl)); done))) | (refine Reg.take 7 (v := undef) rfl (by kernel_rfl) (by kernel_rfl) (by kernel_rfl) (fun _ _ _ h => h) (Or.inr ⟨by rfl, rfl⟩) (by assumption) ?_))
    (try simp only [Act.put, List.setIfInBounds_toArray, List.set_cons_zero, List.set_cons_succ])
    (first | (refine Reg.take 8 (v := ?_) rfl (by kernel_rfl) (by kernel_rfl) (by kernel_rfl) (fun _ _ _ h => h) (Or.inl ⟨by rfl, ?_⟩) (by assumption) ?_; rotate_left; (focus ((intro W hSW); (try dsimp only at hSW); (try go_split_ands); go_simp; (try (with_reducible rfl)); done))) | (refine Reg.take 8 (v := undef) rfl (by kernel_rfl) (by kernel_rfl) (by kernel_rfl) (fun _ _ _ h => h) (Or.inr ⟨by rfl, rfl⟩) (by assumption) ?_))
    (try simp only [Act.put, List.setIfInBounds_toArray, List.set_cons_zero, List.set_cons_succ])
    (first | (refine Reg.take 9 (v := ?_) rfl (by kernel_rfl) (by kernel_rfl) (by kernel_rfl) (fun _ _ _ h => h) (Or.inl ⟨by rfl, ?_⟩) (by assumption) ?_; rotate_left; (focus ((intro W hSW); (try dsimp only at hSW); (try go_split_ands); go_simp; (try (with_reducible rfl)); done))) | (refine Reg.take 9 (v := undef) rfl (by kernel_rfl) (by kernel_rfl) (by kernel_rfl) (fun _ _ _ h => h) (Or.inr ⟨by rfl, rfl⟩) (by assumption) ?_))
    (try simp only [Act.put, List.setIfInBounds_toArray, List.set_cons_zero, List.set_cons_succ])
    refine Reg.step 11 rfl (by kernel_rfl) (by rfl) (fun K hK => ?_)
    obtain ⟨f0, f1, f2⟩ := Yb.out.frozen
    obtain ⟨n0, n1, n2⟩ := Yb.out.cells
    go_simp
    have b9c := below3 (g := w8.heap.size) b9b.out HG.out (.int .i64 t.st) (.int .i64 t.fc) (.slice X t.data.length q)
    have A10 := Lib.hid (A9.out.below b9c)
    have V10 := Lib.hid (V9.out.below b9c)
    have T10 := Lib.hid (T9.out.below b9c)
    have L10 := Lib.hid (L9.out.trans (b9c.mono L9.out.size))
    have P10 : Hid (Held _ w8.heap.size t X q) := ⟨Box.store Yb.out t X q, (gave_row Ob.out HTn.out).1⟩
    refine hK.out _ _ (hcell _ A10.out) (fun hHeld6 => ?_)
    clear hK K b9c f0 f1 f2 n0 n1 n2 Ab Yb Ob Aa La Ya b9a b9b A9 V9 T9 L9
    (try simp only [Act.put, List.setIfInBounds_toArray, List.set_cons_zero, List.set_cons_succ])
    generalize w8.heap.size = g at *
    generalize ((wb.setCell ⟨g, 0, none⟩ (.int .i64 t.st)).setCell ⟨g, 1, none⟩ (.int .i64 t.fc)).setCell ⟨g, 2, none⟩ (.slice X t.data.length q) = w10 at *
    (first | (refine Reg.take 12 (v := ?_) rfl (by kernel_rfl) (by kernel_rfl) (by kernel_rfl) (fun _ _ _ h => h) (Or.inl ⟨by rfl, ?_⟩) (by assumption) ?_; rotate_left; (focus ((intro W hSW); (try dsimp only at hSW); (try go_split_ands); go_simp; (try (with_reducible rfl)); done))) | (refine Reg.take 12 (v := undef) rfl (by kernel_rfl) (by kernel_rfl) (by kernel_rfl) (fun _ _ _ h => h) (Or.inr ⟨by rfl, rfl⟩) (by assumption) ?_))
    (try simp only [Act.put, List.setIfInBounds_toArray, List.set_cons_zero, List.set_cons_succ])
    (first | (refine Reg.take 13 (v := ?_) rfl (by kernel_rfl) (by kernel_rfl) (by kernel_rfl) (fun _ _ _ h => h) (Or.inl ⟨by rfl, ?_⟩) (by assumption) ?_; rotate_left; (focus ((intro W hSW); (try dsimp only at hSW); (try go_split_ands); go_simp; (try (with_reducible rfl)); done))) | (refine Reg.take 13 (v := undef) rfl (by kernel_rfl) (by kernel_rfl) (by kernel_rfl) (fun _ _ _ h => h) (Or.inr ⟨by rfl, rfl⟩) (by assumption) ?_))
    (try simp only [Act.put, List.setIfInBounds_toArray, List.set_cons_zero, List.set_cons_succ])
    refine wpAnyH_done (by kernel_rfl) ?_ _
    obtain ⟨x0, x1, x2⟩ := P10.out.box.cells
    obtain ⟨t0, t1, t2⟩ := T10.out.box.cells
    obtain ⟨c0, c1, c2⟩ := A10.out.box.cells
    obtain ⟨v0, v1, v2⟩ := V10.out.box.cells
    rcases Nat.lt_or_ge k b.length with hkb | hkb
    · have hd5 : decide (k < b.length) = true := decide_eq_true hkb
      go_wp2_with fail
      refine (HSm X q T k1 w10 P10.out.row T10.out.row).out.mono ?_
      rintro e w11 ⟨rfl, hb11⟩
      have L11 := Lib.hid (L10.out.trans (hb11.mono L10.out.size))
      clear hb11
      go_wp2_with fail
      go_ret
      exact ⟨rfl, L11.out⟩
    · have hd5 : decide (k < b.length) = false := decide_eq_false (by omega)
      go_wp2_with fail
      refine (HSm X q T k1 w10 P10.out.row T10.out.row).out.mono ?_
      rintro e w11 ⟨rfl, hb11⟩
      have L11 := Lib.hid (L10.out.trans (hb11.mono L10.out.size))
      have T11 := Lib.hid (T10.out.below hb11)
      have V11 := Lib.hid (V10.out.below hb11)
      clear hb11 x0 x1 x2 t0 t1 t2 c0 c1 c2 v0 v1 v2
      obtain ⟨t0, t1, t2⟩ := T11.out.box.cells
      obtain ⟨v0, v1, v2⟩ := V11.out.box.cells
      go_wp2_with fail
      refine (HSv T k1 V k0 w11 T11.out.row V11.out.row).out.mono ?_
      rintro e w12 ⟨rfl, hb12⟩
      have L12 := Lib.hid (L11.out.trans (hb12.mono L11.out.size))
      rw [HEV.out (by omega)]
      clear hb12
      go_wp2_with fail
      go_ret
      exact ⟨rfl, L12.out⟩

theorem zoneTorn_walk (z : Zn) (D : Option Addr) (c : Nat) (most : Int) (B : Option Addr) (b : List B8) (d : Nat) (keep : Int) (w : World) (hz : Row cb w D z.data.length c z.data) (hr : Row cb w B b.length d b) :
    Calls Try.prog 7 #[zv z D c, .int .i64 most, .slice B b.length d, .int .i64 keep] w fun e w' => e = .returned (.bool true) ∧ Below w.heap.size w w' := by
  rcases h1 : bigB z b.length
  · rcases h2 : okB z most
    · exact zoneTorn_skip z D c most B b.length d keep w (.inr (.inl ⟨h1, h2⟩))
    · rcases Nat.eq_zero_or_pos b.length with h3 | h3
      · exact zoneTorn_skip z D c most B b.length d keep w (.inr (.inr ⟨h1, h2, h3⟩))
      · obtain ⟨r, k, k1, k2, k3, k4, k5, k6⟩ := keep_at keep b.length
        by_cases he : appErr z most b.length = 0
        · rcases Nat.eq_zero_or_pos k with hk0 | hk0
          · subst hk0
            exact zoneTorn_none z D c most B b d keep w hz hr h1 h2 h3 r k1 k2 k3 k4 k5 he
          · exact zoneTorn_some z D c most B b d keep w hz hr h1 h2 h3 r k k1 k2 k3 k4 k5 k6 hk0 he
        · exact zoneTorn_bad z D c most B b d keep w hz hr h1 h2 h3 r k k1 k2 k3 k4 k5 k6 he
  · exact zoneTorn_skip z D c most B b.length d keep w (.inl h1)

theorem zoneTorn_says : Frame.Says Rows.zoneTornSpec 4 := by
  refine ⟨rfl, fun H ds h => ?_, fun H ds h => ?_, fun H ds h => ?_⟩ <;>
  · match ds, h with
    | [d1, d2, d3, d4], _ => rfl

set_option maxRecDepth 100000 in
theorem zoneTorn_walks : Frame.Walks 7 [24, 3, 22, 3] := by
  intro H enc W args ds ps base hok hA hsz
  obtain ⟨v0, vs0, d0, ds0, p0, q0, hargs, rfl, rfl, h0, r0⟩ := trodAll_cons hA
  obtain ⟨v1, vs1, d1, ds1, p1, q1, rfl, rfl, rfl, h1, r1⟩ := trodAll_cons r0
  obtain ⟨v2, vs2, d2, ds2, p2, q2, rfl, rfl, rfl, h2, r2⟩ := trodAll_cons r1
  obtain ⟨v3, vs3, d3, ds3, p3, q3, rfl, rfl, rfl, h3, r3⟩ := trodAll_cons r2
  obtain ⟨rfl, rfl, rfl⟩ := trodAll_nil r3
  obtain rfl : args = #[v0, v1, v2, v3] := by cases args; simp_all
  obtain ⟨z, D, c, rfl, l0⟩ := Args.open_zone (hok 0 _ v0 rfl rfl) h0 (Args.sized_arg hsz (j := 0) rfl rfl)
  obtain ⟨most, rfl, rfl, rfl, w1⟩ := open_int Try.underlying3 (hok 1 _ v1 rfl rfl) h1
  obtain ⟨B, n, d, b, rfl, l2⟩ := Args.open_bytes (hok 2 _ v2 rfl rfl) h2 (Args.sized_arg hsz (j := 2) rfl rfl)
  obtain ⟨keep, rfl, rfl, rfl, w3⟩ := open_int Try.underlying3 (hok 3 _ v3 rfl rfl) h3
  obtain rfl : n = b.length := l2.len.symm
  exact zoneTorn_walk z D c most B b d keep W l0 l2

set_option maxRecDepth 100000 in
theorem zoneTorn_over : Rows.zoneTornRow.holds Try.pinned (OpenSpec.ofChange Rows.zoneTornSpec) :=
  OpenClaim.holds_of_wide 7 Try.f7 rfl rfl rfl rfl rfl rfl rfl ⟨rfl, rfl, rfl, rfl, rfl⟩ rfl rfl rfl rfl rfl (by kernel_rfl) Try.func7 (by kernel_rfl)
    (of_decide_eq_true (by kernel_rfl)) (by unfold Func.isWrapper; first | (rw [if_pos (by decide +kernel)]; kernel_rfl) | (rw [if_neg (by decide +kernel)]; exact ⟨rfl, rfl⟩))
    (fun os started H enc _ => Frame.lifted (started := started) Try.underlying4 (by kernel_rfl) Try.func7 (n := 4) (by rw [Try.params7]; rfl) zoneTorn_says (by rw [Try.params7]; kernel_rfl) (by kernel_rfl)
      (ChangeSpec.witness6 (enc := enc) (C := Try.checked) false ⟨#[], #[.agg #[.int .i64 0, .int .i64 0, .slice none 0 0], .int .i64 0, .slice none 0 0, .int .i64 0], []⟩ 8 (by kernel_rfl) (by kernel_rfl) (by kernel_rfl) (by kernel_rfl))
      (by rw [Try.params7]; exact zoneTorn_walks))
end Zon
/-- The given statement. -/
theorem zoneTorn_holds : Rows.ZoneTornSaid := Zon.zoneTorn_over
end Go.Proofs.Ytfcehlipbdngbaa
