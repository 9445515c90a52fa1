/-
  THE STATEMENT ZoneResets: of every zone that may be, finished and reset: it takes nothing while it is Full, and is as a new one then, but for its fence; the arguments stay as they were. For every input.
-/
import Derived.Test.YtfcehlipbdngbaaZonHeld
import Derived.Test.YtfcehlipbdngbaaZonOpen
namespace Go.Proofs.Ytfcehlipbdngbaa
open Go.ChangeShapes Go.WideShapes Go.ChangeAt Go.RowKit Mem
namespace Zon

theorem ok_full {z : Zn} {most : Int} (h : okB z most = true) : okB (inZ z 4) most = true := by
  obtain ⟨h1, h2, h3, -, h5⟩ := ok_parts h
  unfold okB
  rw [decide_eq_false (by omega : ¬ most < 1), decide_eq_false (by omega : ¬ 65536 < most), decide_eq_false (by show ¬ z.fc < 0; omega)]
  show (mayB 4 z.len most) = true
  unfold mayB
  rw [show ((4 : Int) == 0) = false from rfl, show ((4 : Int) == 1 || (4 : Int) == 3) = false from rfl, show ((4 : Int) == 2) = false from rfl, show ((4 : Int) == 4) = true from rfl]
  simpa using h5
theorem ok_new {z : Zn} {most : Int} (h : okB z most = true) : okB ⟨0, z.fc, []⟩ most = true := by
  obtain ⟨h1, h2, h3, -, -⟩ := ok_parts h
  unfold okB
  rw [decide_eq_false (by omega : ¬ most < 1), decide_eq_false (by omega : ¬ 65536 < most), decide_eq_false (by show ¬ z.fc < 0; omega)]
  rfl
theorem full_err {z : Zn} {most : Int} {n : Nat} (h : okB z most = true) (hn : 0 < n) : appErr (inZ z 4) most n = 41 := by
  unfold appErr
  rw [ok_full h, beq_eq_false_iff_ne.2 (by omega : n ≠ 0)]
  rfl

set_option maxRecDepth 100000 in
set_option maxHeartbeats 3200000 in
theorem zoneResets_skip (z : Zn) (D : Option Addr) (c : Nat) (most : Int) (B : Option Addr) (n d : Nat) (w : World) (h1 : bigB z n = true ∨ (bigB z n = false ∧ okB z most = false)) :
    Calls Try.prog 8 #[zv z D c, .int .i64 most, .slice B n d] w fun e w' => e = .returned (.bool true) ∧ Below w.heap.size w w' := by
  have L1 := Lib.hid ((Below.refl w.heap.size w).alloc (Nat.le_refl _) (.cells #[.int .i64 z.st, .int .i64 z.fc, .slice D z.data.length c] 24))
  have A1 := Lib.hid (Box.new w z D c)
  have HB := fun w => Lib.hid (big_any z D c B n d w)
  have HK := fun w => Lib.hid (refCheck_any z D c most w)
  rcases h1 with h1 | ⟨h1, h2⟩
  all_goals
    rw [h1] at HB
    unfold zv at *
    clear h1
  · go_enter Try.func8, Try.ntmps8
    go_wp2_with fail
    generalize w.alloc (.cells #[.int .i64 z.st, .int .i64 z.fc, .slice D z.data.length c] 24) = w1 at *
    refine (live_any w1).mono ?_
    rintro e w2 ⟨rfl, hb2⟩
    have L2 := Lib.hid (L1.out.trans (hb2.mono L1.out.size))
    have A2 := Lib.hid (A1.out.below hb2)
    obtain ⟨c0, c1, c2⟩ := A2.out.cells
    clear hb2
    go_wp2_with fail
    refine (HB w2).out.mono ?_
    rintro e w3 ⟨rfl, hb3⟩
    have L3 := Lib.hid (L2.out.trans (hb3.mono L2.out.size))
    clear hb3
    go_wp2_with fail
    go_ret
    exact ⟨rfl, L3.out⟩
  · rw [h2] at HK
    unfold errOf at HK
    simp only [cond_false] at HK
    clear h2
    go_enter Try.func8, Try.ntmps8
    go_wp2_with fail
    generalize w.alloc (.cells #[.int .i64 z.st, .int .i64 z.fc, .slice D z.data.length c] 24) = w1 at *
    refine (live_any w1).mono ?_
    rintro e w2 ⟨rfl, hb2⟩
    have L2 := Lib.hid (L1.out.trans (hb2.mono L1.out.size))
    have A2 := Lib.hid (A1.out.below hb2)
    obtain ⟨c0, c1, c2⟩ := A2.out.cells
    clear hb2
    go_wp2_with fail
    refine (HB w2).out.mono ?_
    rintro e w3 ⟨rfl, hb3⟩
    have L3 := Lib.hid (L2.out.trans (hb3.mono L2.out.size))
    have A3 := Lib.hid (A2.out.below hb3)
    clear hb3 c0 c1 c2
    obtain ⟨c0, c1, c2⟩ := A3.out.cells
    go_wp2_with fail
    refine (HK w3).out.mono ?_
    rintro e w4 ⟨rfl, hb4⟩
    have L4 := Lib.hid (L3.out.trans (hb4.mono L3.out.size))
    clear hb4
    go_wp2_with fail
    go_ret
    exact ⟨rfl, L4.out⟩

set_option maxRecDepth 100000 in
set_option maxHeartbeats 6400000 in
theorem zoneResets_main (z : Zn) (D : Option Addr) (c : Nat) (most : Int) (B : Option Addr) (b : List B8) (d : Nat) (w : World) (hz : Row cb w D z.data.length c z.data) (hr : Row cb w B b.length d b) (h1 : bigB z b.length = false) (h2 : okB z most = true) :
    Calls Try.prog 8 #[zv z D c, .int .i64 most, .slice B b.length d] w fun e w' => e = .returned (.bool true) ∧ Below w.heap.size w w' := by
  have L1 := Lib.hid ((Below.refl w.heap.size w).alloc (Nat.le_refl _) (.cells #[.int .i64 z.st, .int .i64 z.fc, .slice D z.data.length c] 24))
  have A1 := Lib.hid (Held.start hz)
  have HR := Lib.hid hr
  have HB := fun w => Lib.hid (big_any z D c B b.length d w)
  have HK := fun w => Lib.hid (refCheck_any z D c most w)
  rw [h1] at HB
  rw [h2] at HK
  have hbl : b.length ≤ 70000 := by
    unfold bigB at h1
    simp only [Bool.or_eq_false_iff, decide_eq_false_iff_not] at h1
    omega
  obtain ⟨p1, p2, -, -, p5⟩ := ok_parts h2
  have hzl : z.data.length ≤ 65536 := by unfold Zn.len at p5; omega
  have o1 := ok_full h2
  have o2 := ok_new h2
  have HF := fun w (h : Row cb w D z.data.length c z.data) => Lib.hid (finish_any h)
  have HAp := fun V k0 X q w => Lib.hid (append_bad (z := inZ z 4) (D := V) (c := k0) (most := most) (B := X) (n := 1 + b.length) (d := q) (w := w) (by omega) (full_err h2 (by omega)) (by decide))
  have HOp := fun V k0 w (h : Row cb w V (inZ z 4).data.length k0 (inZ z 4).data) => Lib.hid (open_any most h)
  have hoe : openErr (inZ z 4) most = 41 := by unfold openErr; rw [o1]; rfl
  have HCl := fun V k0 w (h : Row cb w V (inZ z 4).data.length k0 (inZ z 4).data) => Lib.hid (close_any h)
  have hce : closeErr (inZ z 4) = 41 := rfl
  have HRf := fun V k0 w => Lib.hid (reset_any (inZ z 4) V k0 w)
  have HRz := fun V k0 w => Lib.hid (reset_any z V k0 w)
  have HRd := fun V k0 w (h : Row cb w V (inZ z 4).data.length k0 (inZ z 4).data) => Lib.hid (read_any 0 (z.data.length : Int) (by omega) h)
  have hrb : readB (inZ z 4) 0 (z.data.length : Int) = true := by
    unfold readB
    have e1 : decide ((z.data.length : Int) < 0) = false := by simp
    have e2 : decide ((inZ z 4).len - 0 < (z.data.length : Int)) = false := decide_eq_false (by show ¬ ((z.data.length : Int) - 0 < _); omega)
    rw [e1, e2]; rfl
  have hrl : readL (inZ z 4) 0 (z.data.length : Int) = z.data := by
    unfold readL
    rw [hrb]
    show (z.data.drop 0).take z.data.length = z.data
    simp
  have HSm := fun X q Y p w (h1 : Row cb w X (⟨0, z.fc, []⟩ : Zn).data.length q (⟨0, z.fc, []⟩ : Zn).data) (h2 : Row cb w Y (⟨0, z.fc, []⟩ : Zn).data.length p (⟨0, z.fc, []⟩ : Zn).data) => Lib.hid (same_any (x := ⟨0, z.fc, []⟩) (y := ⟨0, z.fc, []⟩) h1 h2)
  rw [sameZ_self] at HSm
  have HCf := fun V k0 w => Lib.hid (check_any (inZ z 4) V k0 most w)
  have HCx := fun V k0 w => Lib.hid (check_any ⟨0, z.fc, []⟩ V k0 most w)
  rw [o1] at HCf
  rw [o2] at HCx
  rw [hoe] at HOp
  rw [hce] at HCl
  rw [hrb, hrl] at HRd
  clear h1 h2 hz hr p1 p2 p5 o1 o2 hoe hce hrb hrl
  generalize openZ (inZ z 4) most = oz at *
  generalize closeZ (inZ z 4) = cz at *
  unfold errOf GaveZ GaveE inZ at *
  simp only [cond_true] at HK HCf HCx HRd
  unfold zv at *
  dsimp only at HF HAp HOp HCl HRf HRz HRd HSm HCf HCx
  simp only [List.length_nil] at HRf HRz HSm HCx
  simp only [show nilZ.st = 0 from rfl, show nilZ.fc = 0 from rfl, show nilZ.data = [] from rfl, List.length_nil] at HAp
  go_enter Try.func8, Try.ntmps8
  go_wp2_with fail
  generalize w.alloc (.cells #[.int .i64 z.st, .int .i64 z.fc, .slice D z.data.length c] 24) = w1 at *
  refine (live_any w1).mono ?_
  rintro e w2 ⟨rfl, hb2⟩
  have L2 := Lib.hid (L1.out.trans (hb2.mono L1.out.size))
  have A2 := Lib.hid (A1.out.below hb2)
  obtain ⟨c0, c1, c2⟩ := A2.out.box.cells
  clear hb2 L1 A1
  go_wp2_with fail
  refine (HB w2).out.mono ?_
  rintro e w3 ⟨rfl, hb3⟩
  have L3 := Lib.hid (L2.out.trans (hb3.mono L2.out.size))
  have A3 := Lib.hid (A2.out.below hb3)
  clear hb3 c0 c1 c2 L2 A2 HB
  obtain ⟨c0, c1, c2⟩ := A3.out.box.cells
  go_wp2_with fail
  refine (HK w3).out.mono ?_
  rintro e w4 ⟨rfl, hb4⟩
  have L4 := Lib.hid (L3.out.trans (hb4.mono L3.out.size))
  have A4 := Lib.hid (A3.out.below hb4)
  clear hb4 c0 c1 c2 L3 A3 HK
  obtain ⟨c0, c1, c2⟩ := A4.out.box.cells
  go_wp2_with fail
  refine (HF w4 A4.out.row).out.mono ?_
  rintro e w5 ⟨V, k0, rfl, hV, hb5⟩
  have b56 : Below w5.heap.size w5 (w5.alloc (.cells #[.int .i64 4, .int .i64 z.fc, .slice V z.data.length k0] 24)) := (Below.refl _ w5).alloc (Nat.le_refl _) _
  have b46 := hb5.trans (b56.mono hb5.size)
  have L6 := Lib.hid (L4.out.trans (b46.mono L4.out.size))
  have A6 := Lib.hid (A4.out.below b46)
  have F6 : Hid (Held (w5.alloc (.cells #[.int .i64 4, .int .i64 z.fc, .slice V z.data.length k0] 24)) w5.heap.size ⟨4, z.fc, z.data⟩ V k0) := Held.new (z := ⟨4, z.fc, z.data⟩) hV (by show z.data.length ≤ _; omega)
  clear hV hb5 b56 b46 c0 c1 c2 L4 A4 HF
  go_upto_region 5 with fail
  generalize w5.alloc (.cells #[.int .i64 4, .int .i64 z.fc, .slice V z.data.length k0] 24) = w6 at *
  generalize w5.heap.size = g1 at *
  have hcell := fun W (h : Held W g1 ⟨4, z.fc, z.data⟩ V k0) => h.box.cells
  go_cut [12] (fun s wx => s = .int .i64 41 ∧ Hid (Below w6.heap.size w6 wx))
  case first =>
    have F7 : Hid (Held w6.drew g1 ⟨4, z.fc, z.data⟩ V k0) := F6.out.drew
    refine wp_region_held_drew (S := fun W => W.cell? ⟨g1, 0, none⟩ = some (.int .i64 4) ∧ W.cell? ⟨g1, 1, none⟩ = some (.int .i64 z.fc) ∧ W.cell? ⟨g1, 2, none⟩ = some (.slice V z.data.length k0))
      (by kernel_rfl) (hcell _ F7.out) (fun hHeld => ?_)
    (first | (refine Reg.take 0 (v := ?_) rfl (by kernel_rfl) (by kernel_rfl) (by kernel_rfl) (fun _ _ _ h => h) (Or.inl ⟨by rfl, ?_⟩) (by assumption) ?_; rotate_left; (focus ((intro W hSW); (try dsimp only at hSW); (try go_split_ands); go_simp; (try (with_reducible rfl)); done))) | (refine Reg.take 0 (v := undef) rfl (by kernel_rfl) (by kernel_rfl) (by kernel_rfl) (fun _ _ _ h => h) (Or.inr ⟨by rfl, rfl⟩) (by assumption) ?_))
    (try simp only [Act.put, List.setIfInBounds_toArray, List.set_cons_zero, List.set_cons_succ])
    (first | (refine Reg.take 1 (v := ?_) rfl (by kernel_rfl) (by kernel_rfl) (by kernel_rfl) (fun _ _ _ h => h) (Or.inl ⟨by rfl, ?_⟩) (by assumption) ?_; rotate_left; (focus ((intro W hSW); (try dsimp only at hSW); (try go_split_ands); go_simp; (try (with_reducible rfl)); done))) | (refine Reg.take 1 (v := undef) rfl (by kernel_rfl) (by kernel_rfl) (by kernel_rfl) (fun _ _ _ h => h) (Or.inr ⟨by rfl, rfl⟩) (by assumption) ?_))
    (try simp only [Act.put, List.setIfInBounds_toArray, List.set_cons_zero, List.set_cons_succ])
    (first | (refine Reg.take 3 (v := ?_) rfl (by kernel_rfl) (by kernel_rfl) (by kernel_rfl) (fun _ _ _ h => h) (Or.inl ⟨by rfl, ?_⟩) (by assumption) ?_; rotate_left; (focus ((intro W hSW); (try dsimp only at hSW); (try go_split_ands); go_simp; (try (with_reducible rfl)); done))) | (refine Reg.take 3 (v := undef) rfl (by kernel_rfl) (by kernel_rfl) (by kernel_rfl) (fun _ _ _ h => h) (Or.inr ⟨by rfl, rfl⟩) (by assumption) ?_))
    (try simp only [Act.put, List.setIfInBounds_toArray, List.set_cons_zero, List.set_cons_succ])
    refine Reg.step2 2 10 rfl rfl (by kernel_rfl) (by rfl) (by rfl) (fun K hK => ?_) (fun K hK => ?_)
    · go_simp
      have B1 : Hid (Below w6.drew.heap.size w6.drew (w6.alloc (.cells #[.int .u8 1] 5)).drew) := (Below.refl _ w6.drew).alloc (Nat.le_refl _) (.cells #[.int .u8 1] 5)
      have O1 : Hid (Owns cb 5 w6.heap.size (w6.alloc (.cells #[.int .u8 1] 5)).drew (.slice (some ⟨w6.heap.size, 0, none⟩) 1 1) 1 [1#8]) := Owns.made cb 5 w6.drew [1#8] (by decide) (Nat.le_refl _)
      have S1 : Hid (w6.heap.size ≤ (w6.alloc (.cells #[.int .u8 1] 5)).drew.heap.size) := by show _ ≤ (w6.drew.alloc (.cells #[.int .u8 1] 5)).heap.size; simp
      have M1 : Hid (w6.drew.heap.size ≤ w6.heap.size) := Nat.le_refl _
      refine hK.out _ _ (hcell _ (F7.out.below B1.out)) (fun hHeld1 => ?_)
      clear hK K
      (try simp only [Act.put, List.setIfInBounds_toArray, List.set_cons_zero, List.set_cons_succ])
      generalize (w6.alloc (.cells #[.int .u8 1] 5)).drew = x1 at *
      refine Reg.step2 4 10 rfl rfl (by kernel_rfl) (by rfl) (by rfl) (fun K hK => ?_) (fun K hK => ?_)
      · refine wp_append_o cb_one Try.underlying22 info_byte rfl (.tmp 42) (.tmp 43) rfl rfl w6.heap.size (.slice (some ⟨w6.heap.size, 0, none⟩) 1 1) 1 [1#8] rfl O1.out B b.length d b rfl ((HR.out.below L6.out).below ((Below.refl _ w6).drew.trans B1.out)) (by omega) (by omega) S1.out ?_
        intro A2 c2 x2 hown hb ho
        have B2 := Lib.hid (B1.out.trans (hb.mono M1.out))
        clear hown hb ho
        refine hK.out _ _ (hcell _ (F7.out.below B2.out)) (fun hHeld2 => ?_)
        clear hK K
        (try simp only [Act.put, List.setIfInBounds_toArray, List.set_cons_zero, List.set_cons_succ])
        refine Reg.step2 5 10 rfl rfl (by kernel_rfl) (by rfl) (by rfl) (fun K hK => ?_) (fun K hK => ?_)
        · go_simp
          refine (HAp V k0 A2 c2 x2).out.mono ?_
          rintro e x3 ⟨X, q, rfl, -, hb⟩
          have B3 := Lib.hid (B2.out.trans (hb.mono B2.out.size))
          clear hb
          refine hK.out _ _ (hcell _ (F7.out.below B3.out)) (fun hHeld3 => ?_)
          clear hK K
          (try simp only [Act.put, List.setIfInBounds_toArray, List.set_cons_zero, List.set_cons_succ])
          (first | (refine Reg.take 6 (v := ?_) rfl (by kernel_rfl) (by kernel_rfl) (by kernel_rfl) (fun _ _ _ h => h) (Or.inl ⟨by rfl, ?_⟩) (by assumption) ?_; rotate_left; (focus ((intro W hSW); (try dsimp only at hSW); (try go_split_ands); go_simp; (try (with_reducible rfl)); done))) | (refine Reg.take 6 (v := undef) rfl (by kernel_rfl) (by kernel_rfl) (by kernel_rfl) (fun _ _ _ h => h) (Or.inr ⟨by rfl, rfl⟩) (by assumption) ?_))
          (try simp only [Act.put, List.setIfInBounds_toArray, List.set_cons_zero, List.set_cons_succ])
          (first | (refine Reg.take 7 (v := ?_) rfl (by kernel_rfl) (by kernel_rfl) (by kernel_rfl) (fun _ _ _ h => h) (Or.inl ⟨by rfl, ?_⟩) (by assumption) ?_; rotate_left; (focus ((intro W hSW); (try dsimp only at hSW); (try go_split_ands); go_simp; (try (with_reducible rfl)); done))) | (refine Reg.take 7 (v := undef) rfl (by kernel_rfl) (by kernel_rfl) (by kernel_rfl) (fun _ _ _ h => h) (Or.inr ⟨by rfl, rfl⟩) (by assumption) ?_))
          (try simp only [Act.put, List.setIfInBounds_toArray, List.set_cons_zero, List.set_cons_succ])
          (first | (refine Reg.take 8 (v := ?_) rfl (by kernel_rfl) (by kernel_rfl) (by kernel_rfl) (fun _ _ _ h => h) (Or.inl ⟨by rfl, ?_⟩) (by assumption) ?_; rotate_left; (focus ((intro W hSW); (try dsimp only at hSW); (try go_split_ands); go_simp; (try (with_reducible rfl)); done))) | (refine Reg.take 8 (v := undef) rfl (by kernel_rfl) (by kernel_rfl) (by kernel_rfl) (fun _ _ _ h => h) (Or.inr ⟨by rfl, rfl⟩) (by assumption) ?_))
          (try simp only [Act.put, List.setIfInBounds_toArray, List.set_cons_zero, List.set_cons_succ])
          (first | (refine Reg.take 9 (v := ?_) rfl (by kernel_rfl) (by kernel_rfl) (by kernel_rfl) (fun _ _ _ h => h) (Or.inl ⟨by rfl, ?_⟩) (by assumption) ?_; rotate_left; (focus ((intro W hSW); (try dsimp only at hSW); (try go_split_ands); go_simp; (try (with_reducible rfl)); done))) | (refine Reg.take 9 (v := undef) rfl (by kernel_rfl) (by kernel_rfl) (by kernel_rfl) (fun _ _ _ h => h) (Or.inr ⟨by rfl, rfl⟩) (by assumption) ?_))
          (try simp only [Act.put, List.setIfInBounds_toArray, List.set_cons_zero, List.set_cons_succ])
          refine Reg.step 10 rfl (by kernel_rfl) (by rfl) (fun K hK => ?_)
          go_simp
          have BY := Lib.hid (B3.out.alloc B3.out.size (.cells #[.int .i64 0, .int .i64 0, .slice none 0 0] 24))
          refine hK.out _ _ (hcell _ (F7.out.below BY.out)) (fun hHeldY => ?_)
          clear hK K
          (try simp only [Act.put, List.setIfInBounds_toArray, List.set_cons_zero, List.set_cons_succ])
          refine Reg.step 11 rfl (by kernel_rfl) (by rfl) (fun K hK => ?_)
          go_simp
          have BZ := Lib.hid (B3.out.alloc B3.out.size (.cells #[.int .i64 0, .int .i64 0, .slice X 0 q] 24))
          refine hK.out _ _ (hcell _ (F7.out.below BZ.out)) (fun hHeldZ => ?_)
          clear hK K
          (try simp only [Act.put, List.setIfInBounds_toArray, List.set_cons_zero, List.set_cons_succ])
          (first | (refine Reg.take 12 (v := ?_) rfl (by kernel_rfl) (by kernel_rfl) (by kernel_rfl) (fun _ _ _ h => h) (Or.inl ⟨by rfl, ?_⟩) (by assumption) ?_; rotate_left; (focus ((intro W hSW); (try dsimp only at hSW); (try go_split_ands); go_simp; (try (with_reducible rfl)); done))) | (refine Reg.take 12 (v := undef) rfl (by kernel_rfl) (by kernel_rfl) (by kernel_rfl) (fun _ _ _ h => h) (Or.inr ⟨by rfl, rfl⟩) (by assumption) ?_))
          (try simp only [Act.put, List.setIfInBounds_toArray, List.set_cons_zero, List.set_cons_succ])
          (first | (refine Reg.take 13 (v := ?_) rfl (by kernel_rfl) (by kernel_rfl) (by kernel_rfl) (fun _ _ _ h => h) (Or.inl ⟨by rfl, ?_⟩) (by assumption) ?_; rotate_left; (focus ((intro W hSW); (try dsimp only at hSW); (try go_split_ands); go_simp; (try (with_reducible rfl)); done))) | (refine Reg.take 13 (v := undef) rfl (by kernel_rfl) (by kernel_rfl) (by kernel_rfl) (fun _ _ _ h => h) (Or.inr ⟨by rfl, rfl⟩) (by assumption) ?_))
          (try simp only [Act.put, List.setIfInBounds_toArray, List.set_cons_zero, List.set_cons_succ])
          refine wpAnyH_done (by kernel_rfl) ?_ _
          go_wp2_with fail
          go_meet
          exact ⟨rfl, (Below.refl _ w6).drew.trans BZ.out⟩
        · go_simp
          have B3 : Hid (Below w6.drew.heap.size w6.drew (x2.alloc (.cells #[.int .i64 0, .int .i64 0, .slice none 0 0] 24))) := B2.out.alloc B2.out.size (.cells #[.int .i64 0, .int .i64 0, .slice none 0 0] 24)
          have Y3 : Hid (Box (x2.alloc (.cells #[.int .i64 0, .int .i64 0, .slice none 0 0] 24)) x2.heap.size nilZ none 0) := Box.new x2 nilZ none 0
          have G3 : Hid (w6.drew.heap.size ≤ x2.heap.size) := B2.out.size
          refine hK.out _ _ (hcell _ (F7.out.below B3.out)) (fun hHeld3 => ?_)
          clear hK K
          (try simp only [Act.put, List.setIfInBounds_toArray, List.set_cons_zero, List.set_cons_succ])
          generalize (x2.alloc (.cells #[.int .i64 0, .int .i64 0, .slice none 0 0] 24)) = x3 at *
          refine Reg.step 5 rfl (by kernel_rfl) (by rfl) (fun K hK => ?_)
          go_simp
          refine (HAp V k0 A2 c2 x3).out.mono ?_
          rintro e x4 ⟨X, q, rfl, -, hb⟩
          have B4 := Lib.hid (B3.out.trans (hb.mono B3.out.size))
          have Y4 := Lib.hid (Y3.out.below hb)
          clear hb
          refine hK.out _ _ (hcell _ (F7.out.below B4.out)) (fun hHeld4 => ?_)
          clear hK K
          (try simp only [Act.put, List.setIfInBounds_toArray, List.set_cons_zero, List.set_cons_succ])
          (first | (refine Reg.take 6 (v := ?_) rfl (by kernel_rfl) (by kernel_rfl) (by kernel_rfl) (fun _ _ _ h => h) (Or.inl ⟨by rfl, ?_⟩) (by assumption) ?_; rotate_left; (focus ((intro W hSW); (try dsimp only at hSW); (try go_split_ands); go_simp; (try (with_reducible rfl)); done))) | (refine Reg.take 6 (v := undef) rfl (by kernel_rfl) (by kernel_rfl) (by kernel_rfl) (fun _ _ _ h => h) (Or.inr ⟨by rfl, rfl⟩) (by assumption) ?_))
          (try simp only [Act.put, List.setIfInBounds_toArray, List.set_cons_zero, List.set_cons_succ])
          (first | (refine Reg.take 7 (v := ?_) rfl (by kernel_rfl) (by kernel_rfl) (by kernel_rfl) (fun _ _ _ h => h) (Or.inl ⟨by rfl, ?_⟩) (by assumption) ?_; rotate_left; (focus ((intro W hSW); (try dsimp only at hSW); (try go_split_ands); go_simp; (try (with_reducible rfl)); done))) | (refine Reg.take 7 (v := undef) rfl (by kernel_rfl) (by kernel_rfl) (by kernel_rfl) (fun _ _ _ h => h) (Or.inr ⟨by rfl, rfl⟩) (by assumption) ?_))
          (try simp only [Act.put, List.setIfInBounds_toArray, List.set_cons_zero, List.set_cons_succ])
          (first | (refine Reg.take 8 (v := ?_) rfl (by kernel_rfl) (by kernel_rfl) (by kernel_rfl) (fun _ _ _ h => h) (Or.inl ⟨by rfl, ?_⟩) (by assumption) ?_; rotate_left; (focus ((intro W hSW); (try dsimp only at hSW); (try go_split_ands); go_simp; (try (with_reducible rfl)); done))) | (refine Reg.take 8 (v := undef) rfl (by kernel_rfl) (by kernel_rfl) (by kernel_rfl) (fun _ _ _ h => h) (Or.inr ⟨by rfl, rfl⟩) (by assumption) ?_))
          (try simp only [Act.put, List.setIfInBounds_toArray, List.set_cons_zero, List.set_cons_succ])
          (first | (refine Reg.take 9 (v := ?_) rfl (by kernel_rfl) (by kernel_rfl) (by kernel_rfl) (fun _ _ _ h => h) (Or.inl ⟨by rfl, ?_⟩) (by assumption) ?_; rotate_left; (focus ((intro W hSW); (try dsimp only at hSW); (try go_split_ands); go_simp; (try (with_reducible rfl)); done))) | (refine Reg.take 9 (v := undef) rfl (by kernel_rfl) (by kernel_rfl) (by kernel_rfl) (fun _ _ _ h => h) (Or.inr ⟨by rfl, rfl⟩) (by assumption) ?_))
          (try simp only [Act.put, List.setIfInBounds_toArray, List.set_cons_zero, List.set_cons_succ])
          refine Reg.step 11 rfl (by kernel_rfl) (by rfl) (fun K hK => ?_)
          obtain ⟨f0, f1, f2⟩ := Y4.out.frozen
          obtain ⟨n0, n1, n2⟩ := Y4.out.cells
          go_simp
          have BZ := Lib.hid (below3 (g := x2.heap.size) B4.out G3.out (.int .i64 0) (.int .i64 0) (.slice X 0 q))
          refine hK.out _ _ (hcell _ (F7.out.below BZ.out)) (fun hHeldZ => ?_)
          clear hK K
          (try simp only [Act.put, List.setIfInBounds_toArray, List.set_cons_zero, List.set_cons_succ])
          (first | (refine Reg.take 12 (v := ?_) rfl (by kernel_rfl) (by kernel_rfl) (by kernel_rfl) (fun _ _ _ h => h) (Or.inl ⟨by rfl, ?_⟩) (by assumption) ?_; rotate_left; (focus ((intro W hSW); (try dsimp only at hSW); (try go_split_ands); go_simp; (try (with_reducible rfl)); done))) | (refine Reg.take 12 (v := undef) rfl (by kernel_rfl) (by kernel_rfl) (by kernel_rfl) (fun _ _ _ h => h) (Or.inr ⟨by rfl, rfl⟩) (by assumption) ?_))
          (try simp only [Act.put, List.setIfInBounds_toArray, List.set_cons_zero, List.set_cons_succ])
          (first | (refine Reg.take 13 (v := ?_) rfl (by kernel_rfl) (by kernel_rfl) (by kernel_rfl) (fun _ _ _ h => h) (Or.inl ⟨by rfl, ?_⟩) (by assumption) ?_; rotate_left; (focus ((intro W hSW); (try dsimp only at hSW); (try go_split_ands); go_simp; (try (with_reducible rfl)); done))) | (refine Reg.take 13 (v := undef) rfl (by kernel_rfl) (by kernel_rfl) (by kernel_rfl) (fun _ _ _ h => h) (Or.inr ⟨by rfl, rfl⟩) (by assumption) ?_))
          (try simp only [Act.put, List.setIfInBounds_toArray, List.set_cons_zero, List.set_cons_succ])
          refine wpAnyH_done (by kernel_rfl) ?_ _
          go_wp2_with fail
          go_meet
          exact ⟨rfl, (Below.refl _ w6).drew.trans BZ.out⟩
      · go_simp
        have B2 : Hid (Below w6.drew.heap.size w6.drew (x1.alloc (.cells #[.int .i64 0, .int .i64 0, .slice none 0 0] 24))) := B1.out.alloc B1.out.size (.cells #[.int .i64 0, .int .i64 0, .slice none 0 0] 24)
        have Y2 : Hid (Box (x1.alloc (.cells #[.int .i64 0, .int .i64 0, .slice none 0 0] 24)) x1.heap.size nilZ none 0) := Box.new x1 nilZ none 0
        have G2 : Hid (w6.drew.heap.size ≤ x1.heap.size) := B1.out.size
        have O2 : Hid (Owns cb 5 w6.heap.size (x1.alloc (.cells #[.int .i64 0, .int .i64 0, .slice none 0 0] 24)) (.slice (some ⟨w6.heap.size, 0, none⟩) 1 1) 1 [1#8]) := O1.out.alloc (.cells #[.int .i64 0, .int .i64 0, .slice none 0 0] 24)
        have S2 : Hid (w6.heap.size ≤ (x1.alloc (.cells #[.int .i64 0, .int .i64 0, .slice none 0 0] 24)).heap.size) := Nat.le_trans S1.out (by show _ ≤ (x1.alloc (.cells #[.int .i64 0, .int .i64 0, .slice none 0 0] 24)).heap.size; simp)
        refine hK.out _ _ (hcell _ (F7.out.below B2.out)) (fun hHeld2 => ?_)
        clear hK K
        (try simp only [Act.put, List.setIfInBounds_toArray, List.set_cons_zero, List.set_cons_succ])
        generalize (x1.alloc (.cells #[.int .i64 0, .int .i64 0, .slice none 0 0] 24)) = x2 at *
        refine Reg.step 4 rfl (by kernel_rfl) (by rfl) (fun K hK => ?_)
        refine wp_append_o cb_one Try.underlying22 info_byte rfl (.tmp 42) (.tmp 43) rfl rfl w6.heap.size (.slice (some ⟨w6.heap.size, 0, none⟩) 1 1) 1 [1#8] rfl O2.out B b.length d b rfl ((HR.out.below L6.out).below ((Below.refl _ w6).drew.trans B2.out)) (by omega) (by omega) S2.out ?_
        intro A3 c3 x3 hown hb ho
        have B3 := Lib.hid (B2.out.trans (hb.mono M1.out))
        have Y3 : Hid (Box x3 x1.heap.size nilZ none 0) := Oth.box Y2.out ho (by decide)
        clear hown hb ho
        refine hK.out _ _ (hcell _ (F7.out.below B3.out)) (fun hHeld3 => ?_)
        clear hK K
        (try simp only [Act.put, List.setIfInBounds_toArray, List.set_cons_zero, List.set_cons_succ])
        refine Reg.step 5 rfl (by kernel_rfl) (by rfl) (fun K hK => ?_)
        go_simp
        refine (HAp V k0 A3 c3 x3).out.mono ?_
        rintro e x4 ⟨X, q, rfl, -, hb⟩
        have B4 := Lib.hid (B3.out.trans (hb.mono B3.out.size))
        have Y4 := Lib.hid (Y3.out.below hb)
        clear hb
        refine hK.out _ _ (hcell _ (F7.out.below B4.out)) (fun hHeld4 => ?_)
        clear hK K
        (try simp only [Act.put, List.setIfInBounds_toArray, List.set_cons_zero, List.set_cons_succ])
        (first | (refine Reg.take 6 (v := ?_) rfl (by kernel_rfl) (by kernel_rfl) (by kernel_rfl) (fun _ _ _ h => h) (Or.inl ⟨by rfl, ?_⟩) (by assumption) ?_; rotate_left; (focus ((intro W hSW); (try dsimp only at hSW); (try go_split_ands); go_simp; (try (with_reducible rfl)); done))) | (refine Reg.take 6 (v := undef) rfl (by kernel_rfl) (by kernel_rfl) (by kernel_rfl) (fun _ _ _ h => h) (Or.inr ⟨by rfl, rfl⟩) (by assumption) ?_))
        (try simp only [Act.put, List.setIfInBounds_toArray, List.set_cons_zero, List.set_cons_succ])
        (first | (refine Reg.take 7 (v := ?_) rfl (by kernel_rfl) (by kernel_rfl) (by kernel_rfl) (fun _ _ _ h => h) (Or.inl ⟨by rfl, ?_⟩) (by assumption) ?_; rotate_left; (focus ((intro W hSW); (try dsimp only at hSW); (try go_split_ands); go_simp; (try (with_reducible rfl)); done))) | (refine Reg.take 7 (v := undef) rfl (by kernel_rfl) (by kernel_rfl) (by kernel_rfl) (fun _ _ _ h => h) (Or.inr ⟨by rfl, rfl⟩) (by assumption) ?_))
        (try simp only [Act.put, List.setIfInBounds_toArray, List.set_cons_zero, List.set_cons_succ])
        (first | (refine Reg.take 8 (v := ?_) rfl (by kernel_rfl) (by kernel_rfl) (by kernel_rfl) (fun _ _ _ h => h) (Or.inl ⟨by rfl, ?_⟩) (by assumption) ?_; rotate_left; (focus ((intro W hSW); (try dsimp only at hSW); (try go_split_ands); go_simp; (try (with_reducible rfl)); done))) | (refine Reg.take 8 (v := undef) rfl (by kernel_rfl) (by kernel_rfl) (by kernel_rfl) (fun _ _ _ h => h) (Or.inr ⟨by rfl, rfl⟩) (by assumption) ?_))
        (try simp only [Act.put, List.setIfInBounds_toArray, List.set_cons_zero, List.set_cons_succ])
        (first | (refine Reg.take 9 (v := ?_) rfl (by kernel_rfl) (by kernel_rfl) (by kernel_rfl) (fun _ _ _ h => h) (Or.inl ⟨by rfl, ?_⟩) (by assumption) ?_; rotate_left; (focus ((intro W hSW); (try dsimp only at hSW); (try go_split_ands); go_simp; (try (with_reducible rfl)); done))) | (refine Reg.take 9 (v := undef) rfl (by kernel_rfl) (by kernel_rfl) (by kernel_rfl) (fun _ _ _ h => h) (Or.inr ⟨by rfl, rfl⟩) (by assumption) ?_))
        (try simp only [Act.put, List.setIfInBounds_toArray, List.set_cons_zero, List.set_cons_succ])
        refine Reg.step 11 rfl (by kernel_rfl) (by rfl) (fun K hK => ?_)
        obtain ⟨f0, f1, f2⟩ := Y4.out.frozen
        obtain ⟨n0, n1, n2⟩ := Y4.out.cells
        go_simp
        have BZ := Lib.hid (below3 (g := x1.heap.size) B4.out G2.out (.int .i64 0) (.int .i64 0) (.slice X 0 q))
        refine hK.out _ _ (hcell _ (F7.out.below BZ.out)) (fun hHeldZ => ?_)
        clear hK K
        (try simp only [Act.put, List.setIfInBounds_toArray, List.set_cons_zero, List.set_cons_succ])
        (first | (refine Reg.take 12 (v := ?_) rfl (by kernel_rfl) (by kernel_rfl) (by kernel_rfl) (fun _ _ _ h => h) (Or.inl ⟨by rfl, ?_⟩) (by assumption) ?_; rotate_left; (focus ((intro W hSW); (try dsimp only at hSW); (try go_split_ands); go_simp; (try (with_reducible rfl)); done))) | (refine Reg.take 12 (v := undef) rfl (by kernel_rfl) (by kernel_rfl) (by kernel_rfl) (fun _ _ _ h => h) (Or.inr ⟨by rfl, rfl⟩) (by assumption) ?_))
        (try simp only [Act.put, List.setIfInBounds_toArray, List.set_cons_zero, List.set_cons_succ])
        (first | (refine Reg.take 13 (v := ?_) rfl (by kernel_rfl) (by kernel_rfl) (by kernel_rfl) (fun _ _ _ h => h) (Or.inl ⟨by rfl, ?_⟩) (by assumption) ?_; rotate_left; (focus ((intro W hSW); (try dsimp only at hSW); (try go_split_ands); go_simp; (try (with_reducible rfl)); done))) | (refine Reg.take 13 (v := undef) rfl (by kernel_rfl) (by kernel_rfl) (by kernel_rfl) (fun _ _ _ h => h) (Or.inr ⟨by rfl, rfl⟩) (by assumption) ?_))
        (try simp only [Act.put, List.setIfInBounds_toArray, List.set_cons_zero, List.set_cons_succ])
        refine wpAnyH_done (by kernel_rfl) ?_ _
        go_wp2_with fail
        go_meet
        exact ⟨rfl, (Below.refl _ w6).drew.trans BZ.out⟩
    · go_simp
      have B1 : Hid (Below w6.drew.heap.size w6.drew (w6.alloc (.cells #[.int .i64 0, .int .i64 0, .slice none 0 0] 24)).drew) := (Below.refl _ w6.drew).alloc (Nat.le_refl _) (.cells #[.int .i64 0, .int .i64 0, .slice none 0 0] 24)
      have Y1 : Hid (Box (w6.alloc (.cells #[.int .i64 0, .int .i64 0, .slice none 0 0] 24)).drew w6.heap.size nilZ none 0) := Box.new w6.drew nilZ none 0
      have G1 : Hid (w6.drew.heap.size ≤ w6.heap.size) := Nat.le_refl _
      refine hK.out _ _ (hcell _ (F7.out.below B1.out)) (fun hHeld1 => ?_)
      clear hK K
      (try simp only [Act.put, List.setIfInBounds_toArray, List.set_cons_zero, List.set_cons_succ])
      generalize (w6.alloc (.cells #[.int .i64 0, .int .i64 0, .slice none 0 0] 24)).drew = x1 at *
      refine Reg.step 2 rfl (by kernel_rfl) (by rfl) (fun K hK => ?_)
      go_simp
      have B2 : Hid (Below w6.drew.heap.size w6.drew (x1.alloc (.cells #[.int .u8 1] 5))) := B1.out.alloc B1.out.size (.cells #[.int .u8 1] 5)
      have O2 : Hid (Owns cb 5 x1.heap.size (x1.alloc (.cells #[.int .u8 1] 5)) (.slice (some ⟨x1.heap.size, 0, none⟩) 1 1) 1 [1#8]) := Owns.made cb 5 x1 [1#8] (by decide) (Nat.le_refl _)
      have S2 : Hid (x1.heap.size ≤ (x1.alloc (.cells #[.int .u8 1] 5)).heap.size) := by show _ ≤ (x1.alloc (.cells #[.int .u8 1] 5)).heap.size; simp
      have M2 : Hid (w6.drew.heap.size ≤ x1.heap.size) := B1.out.size
      have Y2 : Hid (Box (x1.alloc (.cells #[.int .u8 1] 5)) w6.heap.size nilZ none 0) := Y1.out.alloc (.cells #[.int .u8 1] 5)
      refine hK.out _ _ (hcell _ (F7.out.below B2.out)) (fun hHeld2 => ?_)
      clear hK K
      (try simp only [Act.put, List.setIfInBounds_toArray, List.set_cons_zero, List.set_cons_succ])
      generalize (x1.alloc (.cells #[.int .u8 1] 5)) = x2 at *
      refine Reg.step 4 rfl (by kernel_rfl) (by rfl) (fun K hK => ?_)
      refine wp_append_o cb_one Try.underlying22 info_byte rfl (.tmp 42) (.tmp 43) rfl rfl x1.heap.size (.slice (some ⟨x1.heap.size, 0, none⟩) 1 1) 1 [1#8] rfl O2.out B b.length d b rfl ((HR.out.below L6.out).below ((Below.refl _ w6).drew.trans B2.out)) (by omega) (by omega) S2.out ?_
      intro A3 c3 x3 hown hb ho
      have B3 := Lib.hid (B2.out.trans (hb.mono M2.out))
      have Y3 : Hid (Box x3 w6.heap.size nilZ none 0) := Oth.box Y2.out ho (by decide)
      clear hown hb ho
      refine hK.out _ _ (hcell _ (F7.out.below B3.out)) (fun hHeld3 => ?_)
      clear hK K
      (try simp only [Act.put, List.setIfInBounds_toArray, List.set_cons_zero, List.set_cons_succ])
      refine Reg.step 5 rfl (by kernel_rfl) (by rfl) (fun K hK => ?_)
      go_simp
      refine (HAp V k0 A3 c3 x3).out.mono ?_
      rintro e x4 ⟨X, q, rfl, -, hb⟩
      have B4 := Lib.hid (B3.out.trans (hb.mono B3.out.size))
      have Y4 := Lib.hid (Y3.out.below hb)
      clear hb
      refine hK.out _ _ (hcell _ (F7.out.below B4.out)) (fun hHeld4 => ?_)
      clear hK K
      (try simp only [Act.put, List.setIfInBounds_toArray, List.set_cons_zero, List.set_cons_succ])
      (first | (refine Reg.take 6 (v := ?_) rfl (by kernel_rfl) (by kernel_rfl) (by kernel_rfl) (fun _ _ _ h => h) (Or.inl ⟨by rfl, ?_⟩) (by assumption) ?_; rotate_left; (focus ((intro W hSW); (try dsimp only at hSW); (try go_split_ands); go_simp; (try (with_reducible rfl)); done))) | (refine Reg.take 6 (v := undef) rfl (by kernel_rfl) (by kernel_rfl) (by kernel_rfl) (fun _ _ _ h => h) (Or.inr ⟨by rfl, rfl⟩) (by assumption) ?_))
      (try simp only [Act.put, List.setIfInBounds_toArray, List.set_cons_zero, List.set_cons_succ])
      (first | (refine Reg.take 7 (v := ?_) rfl (by kernel_rfl) (by kernel_rfl) (by kernel_rfl) (fun _ _ _ h => h) (Or.inl ⟨by rfl, ?_⟩) (by assumption) ?_; rotate_left; (focus ((intro W hSW); (try dsimp only at hSW); (try go_split_ands); go_simp; (try (with_reducible rfl)); done))) | (refine Reg.take 7 (v := undef) rfl (by kernel_rfl) (by kernel_rfl) (by kernel_rfl) (fun _ _ _ h => h) (Or.inr ⟨by rfl, rfl⟩) (by assumption) ?_))
      (try simp only [Act.put, List.setIfInBounds_toArray, List.set_cons_zero, List.set_cons_succ])
      (first | (refine Reg.take 8 (v := ?_) rfl (by kernel_rfl) (by kernel_rfl) (by kernel_rfl) (fun _ _ _ h => h) (Or.inl ⟨by rfl, ?_⟩) (by assumption) ?_; rotate_left; (focus ((intro W hSW); (try dsimp only at hSW); (try go_split_ands); go_simp; (try (with_reducible rfl)); done))) | (refine Reg.take 8 (v := undef) rfl (by kernel_rfl) (by kernel_rfl) (by kernel_rfl) (fun _ _ _ h => h) (Or.inr ⟨by rfl, rfl⟩) (by assumption) ?_))
      (try simp only [Act.put, List.setIfInBounds_toArray, List.set_cons_zero, List.set_cons_succ])
      (first | (refine Reg.take 9 (v := ?_) rfl (by kernel_rfl) (by kernel_rfl) (by kernel_rfl) (fun _ _ _ h => h) (Or.inl ⟨by rfl, ?_⟩) (by assumption) ?_; rotate_left; (focus ((intro W hSW); (try dsimp only at hSW); (try go_split_ands); go_simp; (try (with_reducible rfl)); done))) | (refine Reg.take 9 (v := undef) rfl (by kernel_rfl) (by kernel_rfl) (by kernel_rfl) (fun _ _ _ h => h) (Or.inr ⟨by rfl, rfl⟩) (by assumption) ?_))
      (try simp only [Act.put, List.setIfInBounds_toArray, List.set_cons_zero, List.set_cons_succ])
      refine Reg.step 11 rfl (by kernel_rfl) (by rfl) (fun K hK => ?_)
      obtain ⟨f0, f1, f2⟩ := Y4.out.frozen
      obtain ⟨n0, n1, n2⟩ := Y4.out.cells
      go_simp
      have BZ := Lib.hid (below3 (g := w6.heap.size) B4.out G1.out (.int .i64 0) (.int .i64 0) (.slice X 0 q))
      refine hK.out _ _ (hcell _ (F7.out.below BZ.out)) (fun hHeldZ => ?_)
      clear hK K
      (try simp only [Act.put, List.setIfInBounds_toArray, List.set_cons_zero, List.set_cons_succ])
      (first | (refine Reg.take 12 (v := ?_) rfl (by kernel_rfl) (by kernel_rfl) (by kernel_rfl) (fun _ _ _ h => h) (Or.inl ⟨by rfl, ?_⟩) (by assumption) ?_; rotate_left; (focus ((intro W hSW); (try dsimp only at hSW); (try go_split_ands); go_simp; (try (with_reducible rfl)); done))) | (refine Reg.take 12 (v := undef) rfl (by kernel_rfl) (by kernel_rfl) (by kernel_rfl) (fun _ _ _ h => h) (Or.inr ⟨by rfl, rfl⟩) (by assumption) ?_))
      (try simp only [Act.put, List.setIfInBounds_toArray, List.set_cons_zero, List.set_cons_succ])
      (first | (refine Reg.take 13 (v := ?_) rfl (by kernel_rfl) (by kernel_rfl) (by kernel_rfl) (fun _ _ _ h => h) (Or.inl ⟨by rfl, ?_⟩) (by assumption) ?_; rotate_left; (focus ((intro W hSW); (try dsimp only at hSW); (try go_split_ands); go_simp; (try (with_reducible rfl)); done))) | (refine Reg.take 13 (v := undef) rfl (by kernel_rfl) (by kernel_rfl) (by kernel_rfl) (fun _ _ _ h => h) (Or.inr ⟨by rfl, rfl⟩) (by assumption) ?_))
      (try simp only [Act.put, List.setIfInBounds_toArray, List.set_cons_zero, List.set_cons_succ])
      refine wpAnyH_done (by kernel_rfl) ?_ _
      go_wp2_with fail
      go_meet
      exact ⟨rfl, (Below.refl _ w6).drew.trans BZ.out⟩
  case rest =>
    obtain ⟨rfl, hP⟩ := hcut
    have L7 := Lib.hid (L6.out.trans (hP.out.mono L6.out.size))
    have A7 := Lib.hid (A6.out.below hP.out)
    have F7 := Lib.hid (F6.out.below hP.out)
    clear hP L6 A6 F6 hcell HAp
    generalize wc = w7 at *
    obtain ⟨x0, x1, x2⟩ := F7.out.box.cells
    go_wp2_with fail
    refine (HOp V k0 w7 F7.out.row).out.mono ?_
    rintro e w8 ⟨X8, q8, rfl, hX, hb⟩
    have b1 : Below w8.heap.size w8 (w8.alloc (.cells #[.int .i64 oz.st, .int .i64 oz.fc, .slice X8 oz.data.length q8] 24)) := (Below.refl _ w8).alloc (Nat.le_refl _) _
    have b2 := hb.trans (b1.mono hb.size)
    have L9 := Lib.hid (L7.out.trans (b2.mono L7.out.size))
    have A9 := Lib.hid (A7.out.below b2)
    have F9 := Lib.hid (F7.out.below b2)
    clear hX hb b1 b2 L7 A7 F7 x0 x1 x2
    go_upto_region 7 with fail
    generalize w8.alloc (.cells #[.int .i64 oz.st, .int .i64 oz.fc, .slice X8 oz.data.length q8] 24) = w9 at *
    obtain ⟨x0, x1, x2⟩ := F9.out.box.cells
    go_wp2_with fail
    refine (HCl V k0 w9 F9.out.row).out.mono ?_
    rintro e w10 ⟨X10, q10, rfl, hX, hb⟩
    have b1 : Below w10.heap.size w10 (w10.alloc (.cells #[.int .i64 cz.st, .int .i64 cz.fc, .slice X10 cz.data.length q10] 24)) := (Below.refl _ w10).alloc (Nat.le_refl _) _
    have b2 := hb.trans (b1.mono hb.size)
    have L11 := Lib.hid (L9.out.trans (b2.mono L9.out.size))
    have A11 := Lib.hid (A9.out.below b2)
    have F11 := Lib.hid (F9.out.below b2)
    clear hX hb b1 b2 L9 A9 F9 x0 x1 x2
    go_upto_region 8 with fail
    generalize w10.alloc (.cells #[.int .i64 cz.st, .int .i64 cz.fc, .slice X10 cz.data.length q10] 24) = w11 at *
    obtain ⟨x0, x1, x2⟩ := F11.out.box.cells
    go_wp2_with fail
    refine (HRf V k0 w11).out.mono ?_
    rintro e w12 ⟨X, q, rfl, hX, hb⟩
    have b1 : Below w12.heap.size w12 (w12.alloc (.cells #[.int .i64 0, .int .i64 z.fc, .slice X 0 q] 24)) := (Below.refl _ w12).alloc (Nat.le_refl _) _
    have b2 := hb.trans (b1.mono hb.size)
    have L13 := Lib.hid (L11.out.trans (b2.mono L11.out.size))
    have A13 := Lib.hid (A11.out.below b2)
    have F13 := Lib.hid (F11.out.below b2)
    have X13 : Hid (Held (w12.alloc (.cells #[.int .i64 0, .int .i64 z.fc, .slice X 0 q] 24)) w12.heap.size ⟨0, z.fc, []⟩ X q) := Held.new (z := ⟨0, z.fc, []⟩) hX (by simp)
    clear hX hb b1 b2 L11 A11 F11 x0 x1 x2
    go_upto_region 9 with fail
    generalize w12.alloc (.cells #[.int .i64 0, .int .i64 z.fc, .slice X 0 q] 24) = w13 at *
    generalize w12.heap.size = gx at *
    obtain ⟨x0, x1, x2⟩ := A13.out.box.cells
    go_wp2_with fail
    refine (HRz D c w13).out.mono ?_
    rintro e w14 ⟨Y, p, rfl, hX, hb⟩
    have b1 : Below w14.heap.size w14 (w14.alloc (.cells #[.int .i64 0, .int .i64 z.fc, .slice Y 0 p] 24)) := (Below.refl _ w14).alloc (Nat.le_refl _) _
    have b2 := hb.trans (b1.mono hb.size)
    have L15 := Lib.hid (L13.out.trans (b2.mono L13.out.size))
    have A15 := Lib.hid (A13.out.below b2)
    have F15 := Lib.hid (F13.out.below b2)
    have X15 := Lib.hid (X13.out.below b2)
    have Y15 : Hid (Held (w14.alloc (.cells #[.int .i64 0, .int .i64 z.fc, .slice Y 0 p] 24)) w14.heap.size ⟨0, z.fc, []⟩ Y p) := Held.new (z := ⟨0, z.fc, []⟩) hX (by simp)
    clear hX hb b1 b2 L13 A13 F13 X13 x0 x1 x2
    go_upto_region 10 with fail
    generalize w14.alloc (.cells #[.int .i64 0, .int .i64 z.fc, .slice Y 0 p] 24) = w15 at *
    generalize w14.heap.size = gy at *
    obtain ⟨x0, x1, x2⟩ := F15.out.box.cells
    obtain ⟨a0, a1, a2⟩ := A15.out.box.cells
    go_wp2_with fail
    refine (HRd V k0 w15 F15.out.row).out.mono ?_
    rintro e w16 ⟨R, k1, q1, rfl, hX, hb⟩
    obtain ⟨hrow, rfl⟩ := gave_row hX (by omega)
    have L16 := Lib.hid (L15.out.trans (hb.mono L15.out.size))
    have A16 := Lib.hid (A15.out.below hb)
    have F16 := Lib.hid (F15.out.below hb)
    have X16 := Lib.hid (X15.out.below hb)
    have Y16 := Lib.hid (Y15.out.below hb)
    have s1 := run_str hrow
    have s2 := run_str A16.out.row
    clear hX hb hrow L15 A15 F15 X15 Y15 x0 x1 x2 a0 a1 a2
    obtain ⟨x0, x1, x2⟩ := X16.out.box.cells
    obtain ⟨a0, a1, a2⟩ := A16.out.box.cells
    generalize str z.data = sz at *
    go_wp2_with fail
    refine (HSm X q none 0 w16 X16.out.row (Row.nil cb w16)).out.mono ?_
    rintro e w17 ⟨rfl, hb⟩
    have L17 := Lib.hid (L16.out.trans (hb.mono L16.out.size))
    have F17 := Lib.hid (F16.out.below hb)
    have X17 := Lib.hid (X16.out.below hb)
    have Y17 := Lib.hid (Y16.out.below hb)
    clear hb L16 F16 X16 Y16 A16 x0 x1 x2 a0 a1 a2 s1 s2
    obtain ⟨x0, x1, x2⟩ := X17.out.box.cells
    obtain ⟨y0, y1, y2⟩ := Y17.out.box.cells
    go_wp2_with fail
    refine (HSm X q Y p w17 X17.out.row Y17.out.row).out.mono ?_
    rintro e w18 ⟨rfl, hb⟩
    have L18 := Lib.hid (L17.out.trans (hb.mono L17.out.size))
    have F18 := Lib.hid (F17.out.below hb)
    have X18 := Lib.hid (X17.out.below hb)
    clear hb L17 F17 X17 Y17 x0 x1 x2 y0 y1 y2
    obtain ⟨x0, x1, x2⟩ := F18.out.box.cells
    go_wp2_with fail
    refine (HCf V k0 w18).out.mono ?_
    rintro e w19 ⟨rfl, hb⟩
    have L19 := Lib.hid (L18.out.trans (hb.mono L18.out.size))
    have X19 := Lib.hid (X18.out.below hb)
    clear hb L18 F18 X18 x0 x1 x2
    obtain ⟨x0, x1, x2⟩ := X19.out.box.cells
    go_wp2_with fail
    refine (HCx X q w19).out.mono ?_
    rintro e w20 ⟨rfl, hb⟩
    have L20 := Lib.hid (L19.out.trans (hb.mono L19.out.size))
    clear hb
    go_wp2_with fail
    go_ret
    exact ⟨rfl, L20.out⟩

theorem zoneResets_walk (z : Zn) (D : Option Addr) (c : Nat) (most : Int) (B : Option Addr) (b : List B8) (d : Nat) (w : World) (hz : Row cb w D z.data.length c z.data) (hr : Row cb w B b.length d b) :
    Calls Try.prog 8 #[zv z D c, .int .i64 most, .slice B b.length d] w fun e w' => e = .returned (.bool true) ∧ Below w.heap.size w w' := by
  rcases h1 : bigB z b.length
  · rcases h2 : okB z most
    · exact zoneResets_skip z D c most B b.length d w (.inr ⟨h1, h2⟩)
    · exact zoneResets_main z D c most B b d w hz hr h1 h2
  · exact zoneResets_skip z D c most B b.length d w (.inl h1)

theorem zoneResets_says : Frame.Says Rows.zoneResetsSpec 3 := by
  refine ⟨rfl, fun H ds h => ?_, fun H ds h => ?_, fun H ds h => ?_⟩ <;>
  · match ds, h with
    | [d1, d2, d3], _ => rfl

set_option maxRecDepth 100000 in
theorem zoneResets_walks : Frame.Walks 8 [24, 3, 22] := by
  intro H enc W args ds ps base hok hA hsz
  obtain ⟨v0, vs0, d0, ds0, p0, q0, hargs, rfl, rfl, h0, r0⟩ := trodAll_cons hA
  obtain ⟨v1, vs1, d1, ds1, p1, q1, rfl, rfl, rfl, h1, r1⟩ := trodAll_cons r0
  obtain ⟨v2, vs2, d2, ds2, p2, q2, rfl, rfl, rfl, h2, r2⟩ := trodAll_cons r1
  obtain ⟨rfl, rfl, rfl⟩ := trodAll_nil r2
  obtain rfl : args = #[v0, v1, v2] := by cases args; simp_all
  obtain ⟨z, D, c, rfl, l0⟩ := Args.open_zone (hok 0 _ v0 rfl rfl) h0 (Args.sized_arg hsz (j := 0) rfl rfl)
  obtain ⟨most, rfl, rfl, rfl, w1⟩ := open_int Try.underlying3 (hok 1 _ v1 rfl rfl) h1
  obtain ⟨B, n, d, b, rfl, l2⟩ := Args.open_bytes (hok 2 _ v2 rfl rfl) h2 (Args.sized_arg hsz (j := 2) rfl rfl)
  obtain rfl : n = b.length := l2.len.symm
  exact zoneResets_walk z D c most B b d W l0 l2

set_option maxRecDepth 100000 in
theorem zoneResets_over : Rows.zoneResetsRow.holds Try.pinned (OpenSpec.ofChange Rows.zoneResetsSpec) :=
  OpenClaim.holds_of_wide 8 Try.f8 rfl rfl rfl rfl rfl rfl rfl ⟨rfl, rfl, rfl, rfl, rfl⟩ rfl rfl rfl rfl rfl (by kernel_rfl) Try.func8 (by kernel_rfl)
    (of_decide_eq_true (by kernel_rfl)) (by unfold Func.isWrapper; first | (rw [if_pos (by decide +kernel)]; kernel_rfl) | (rw [if_neg (by decide +kernel)]; exact ⟨rfl, rfl⟩))
    (fun os started H enc _ => Frame.lifted (started := started) Try.underlying4 (by kernel_rfl) Try.func8 (n := 3) (by rw [Try.params8]; rfl) zoneResets_says (by rw [Try.params8]; kernel_rfl) (by kernel_rfl)
      (ChangeSpec.witness6 (enc := enc) (C := Try.checked) false ⟨#[], #[.agg #[.int .i64 0, .int .i64 0, .slice none 0 0], .int .i64 0, .slice none 0 0], []⟩ 8 (by kernel_rfl) (by kernel_rfl) (by kernel_rfl) (by kernel_rfl))
      (by rw [Try.params8]; exact zoneResets_walks))
end Zon
/-- The given statement. -/
theorem zoneResets_holds : Rows.ZoneResetsSaid := Zon.zoneResets_over
end Go.Proofs.Ytfcehlipbdngbaa
