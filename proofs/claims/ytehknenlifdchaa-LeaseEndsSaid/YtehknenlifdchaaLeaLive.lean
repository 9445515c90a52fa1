/-
  WHAT THE STATEMENTS ASK FIRST: the chapter's example (live).
-/
import Derived.Test.YtehknenlifdchaaLeaBox
namespace Go.Proofs.Ytehknenlifdchaa
open Go.RowKit Mem
namespace Lea
theorem live_1 : grantP ⟨0, 0, []⟩ 3 1 10 = (⟨1, 0, [⟨3, 1, 1, 10⟩]⟩, ⟨3, 1, 1, 10⟩, 0) := by rfl
theorem live_2 : grantP ⟨1, 0, [⟨3, 1, 1, 10⟩]⟩ 3 2 10 = (zT, zL, 60) := by rfl
theorem live_3 : tickP ⟨1, 0, [⟨3, 1, 1, 10⟩]⟩ 10 = (⟨1, 10, []⟩, [⟨3, 1, 1, 10⟩], 0) := by rfl
theorem live_4 : grantP ⟨1, 10, []⟩ 3 2 10 = (⟨2, 10, [⟨3, 2, 2, 20⟩]⟩, ⟨3, 2, 2, 20⟩, 0) := by rfl

set_option maxRecDepth 100000 in
set_option maxHeartbeats 12800000 in
theorem live_any (w : World) : Calls Try.prog 9 #[] w fun e w' => e = .returned (.bool true) ∧ Below w.heap.size w w' := by
  have HG1 : ∀ w, Hid (Calls Try.prog 24 #[tv 0 0 none 0 0, .int .i64 3, .int .i64 1, .int .i64 10] w fun e w' => ∃ A c, e = .returned (.tuple #[tv 1 0 A 1 c, lv ⟨3, 1, 1, 10⟩, .int .i64 0]) ∧ RowL w' A 1 c [⟨3, 1, 1, 10⟩] ∧ Below w.heap.size w w') := by
    intro w
    have h := grant_any (last := 0) (now := 0) 3 1 10 (RowS.nil cellsL 4 w) (by omega) (fun _ => by rw [IntKind.wrap_i64]; omega) (fun _ => by rw [IntKind.wrap_i64]; omega)
    rw [live_1] at h
    exact h
  have HG2 : ∀ w A c, RowL w A 1 c [⟨3, 1, 1, 10⟩] → Hid (Calls Try.prog 24 #[tv 1 0 A 1 c, .int .i64 3, .int .i64 2, .int .i64 10] w fun e w' => ∃ A c, e = .returned (.tuple #[tv 0 0 A 0 c, lv ⟨0, 0, 0, 0⟩, .int .i64 60]) ∧ RowL w' A 0 c [] ∧ Below w.heap.size w w') := by
    intro w A c hr
    have h := grant_any (last := 1) (now := 0) 3 2 10 hr (by omega) (fun _ => by rw [IntKind.wrap_i64]; omega) (fun _ => by rw [IntKind.wrap_i64]; omega)
    rw [live_2] at h
    exact h
  have HT : ∀ w A c, RowL w A 1 c [⟨3, 1, 1, 10⟩] → Hid (Calls Try.prog 26 #[tv 1 0 A 1 c, .int .i64 10] w fun e w' => ∃ A c B d, e = .returned (.tuple #[tv 1 10 A 0 c, .slice B 1 d, .int .i64 0]) ∧ RowL w' A 0 c [] ∧ RowL w' B 1 d [⟨3, 1, 1, 10⟩] ∧ Below w.heap.size w w') := by
    intro w A c hr
    have h := tick_any (last := 1) (now := 0) 10 hr (by omega)
    rw [live_3] at h
    exact h
  have HG4 : ∀ w A c, RowL w A 0 c [] → Hid (Calls Try.prog 24 #[tv 1 10 A 0 c, .int .i64 3, .int .i64 2, .int .i64 10] w fun e w' => ∃ A c, e = .returned (.tuple #[tv 2 10 A 1 c, lv ⟨3, 2, 2, 20⟩, .int .i64 0]) ∧ RowL w' A 1 c [⟨3, 2, 2, 20⟩] ∧ Below w.heap.size w w') := by
    intro w A c hr
    have h := grant_any (last := 1) (now := 10) 3 2 10 hr (by omega) (fun _ => by rw [IntKind.wrap_i64]; omega) (fun _ => by rw [IntKind.wrap_i64]; omega)
    rw [live_4] at h
    exact h
  go_enter Try.func9, Try.ntmps9
  go_upto_region 1 with fail
  go_wp2_with fail
  refine (HG1 w).out.mono ?_
  rintro e w1 ⟨A, c, rfl, hA, hb⟩
  have L1 : Hid (Below w.heap.size w ((w1.alloc (.cells #[.int .i64 1, .int .i64 0, .slice A 1 c] 24)).alloc (.cells #[.int .i64 3, .int .i64 1, .int .i64 1, .int .i64 10] 43))) := (hb.alloc hb.size _).alloc (by have := hb.size; simp; omega) _
  have T1 : Hid (TBox ((w1.alloc (.cells #[.int .i64 1, .int .i64 0, .slice A 1 c] 24)).alloc (.cells #[.int .i64 3, .int .i64 1, .int .i64 1, .int .i64 10] 43)) w1.heap.size 1 0 A 1 c) := heap_alloc2_old w1 _ _
  have X1 : Hid (LBox ((w1.alloc (.cells #[.int .i64 1, .int .i64 0, .slice A 1 c] 24)).alloc (.cells #[.int .i64 3, .int .i64 1, .int .i64 1, .int .i64 10] 43)) (w1.heap.size + 1) ⟨3, 1, 1, 10⟩) := heap_alloc2_new w1 _ _
  have R1 : Hid (RowL ((w1.alloc (.cells #[.int .i64 1, .int .i64 0, .slice A 1 c] 24)).alloc (.cells #[.int .i64 3, .int .i64 1, .int .i64 1, .int .i64 10] 43)) A 1 c [⟨3, 1, 1, 10⟩]) := RowS.alloc (RowS.alloc hA _) _
  clear hA hb
  go_upto_region 2 with fail
  generalize (w1.alloc (.cells #[.int .i64 1, .int .i64 0, .slice A 1 c] 24)).alloc (.cells #[.int .i64 3, .int .i64 1, .int .i64 1, .int .i64 10] 43) = w2 at *
  generalize w1.heap.size = g1 at *
  obtain ⟨m0, m1, m2⟩ := TBox.cells T1.out
  go_wp2_with fail
  refine (HG2 w2 A c R1.out).out.mono ?_
  rintro e w3 ⟨A2, c2, rfl, -, hb⟩
  have L2 : Hid (Below w.heap.size w ((w3.alloc (.cells #[.int .i64 0, .int .i64 0, .slice A2 0 c2] 24)).alloc (.cells #[.int .i64 0, .int .i64 0, .int .i64 0, .int .i64 0] 43))) := ((L1.out.trans (hb.mono L1.out.size)).alloc (by have := hb.size; have := L1.out.size; omega) _).alloc (by have := hb.size; have := L1.out.size; simp; omega) _
  have T2 : Hid (TBox ((w3.alloc (.cells #[.int .i64 0, .int .i64 0, .slice A2 0 c2] 24)).alloc (.cells #[.int .i64 0, .int .i64 0, .int .i64 0, .int .i64 0] 43)) g1 1 0 A 1 c) := Cells.alloc (Cells.alloc (Cells.below T1.out hb) _) _
  have X2 : Hid (LBox ((w3.alloc (.cells #[.int .i64 0, .int .i64 0, .slice A2 0 c2] 24)).alloc (.cells #[.int .i64 0, .int .i64 0, .int .i64 0, .int .i64 0] 43)) (g1 + 1) ⟨3, 1, 1, 10⟩) := Cells.alloc (Cells.alloc (Cells.below X1.out hb) _) _
  have R2 : Hid (RowL ((w3.alloc (.cells #[.int .i64 0, .int .i64 0, .slice A2 0 c2] 24)).alloc (.cells #[.int .i64 0, .int .i64 0, .int .i64 0, .int .i64 0] 43)) A 1 c [⟨3, 1, 1, 10⟩]) := RowS.alloc (RowS.alloc (RowS.below R1.out hb) _) _
  clear hb L1 T1 X1 R1 m0 m1 m2
  go_upto_region 3 with fail
  generalize (w3.alloc (.cells #[.int .i64 0, .int .i64 0, .slice A2 0 c2] 24)).alloc (.cells #[.int .i64 0, .int .i64 0, .int .i64 0, .int .i64 0] 43) = w4 at *
  generalize w3.heap.size = g2 at *
  obtain ⟨m0, m1, m2⟩ := TBox.cells T2.out
  go_wp2_with fail
  refine (HT w4 A c R2.out).out.mono ?_
  rintro e w5 ⟨A3, c3, B3, d3, rfl, hA, -, hb⟩
  have L3 : Hid (Below w.heap.size w (w5.alloc (.cells #[.int .i64 1, .int .i64 10, .slice A3 0 c3] 24))) := (L2.out.trans (hb.mono L2.out.size)).alloc (by have := hb.size; have := L2.out.size; omega) _
  have T3 : Hid (TBox (w5.alloc (.cells #[.int .i64 1, .int .i64 10, .slice A3 0 c3] 24)) w5.heap.size 1 10 A3 0 c3) := Cells.new _ _ _
  have X3 : Hid (LBox (w5.alloc (.cells #[.int .i64 1, .int .i64 10, .slice A3 0 c3] 24)) (g1 + 1) ⟨3, 1, 1, 10⟩) := Cells.alloc (Cells.below X2.out hb) _
  have R3 : Hid (RowL (w5.alloc (.cells #[.int .i64 1, .int .i64 10, .slice A3 0 c3] 24)) A3 0 c3 []) := RowS.alloc hA _
  clear hb hA L2 T2 X2 R2 m0 m1 m2
  go_upto_region 4 with fail
  generalize w5.alloc (.cells #[.int .i64 1, .int .i64 10, .slice A3 0 c3] 24) = w6 at *
  generalize w5.heap.size = g3 at *
  obtain ⟨m0, m1, m2⟩ := TBox.cells T3.out
  go_wp2_with fail
  refine (HG4 w6 A3 c3 R3.out).out.mono ?_
  rintro e w7 ⟨A4, c4, rfl, -, hb⟩
  have L4 : Hid (Below w.heap.size w ((w7.alloc (.cells #[.int .i64 2, .int .i64 10, .slice A4 1 c4] 24)).alloc (.cells #[.int .i64 3, .int .i64 2, .int .i64 2, .int .i64 20] 43))) := ((L3.out.trans (hb.mono L3.out.size)).alloc (by have := hb.size; have := L3.out.size; omega) _).alloc (by have := hb.size; have := L3.out.size; simp; omega) _
  have X4 : Hid (LBox ((w7.alloc (.cells #[.int .i64 2, .int .i64 10, .slice A4 1 c4] 24)).alloc (.cells #[.int .i64 3, .int .i64 2, .int .i64 2, .int .i64 20] 43)) (g1 + 1) ⟨3, 1, 1, 10⟩) := Cells.alloc (Cells.alloc (Cells.below X3.out hb) _) _
  have Y4 : Hid (LBox ((w7.alloc (.cells #[.int .i64 2, .int .i64 10, .slice A4 1 c4] 24)).alloc (.cells #[.int .i64 3, .int .i64 2, .int .i64 2, .int .i64 20] 43)) (w7.heap.size + 1) ⟨3, 2, 2, 20⟩) := heap_alloc2_new w7 _ _
  clear hb L3 T3 X3 R3 m0 m1 m2
  go_upto_region 5 with fail
  generalize (w7.alloc (.cells #[.int .i64 2, .int .i64 10, .slice A4 1 c4] 24)).alloc (.cells #[.int .i64 3, .int .i64 2, .int .i64 2, .int .i64 20] 43) = w8 at *
  generalize w7.heap.size = g4 at *
  obtain ⟨x0, x1, x2, x3⟩ := LBox.cells X4.out
  obtain ⟨y0, y1, y2, y3⟩ := LBox.cells Y4.out
  have heq := fun w => lease_eql ⟨3, 1, 1, 10⟩ w
  have hgd := lease_guard
  go_wp2_with fail
  go_ret
  exact ⟨rfl, L4.out⟩
end Lea
end Go.Proofs.Ytehknenlifdchaa
