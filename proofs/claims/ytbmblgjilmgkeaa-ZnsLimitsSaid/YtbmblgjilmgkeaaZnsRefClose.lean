/-
  A WALK: the document's own Close, of a zone that is Implicit and has bytes.
-/
import Derived.Test.YtbmblgjilmgkeaaZonRefA
namespace Go.Proofs.Ytbmblgjilmgkeaa
open Go.RowKit Mem Zon
namespace Zns

set_option maxRecDepth 100000 in
set_option maxHeartbeats 1600000 in
theorem refClose_imp {z : Zn} {D : Option Addr} {c : Nat} {w : World} (h : Row cb w D z.data.length c z.data) (h1 : z.st = 1) (h2 : z.data.length ≠ 0) :
    Calls Try.prog 16 #[zv z D c] w (GaveZ w (inZ z 3) [.int .i64 0]) := by
  have HC := fun w (h : Row cb w D z.data.length c z.data) => Lib.hid (copy_any h)
  have H1 := Lib.hid h
  obtain ⟨L1, B1, N1⟩ := two_new w z D c
  have e0 : (z.st == 0) = false := by rw [h1]; rfl
  have e4 : (z.st == 4) = false := by rw [h1]; rfl
  have el : ((z.data.length : Int) == 0) = false := beq_eq_false_iff_ne.2 (by omega)
  unfold zv inZ GaveZ1 at *
  clear h h1 h2
  go_enter Try.func16, Try.ntmps16
  go_upto_region 1 with fail
  generalize (w.alloc (.cells #[.int .i64 z.st, .int .i64 z.fc, .slice D z.data.length c] 42)).alloc (.cells #[.int .i64 0, .int .i64 0, .slice none 0 0] 42) = w1 at *
  obtain ⟨c0, c1, c2⟩ := B1.out.cells
  go_wp2_with fail
  refine (HC w1 (H1.out.below L1.out)).out.mono ?_
  rintro e w3 ⟨X, q, rfl, hX, hb⟩
  unfold zv
  have b4 : Below w3.heap.size w3 (w3.alloc (.cells #[.int .i64 z.st, .int .i64 z.fc, .slice X z.data.length q] 42)) := (Below.refl _ w3).alloc (Nat.le_refl _) _
  have b14 := hb.trans (b4.mono hb.size)
  have B4 := Lib.hid (B1.out.below b14)
  have N4 := Lib.hid (N1.out.below b14)
  have L4 := Lib.hid (L1.out.trans (b14.mono L1.out.size))
  have O4 := Lib.hid (hX.below b4)
  have Z4 : Hid (Box (w3.alloc (.cells #[.int .i64 z.st, .int .i64 z.fc, .slice X z.data.length q] 42)) w3.heap.size z X q) := Box.new w3 z X q
  have V4 : Hid (w.heap.size + 1 < w1.heap.size ∧ w1.heap.size ≤ w3.heap.size) := ⟨N1.out.lt, hb.size⟩
  clear hX hb b4 b14 c0 c1 c2 B1 N1 L1
  go_upto_region 4 with fail
  generalize w3.alloc (.cells #[.int .i64 z.st, .int .i64 z.fc, .slice X z.data.length q] 42) = w4 at *
  generalize w3.heap.size = g4 at *
  obtain ⟨d0, d1, d2⟩ := Z4.out.cells
  obtain ⟨f0, f1, f2⟩ := Z4.out.frozen
  go_upto_region 5 with fail
  have B5 : Hid (Box (w4.setCell ⟨g4, 0, none⟩ (.int .i64 3)) w.heap.size z D c) := Cells.set_other B4.out (by have := V4.out; omega) 0 _
  have N5 : Hid (Box (w4.setCell ⟨g4, 0, none⟩ (.int .i64 3)) (w.heap.size + 1) nilZ none 0) := Cells.set_other N4.out (by have := V4.out; omega) 0 _
  have Z5 : Hid (Box (w4.setCell ⟨g4, 0, none⟩ (.int .i64 3)) g4 ⟨3, z.fc, z.data⟩ X q) := Cells.set_ Z4.out 0 (.int .i64 3)
  have L5 := Lib.hid (L4.out.setCell (p := ⟨g4, 0, none⟩) (by have := V4.out; show _ ≤ g4; omega) (.int .i64 3))
  have O5 : Hid (Owns cb 5 w1.heap.size (w4.setCell ⟨g4, 0, none⟩ (.int .i64 3)) (.slice X z.data.length q) z.data.length z.data) := Owns.otherT O4.out Z4.out (by decide) 0 _
  clear B4 N4 Z4 L4 O4 d0 d1 d2 f0 f1 f2
  generalize w4.setCell ⟨g4, 0, none⟩ (.int .i64 3) = w5 at *
  obtain ⟨c0, c1, c2⟩ := B5.out.cells
  obtain ⟨d0, d1, d2⟩ := Z5.out.cells
  obtain ⟨n0, n1, n2⟩ := N5.out.cells
  obtain ⟨f0, f1, f2⟩ := N5.out.frozen
  go_wp2_with fail
  refine bodyPost_ret_by (results_zone_tmp rfl _ _ (w.heap.size + 1) _ _ _ _ rfl (Box.store N5.out ⟨3, z.fc, z.data⟩ X q) Try.underlying42 rfl (by kernel_rfl)) rfl ?_
  exact ⟨X, q, rfl, (Owns.other3 (g := w.heap.size + 1) O5.out V4.out.1 _ _ _).mono (by have := V4.out; omega), below3 L5.out (by omega) _ _ _⟩
end Zns
end Go.Proofs.Ytbmblgjilmgkeaa
