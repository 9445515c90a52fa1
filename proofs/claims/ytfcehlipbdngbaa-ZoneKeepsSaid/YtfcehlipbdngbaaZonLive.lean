/-
  zone: WHAT THE STATEMENTS ASK FIRST: the chapter's example (live), and whether an input is too great (big).
-/
import Derived.Test.YtfcehlipbdngbaaZonRefTorn
import Derived.Lib.SlBytesConst
namespace Go.Proofs.Ytfcehlipbdngbaa
open Go.RowKit Mem
namespace Zon

theorem row_new {α : Type} (f : α → Value) (w : World) (l : List α) (t : TypeId) (hn : l.length ≤ 140737488351232) {vs : Array Value} (hv : vs = (l.map f).toArray) {fr : Nat × Nat} {q : Nat} (hq : q = w.heap.size) : Row f (w.alloc (.cells vs t fr)) (some ⟨q, 0, none⟩) l.length l.length l := by
  subst hv hq
  refine ⟨rfl, Nat.le_refl _, hn, fun _ => ⟨_, _, rfl, by simp, fun i y hi => ?_⟩⟩
  rw [cell_of_row _ w.heap.size (0 + i) _ _ fr (heap_alloc_new w _)]
  simp [hi]

/-- What GaveZ says, with the row at hand. -/
theorem GaveZ.row {w w' : World} {z : Zn} {X : Option Addr} {q : Nat} (h : Owns cb 5 w.heap.size w' (.slice X z.data.length q) z.data.length z.data) (hn : z.data.length ≤ 140737488351232) : Row cb w' X z.data.length q z.data := (gave_row h hn).1

def exA : Zn := ⟨1, 0, [97#8, 98#8]⟩
def exB : Zn := ⟨4, 0, [97#8, 98#8, 99#8]⟩
theorem ex1 : appErr nilZ 3 [97#8, 98#8].length = 0 ∧ appZ nilZ 3 [97#8, 98#8] = exA := ⟨by decide, rfl⟩
theorem ex2 : appErr exA 3 [99#8, 100#8].length = 40 := by decide
theorem ex3 : appErr exA 3 [99#8].length = 0 ∧ appZ exA 3 [99#8] = exB := ⟨by decide, rfl⟩
theorem exS : str exB.data = ⟨#[97, 98, 99]⟩ := rfl

set_option maxRecDepth 100000 in
set_option maxHeartbeats 1600000 in
theorem live_any (w : World) :
    Calls Try.prog 9 #[] w fun e w' => e = .returned (.bool true) ∧ Below w.heap.size w w' := by
  have HA := fun (w : World) (q : Nat) (hq : q = w.heap.size) => Lib.hid (append_ok (z := nilZ) (D := none) (c := 0) (most := 3) (Row.nil cb _) (row_new cb w [97#8, 98#8] 5 (by decide) rfl (fr := (2, 3)) hq) ex1.1)
  have HB := fun (w : World) (q : Nat) X k => Lib.hid (append_bad (z := exA) (D := X) (c := k) (most := 3) (B := some ⟨q, 0, none⟩) (n := 2) (d := 2) (w := w) (by omega) ex2 (by decide))
  have HC := fun (w : World) (q : Nat) (hq : q = w.heap.size) X k (h : Row cb w X exA.data.length k exA.data) => Lib.hid (append_ok (z := exA) (D := X) (c := k) (most := 3) (h.alloc _) (row_new cb w [99#8] 5 (by decide) rfl (fr := (1, 2)) hq) ex3.1)
  rw [ex1.2] at HA
  rw [ex3.2] at HC
  unfold GaveZ zv at *
  simp only [show exA.st = 1 from rfl, show exA.fc = 0 from rfl, show exA.data.length = 2 from rfl, show exB.st = 4 from rfl, show exB.fc = 0 from rfl, show exB.data.length = 3 from rfl, show nilZ.len = 0 from rfl, show exA.len = 2 from rfl, show nilZ.st = 0 from rfl, show nilZ.fc = 0 from rfl, show nilZ.data.length = 0 from rfl] at HA HB HC
  have kc := fun (w : World) (C : Array Value) (n c : Nat) => Lib.run_convert_bytes_const (P := Try.prog) w 22 5 C n c Try.underlying22 Try.underlying5
  go_enter Try.func9, Try.ntmps9
  go_wp2_with fail
  refine (HA w w.heap.size rfl).out.mono ?_
  rintro e w1 ⟨X, q, rfl, hX, hb1⟩
  have r1 := (gave_row hX (by decide)).1
  have b12 : Below w1.heap.size w1 (w1.alloc (.cells #[.int .i64 1, .int .i64 0, .slice X 2 q] 24)) := (Below.refl _ w1).alloc (Nat.le_refl _) _
  have b01 : Below w.heap.size w w1 := ((Below.refl _ w).alloc (Nat.le_refl _) _).trans (hb1.mono (by simp))
  have L2 := Lib.hid (b01.trans (b12.mono b01.size))
  have A2 : Hid (Box (w1.alloc (.cells #[.int .i64 1, .int .i64 0, .slice X 2 q] 24)) w1.heap.size exA X q) := Box.new w1 exA X q
  have R2 := Lib.hid (r1.below b12)
  clear hX hb1 r1 b12 b01 HA
  go_upto_region 2 with fail
  generalize w1.alloc (.cells #[.int .i64 1, .int .i64 0, .slice X 2 q] 24) = w2 at *
  generalize w1.heap.size = g at *
  obtain ⟨c0, c1, c2⟩ := A2.out.cells
  go_wp2_with fail
  refine (HB (w2.alloc (.cells #[.int .u8 99, .int .u8 100] 5 (2, 3))) w2.heap.size X q).out.mono ?_
  rintro e w3 ⟨V, k0, rfl, -, hb3⟩
  have b23 : Below w2.heap.size w2 w3 := ((Below.refl _ w2).alloc (Nat.le_refl _) _).trans (hb3.mono (by simp))
  have b34 : Below w3.heap.size w3 (w3.alloc (.cells #[.int .i64 0, .int .i64 0, .slice V 0 k0] 24)) := (Below.refl _ w3).alloc (Nat.le_refl _) _
  have b24 := b23.trans (b34.mono b23.size)
  have L4 := Lib.hid (L2.out.trans (b24.mono L2.out.size))
  have A4 := Lib.hid (A2.out.below b24)
  have R4 := Lib.hid (R2.out.below b24)
  clear hb3 b23 b34 b24 HB c0 c1 c2 L2 A2 R2
  go_upto_region 3 with fail
  generalize w3.alloc (.cells #[.int .i64 0, .int .i64 0, .slice V 0 k0] 24) = w4 at *
  obtain ⟨c0, c1, c2⟩ := A4.out.cells
  go_wp2_with fail
  refine (HC w4 w4.heap.size rfl X q R4.out).out.mono ?_
  rintro e w5 ⟨Y, j, rfl, hY, hb5⟩
  have r5 := (gave_row hY (by decide)).1
  have b45 : Below w4.heap.size w4 w5 := ((Below.refl _ w4).alloc (Nat.le_refl _) _).trans (hb5.mono (by simp))
  have b56 : Below w5.heap.size w5 (w5.alloc (.cells #[.int .i64 4, .int .i64 0, .slice Y 3 j] 24)) := (Below.refl _ w5).alloc (Nat.le_refl _) _
  have b46 := b45.trans (b56.mono b45.size)
  have L6 := Lib.hid (L4.out.trans (b46.mono L4.out.size))
  have A6 := Lib.hid (A4.out.below b46)
  have R6 := Lib.hid (r5.below b56)
  have B6 : Hid (Box (w5.alloc (.cells #[.int .i64 4, .int .i64 0, .slice Y 3 j] 24)) w5.heap.size exB Y j) := Box.new w5 exB Y j
  clear hY hb5 r5 b45 b56 b46 HC c0 c1 c2 L4 A4 R4
  go_upto_region 4 with fail
  generalize w5.alloc (.cells #[.int .i64 4, .int .i64 0, .slice Y 3 j] 24) = w6 at *
  generalize w5.heap.size = h at *
  obtain ⟨c0, c1, c2⟩ := A6.out.cells
  obtain ⟨d0, d1, d2⟩ := B6.out.cells
  have hs := run_str R6.out
  rw [exS] at hs
  unfold exA at c0 c1 c2
  unfold exB at d0 d1 d2 hs
  simp only [List.length_cons, List.length_nil] at c2 d2 hs
  go_wp2_with fail
  go_ret
  exact ⟨rfl, L6.out⟩

/-- A zone, or bytes, too great. -/
def bigB (z : Zn) (n : Nat) : Bool := decide (70000 < z.data.length) || decide (70000 < n)
set_option maxRecDepth 100000 in
theorem big_any (z : Zn) (D : Option Addr) (c : Nat) (B : Option Addr) (n d : Nat) (w : World) :
    Calls Try.prog 10 #[zv z D c, .slice B n d] w fun e w' => e = .returned (.bool (bigB z n)) ∧ Below w.heap.size w w' := by
  have L1 := Lib.hid ((Below.refl w.heap.size w).alloc (Nat.le_refl _) (.cells #[.int .i64 z.st, .int .i64 z.fc, .slice D z.data.length c] 24))
  unfold zv
  have e1' : decide ((70000 : Int) < (z.data.length : Int)) = decide (70000 < z.data.length) := by rw [decide_eq_decide]; omega
  have e2' : decide ((70000 : Int) < (n : Int)) = decide (70000 < n) := by rw [decide_eq_decide]; omega
  unfold bigB
  rw [← e1', ← e2']
  clear e1' e2'
  rcases e1 : decide ((70000 : Int) < (z.data.length : Int))
  · go_enter Try.func10, Try.ntmps10
    go_wp2_with fail
    go_ret
    exact ⟨rfl, L1.out⟩
  · go_enter Try.func10, Try.ntmps10
    go_wp2_with fail
    go_ret
    exact ⟨rfl, L1.out⟩
end Zon
end Go.Proofs.Ytfcehlipbdngbaa
