/-
  THE DOCUMENT'S OWN Same, of zones.
-/
import Derived.Test.YtbmblgjilmgkeaaZonRefA
namespace Go.Proofs.Ytbmblgjilmgkeaa
open Go.RowKit Mem
namespace Zon
/-- Two zones are the same. -/
def sameZ (x y : Zn) : Bool := (x.st == y.st) && ((x.fc == y.fc) && decide (x.data = y.data))
theorem sameZ_iff (x y : Zn) : sameZ x y = true ↔ x = y := by
  obtain ⟨a, b, c⟩ := x
  obtain ⟨d, e, f⟩ := y
  simp [sameZ]
theorem sameZ_self (x : Zn) : sameZ x x = true := (sameZ_iff x x).2 rfl

set_option maxRecDepth 100000 in
set_option maxHeartbeats 1600000 in
theorem same_any {x y : Zn} {A B : Option Addr} {c d : Nat} {w : World} (h1 : Row cb w A x.data.length c x.data) (h2 : Row cb w B y.data.length d y.data) :
    Calls Try.prog 15 #[zv x A c, zv y B d] w fun e w' => e = .returned (.bool (sameZ x y)) ∧ Below w.heap.size w w' := by
  have hw : ∀ w1 : World, Below w.heap.size w w1 → Hid (Row cb w1 A x.data.length c x.data ∧ Row cb w1 B y.data.length d y.data) := fun w1 hb => ⟨h1.below hb, h2.below hb⟩
  have L1 := Lib.hid (((Below.refl w.heap.size w).alloc (Nat.le_refl _) (.cells #[.int .i64 x.st, .int .i64 x.fc, .slice A x.data.length c] 42)).alloc (by simp) (.cells #[.int .i64 y.st, .int .i64 y.fc, .slice B y.data.length d] 42))
  have B1 : Hid (Box ((w.alloc (.cells #[.int .i64 x.st, .int .i64 x.fc, .slice A x.data.length c] 42)).alloc (.cells #[.int .i64 y.st, .int .i64 y.fc, .slice B y.data.length d] 42)) w.heap.size x A c) := heap_alloc2_old w _ _
  have B2 : Hid (Box ((w.alloc (.cells #[.int .i64 x.st, .int .i64 x.fc, .slice A x.data.length c] 42)).alloc (.cells #[.int .i64 y.st, .int .i64 y.fc, .slice B y.data.length d] 42)) (w.heap.size + 1) y B d) := heap_alloc2_new w _ _
  have HB := Lib.hid (str_beq x.data y.data)
  unfold zv sameZ at *
  clear h1 h2
  go_enter Try.func15, Try.ntmps15
  go_upto_region 1 with fail
  generalize (w.alloc (.cells #[.int .i64 x.st, .int .i64 x.fc, .slice A x.data.length c] 42)).alloc (.cells #[.int .i64 y.st, .int .i64 y.fc, .slice B y.data.length d] 42) = w1 at *
  have s1 := run_str (hw w1 L1.out).out.1
  have s2 := run_str (hw w1 L1.out).out.2
  obtain ⟨c0, c1, c2⟩ := B1.out.cells
  obtain ⟨d0, d1, d2⟩ := B2.out.cells
  generalize str x.data = sx at *
  generalize str y.data = sy at *
  rcases e0 : (x.st == y.st)
  · go_wp2_with fail
    go_ret
    exact ⟨ret_bool (by rw [e0]; rfl), L1.out⟩
  · rcases e1 : (x.fc == y.fc)
    · go_wp2_with fail
      go_ret
      exact ⟨ret_bool (by rw [e0, e1]; rfl), L1.out⟩
    · go_wp2_with fail
      go_ret
      refine ⟨ret_bool ?_, L1.out⟩
      rw [e0, e1, ← HB.out]
      rfl
end Zon
end Go.Proofs.Ytbmblgjilmgkeaa
