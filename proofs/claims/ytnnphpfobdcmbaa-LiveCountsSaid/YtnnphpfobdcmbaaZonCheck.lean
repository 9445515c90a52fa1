/-
  WALKS OVER zone'S AND THE DOCUMENT'S TESTS: bytesMayBe, Check, appendError, stateBehind.
-/
import Derived.Test.YtnnphpfobdcmbaaZonMem
namespace Go.Proofs.Ytnnphpfobdcmbaa
open Go.RowKit Mem
namespace Zon

/-- A zone in a block of its own. -/
def Box (w : World) (g : Nat) (z : Zn) (D : Option Addr) (c : Nat) : Prop := Cells w g 46 #[.int .i64 z.st, .int .i64 z.fc, .slice D z.data.length c]
section
variable {w w' : World} {g : Nat} {z : Zn} {D : Option Addr} {c : Nat}
theorem Box.lt (h : Box w g z D c) : g < w.heap.size := Cells.lt h
theorem Box.below (h : Box w g z D c) (hb : Below w.heap.size w w') : Box w' g z D c := Cells.below h hb
theorem Box.alloc (h : Box w g z D c) (o : Obj) : Box (w.alloc o) g z D c := h.below ((Below.refl _ w).alloc (Nat.le_refl _) o)
theorem Box.cells (h : Box w g z D c) : w.cell? ⟨g, 0, none⟩ = some (.int .i64 z.st) ∧ w.cell? ⟨g, 1, none⟩ = some (.int .i64 z.fc) ∧ w.cell? ⟨g, 2, none⟩ = some (.slice D z.data.length c) := ⟨Cells.cell h 0, Cells.cell h 1, Cells.cell h 2⟩
theorem Box.frozen (h : Box w g z D c) : w.frozen? ⟨g, 0, none⟩ = false ∧ w.frozen? ⟨g, 1, none⟩ = false ∧ w.frozen? ⟨g, 2, none⟩ = false := ⟨Cells.frozen h 0, Cells.frozen h 1, Cells.frozen h 2⟩
theorem Box.new (w : World) (z : Zn) (D : Option Addr) (c : Nat) : Box (w.alloc (.cells #[.int .i64 z.st, .int .i64 z.fc, .slice D z.data.length c] 46)) w.heap.size z D c := Cells.new w _ _
end

set_option maxRecDepth 100000 in
theorem bytesMayBe_any (st n most : Int) (w : World) :
    Calls Try.prog 72 #[.int .i64 st, .int .i64 n, .int .i64 most] w fun e w' => e = .returned (.bool (mayB st n most)) ∧ w' = w := by
  unfold mayB
  rcases e0 : (st == 0)
  · rcases e1 : (st == 1)
    · rcases e3 : (st == 3)
      · rcases e2 : (st == 2)
        · rcases e4 : (st == 4)
          all_goals
            go_enter Try.func72, Try.ntmps72
            go_wp2
            go_ret
            exact ⟨rfl, rfl⟩
        · go_enter Try.func72, Try.ntmps72
          go_wp2
          go_ret
          exact ⟨rfl, rfl⟩
      · rcases en : (n == 0)
        all_goals
          go_enter Try.func72, Try.ntmps72
          go_wp2
          go_ret
          exact ⟨rfl, rfl⟩
    · rcases en : (n == 0)
      all_goals
        go_enter Try.func72, Try.ntmps72
        go_wp2
        go_ret
        exact ⟨rfl, rfl⟩
  · go_enter Try.func72, Try.ntmps72
    go_wp2
    go_ret
    exact ⟨rfl, rfl⟩

set_option maxRecDepth 100000 in
set_option maxHeartbeats 800000 in
theorem check_any (z : Zn) (D : Option Addr) (c : Nat) (most : Int) (w : World) :
    Calls Try.prog 52 #[zv z D c, .int .i64 most] w fun e w' => e = .returned (.int .i64 (errOf (okB z most))) ∧ Below w.heap.size w w' := by
  have HM := fun w => bytesMayBe_any z.st z.len most w
  have L1 := Lib.hid ((Below.refl w.heap.size w).alloc (Nat.le_refl _) (.cells #[.int .i64 z.st, .int .i64 z.fc, .slice D z.data.length c] 46))
  have B1 := Lib.hid (Box.new w z D c)
  unfold zv okB
  unfold Zn.len at *
  rcases e1 : decide (most < 1)
  · rcases e2 : decide (65536 < most)
    · rcases e3 : decide (z.fc < 0)
      · rcases e4 : mayB z.st z.data.length most
        all_goals
          rw [e4] at HM
          go_enter Try.func52, Try.ntmps52
          go_wp2_with fail
          generalize w.alloc (.cells #[.int .i64 z.st, .int .i64 z.fc, .slice D z.data.length c] 46) = w1 at *
          refine (HM w1).mono ?_
          rintro e w2 ⟨rfl, rfl⟩
          go_wp2_with fail
          go_ret
          exact ⟨rfl, L1.out⟩
      · go_enter Try.func52, Try.ntmps52
        go_wp2_with fail
        go_ret
        exact ⟨rfl, L1.out⟩
    · go_enter Try.func52, Try.ntmps52
      go_wp2_with fail
      go_ret
      exact ⟨rfl, L1.out⟩
  · go_enter Try.func52, Try.ntmps52
    go_wp2_with fail
    go_ret
    exact ⟨rfl, L1.out⟩

theorem ok_long {z : Zn} {most : Int} (h : most < z.len) : okB z most = false := by
  rcases ho : okB z most
  · rfl
  · have := (ok_parts ho).2.2.2.2; omega
theorem ok_rest {z : Zn} {most : Int} (h1 : decide (most < 1) = false) (h2 : decide (65536 < most) = false) (h3 : decide (z.fc < 0) = false) : okB z most = mayB z.st z.len most := by
  unfold okB
  rw [h1, h2, h3]; rfl

set_option maxRecDepth 100000 in
set_option maxHeartbeats 1600000 in
/-- The document's own. -/
theorem refCheck_any (z : Zn) (D : Option Addr) (c : Nat) (most : Int) (w : World) :
    Calls Try.prog 29 #[zv z D c, .int .i64 most] w fun e w' => e = .returned (.int .i64 (errOf (okB z most))) ∧ Below w.heap.size w w' := by
  have L1 := Lib.hid ((Below.refl w.heap.size w).alloc (Nat.le_refl _) (.cells #[.int .i64 z.st, .int .i64 z.fc, .slice D z.data.length c] 46))
  have HO := fun (x : Bool) (h : okB z most = x) => Lib.hid h
  unfold zv
  rcases e1 : decide (most < 1)
  · rcases e2 : decide (65536 < most)
    · rcases e3 : decide (z.fc < 0)
      · rcases e5 : decide (most < (z.data.length : Int))
        · have hk := ok_rest e1 e2 e3
          unfold mayB Zn.len at hk
          rcases f0 : (z.st == 0)
          · rcases f1 : (z.st == 1)
            · rcases f3 : (z.st == 3)
              · rcases f2 : (z.st == 2)
                · rcases f4 : (z.st == 4)
                  · have hz := HO _ (by rw [hk, f0, f1, f3, f2, f4] <;> rfl)
                    clear hk HO
                    go_enter Try.func29, Try.ntmps29
                    go_wp2_with fail
                    go_ret
                    exact ⟨by rw [hz.out]; rfl, L1.out⟩
                  · have hle : decide ((z.data.length : Int) ≤ most) = true := decide_eq_true (by have := of_decide_eq_false e5; omega)
                    have hz := HO true (by rw [hk, f0, f1, f3, f2, f4]; exact hle)
                    clear hk HO hle
                    go_enter Try.func29, Try.ntmps29
                    go_wp2_with fail
                    go_ret
                    exact ⟨by rw [hz.out]; rfl, L1.out⟩
                · rcases g : decide ((z.data.length : Int) < most)
                  all_goals
                    have hz := HO _ (by rw [hk, f0, f1, f3, f2, g] <;> rfl)
                    clear hk HO
                    go_enter Try.func29, Try.ntmps29
                    go_wp2_with fail
                    go_ret
                    exact ⟨by rw [hz.out]; rfl, L1.out⟩
              · rcases g0 : decide (0 < z.data.length)
                · have h0 : ((z.data.length : Int) == 0) = true := beq_iff_eq.2 (by have := of_decide_eq_false g0; omega)
                  have hz := HO false (by rw [hk, f0, f1, f3, h0] <;> rfl)
                  clear hk HO h0
                  go_enter Try.func29, Try.ntmps29
                  go_wp2_with fail
                  go_ret
                  exact ⟨by rw [hz.out]; rfl, L1.out⟩
                · have h0 : ((z.data.length : Int) == 0) = false := beq_eq_false_iff_ne.2 (by have := of_decide_eq_true g0; omega)
                  rcases g : decide ((z.data.length : Int) < most)
                  all_goals
                    have hz := HO _ (by rw [hk, f0, f1, f3, h0, g] <;> rfl)
                    clear hk HO h0
                    go_enter Try.func29, Try.ntmps29
                    go_wp2_with fail
                    go_ret
                    exact ⟨by rw [hz.out]; rfl, L1.out⟩
            · rcases g0 : decide (0 < z.data.length)
              · have h0 : ((z.data.length : Int) == 0) = true := beq_iff_eq.2 (by have := of_decide_eq_false g0; omega)
                have hz := HO false (by rw [hk, f0, f1, h0] <;> rfl)
                clear hk HO h0
                go_enter Try.func29, Try.ntmps29
                go_wp2_with fail
                go_ret
                exact ⟨by rw [hz.out]; rfl, L1.out⟩
              · have h0 : ((z.data.length : Int) == 0) = false := beq_eq_false_iff_ne.2 (by have := of_decide_eq_true g0; omega)
                rcases g : decide ((z.data.length : Int) < most)
                all_goals
                  have hz := HO _ (by rw [hk, f0, f1, h0, g] <;> rfl)
                  clear hk HO h0
                  go_enter Try.func29, Try.ntmps29
                  go_wp2_with fail
                  go_ret
                  exact ⟨by rw [hz.out]; rfl, L1.out⟩
          · rcases h0 : ((z.data.length : Int) == 0)
            all_goals
              have hz := HO _ (by rw [hk, f0, h0] <;> rfl)
              clear hk HO
              go_enter Try.func29, Try.ntmps29
              go_wp2_with fail
              go_ret
              exact ⟨by rw [hz.out]; rfl, L1.out⟩
        · have hz := HO false (ok_long (by unfold Zn.len; simpa using e5))
          go_enter Try.func29, Try.ntmps29
          go_wp2_with fail
          go_ret
          exact ⟨by rw [hz.out]; rfl, L1.out⟩
      · have hz := HO false (by unfold okB; rw [e1, e2, e3]; rfl)
        go_enter Try.func29, Try.ntmps29
        go_wp2_with fail
        go_ret
        exact ⟨by rw [hz.out]; rfl, L1.out⟩
    · have hz := HO false (by unfold okB; rw [e1, e2]; rfl)
      go_enter Try.func29, Try.ntmps29
      go_wp2_with fail
      go_ret
      exact ⟨by rw [hz.out]; rfl, L1.out⟩
  · have hz := HO false (by unfold okB; rw [e1]; rfl)
    go_enter Try.func29, Try.ntmps29
    go_wp2_with fail
    go_ret
    exact ⟨by rw [hz.out]; rfl, L1.out⟩

end Zon
end Go.Proofs.Ytnnphpfobdcmbaa
