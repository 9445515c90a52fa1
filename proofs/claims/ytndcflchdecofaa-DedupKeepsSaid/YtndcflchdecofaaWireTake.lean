/-
  wire: Take, takeInt, AND TakeFixed: HOW NUMBERS ARE READ.
-/
import Derived.Test.YtndcflchdecofaaWireNums
import Derived.Test.YtndcflchdecofaaWireBack
namespace Go.Proofs.Ytndcflchdecofaa
open Go.RowKit Go.Shelf Mem
attribute [local go_sem] Oper.semAt_some
namespace Wire

theorem gave_row {α : Type} {f : α → Value} {e : TypeId} {base : Nat} {w' : World} {l : List α} {A : Option Addr} {k c : Nat} (h : Owns f e base w' (.slice A k c) k l) (hl : l.length ≤ 140737488351232) : Row f w' A k c l ∧ k = l.length := by
  obtain ⟨A', c', e3, hrow⟩ := h.row (by have := h.len; omega)
  obtain ⟨rfl, -, rfl⟩ : A = A' ∧ k = k ∧ c = c' := by simpa using e3
  exact ⟨hrow, h.len.symm⟩

/-- What has come so far, as the program reckons it. -/
def accW (pre : List B8) : Nat := (pre.foldl (fun a x => a * 128 + x.toNat % 128) 0) % 18446744073709551616
theorem accW_snoc (pre : List B8) (x : B8) : accW (pre ++ [x]) = (accW pre * 128 + x.toNat % 128) % 18446744073709551616 := by
  unfold accW
  rw [List.foldl_append]
  simp only [List.foldl_cons, List.foldl_nil]
  omega
theorem accW_lt (pre : List B8) : accW pre < 18446744073709551616 := Nat.mod_lt _ (by omega)
theorem fold_dec : ∀ (l : List B8), l.reverse.foldl (fun a x => a * 128 + x.toNat % 128) 0 = dec l := by
  intro l
  induction l with
  | nil => rfl
  | cons x l ih => rw [List.reverse_cons, List.foldl_append, ih]; simp only [List.foldl_cons, List.foldl_nil, dec]; omega
theorem accW_rev (l : List B8) (h : dec l < 18446744073709551616) : accW l.reverse = dec l := by
  unfold accW; rw [fold_dec]; omega
/-- One step of it. -/
theorem or_step (a : Nat) (x : B8) : bits .or .u64 (IntKind.u64.wrap ((a : Int) * 128)) (IntKind.u64.wrap (bits .andNot .u8 (u x) 128)) = (((a * 128 + x.toNat % 128) % 18446744073709551616 : Nat) : Int) := by
  have hx := x.isLt
  have h1 := u8_andNot_nat x.toNat 128 (by omega) (by omega)
  have e1 : bits .andNot .u8 (u x) 128 = ((x.toNat &&& 127 : Nat) : Int) := h1
  have hw : ∀ n : Int, IntKind.u64.wrap n = n % 18446744073709551616 := fun n => by simp [IntKind.wrap, IntKind.bits, IntKind.signed]
  rw [e1, nat_mask7, hw, hw]
  have e2 : (a : Int) * 128 % 18446744073709551616 = ((a * 128 % 18446744073709551616 : Nat) : Int) := by omega
  have e3 : ((x.toNat % 128 : Nat) : Int) % 18446744073709551616 = ((x.toNat % 128 : Nat) : Int) := by omega
  rw [e2, e3, u64_or_nat _ _ (by omega) (by omega)]
  have := nat_join 7 (a * 128 % 18446744073709551616) (x.toNat % 128) (by omega) (by omega)
  rw [this]
  omega

/-- What Take tells. -/
def Took (l : List B8) (w : World) (e : Ending) (w' : World) : Prop := e = .returned (.tuple #[.int .u64 ((take1 l).1 : Int), .int .i64 ((take1 l).2.1 : Int), .int .i64 ((take1 l).2.2 : Int)]) ∧ Below w.heap.size w w'

theorem wrap_small (n : Nat) (h : n < 9223372036854775808) : IntKind.i64.wrap (n : Int) = n := by
  simp [IntKind.wrap, IntKind.bits, IntKind.signed]; omega

end Wire
end Go.Proofs.Ytndcflchdecofaa
