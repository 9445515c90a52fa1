/-
  NUMBERS ONE BEHIND THE OTHER: Nums, TakeNums, for every input. (Parted from WireRows in round 8: coord has these, not the rest.)
-/
import Derived.Test.YtndcflchdecofaaWireTake
import Derived.Test.YtndcflchdecofaaReg
import Derived.Deep.DeepCutAuto
import Derived.Lib.LazyBuf
namespace Go.Proofs.Ytndcflchdecofaa
open Go.RowKit Mem
namespace Wire

/-- A row and an error, as a call gave them. -/
def GaveE {α : Type} (f : α → Value) (e : TypeId) (base : Nat) (w : World) (l : List α) (er : Int) (en : Ending) (w' : World) : Prop :=
  ∃ A k c, en = .returned (.tuple #[.slice A k c, .int .i64 er]) ∧ Owns f e base w' (.slice A k c) k l ∧ Below base w w'

def Numbered (l : List Int) (w : World) (en : Ending) (w' : World) : Prop :=
  ((∀ z ∈ l, 0 ≤ z) ∧ GaveE cb 5 w.heap.size w (encs (l.map Int.toNat)) 0 en w') ∨
  ((∃ z ∈ l, z < 0) ∧ en = .returned (.tuple #[.slice none 0 0, .int .i64 1]) ∧ Below w.heap.size w w')

theorem wrap_u64_small (n : Nat) (h : n < 9223372036854775808) : IntKind.u64.wrap (n : Int) = n := by
  simp [IntKind.wrap, IntKind.bits, IntKind.signed]; omega

theorem info_int : (Try.prog.info? 3).map (fun i => (i.zero, i.size, i.bytes)) = some (some (.int .i64 0), 1, 8) := by kernel_rfl
/-- Numbers as ints. -/
def asInts (l : List Nat) : List Int := List.map (α := Nat) (β := Int) (fun n => (n : Int)) l
theorem asInts_append (l : List Nat) (n : Nat) : asInts (l ++ [n]) = asInts l ++ [(n : Int)] := by simp [asInts]

/-- What TakeNums tells. -/
def TookN (l : List Nat) (k e : Nat) (w : World) (en : Ending) (w' : World) : Prop :=
  ∃ B j d, en = .returned (.tuple #[.slice B j d, .int .i64 (k : Int), .int .i64 (e : Int)]) ∧ Owns ci 3 w.heap.size w' (.slice B j d) j (asInts l) ∧ Below w.heap.size w w'

end Wire
end Go.Proofs.Ytndcflchdecofaa
