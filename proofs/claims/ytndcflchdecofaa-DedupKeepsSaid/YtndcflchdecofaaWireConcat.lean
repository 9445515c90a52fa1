/-
  slices.Grow OF nil, AND slices.Concat, OVER BYTES.
-/
import Derived.Test.YtndcflchdecofaaWireNums
import Derived.Lib.AppendZeros
namespace Go.Proofs.Ytndcflchdecofaa
open Go.RowKit Mem
namespace Wire

theorem head0 (A : Option Addr) (n c : Nat) (w : World) : (Instr.slice 31 (.slice A n c) none (some (.int .i64 0)) none).run Try.prog w = .ok (.slice A 0 c) w := run_head A n c 0 (by omega) w

/-- A piece: where it lies, how long it is, its capacity, what it reads as. -/
structure Piece where
  A : Option Addr
  n : Nat
  c : Nat
  l : List (BitVec 8)
def Piece.val (p : Piece) : Value := .slice p.A p.n p.c
theorem Piece.one (p : Piece) : (Piece.val p).oneCell' = true := rfl
def total (ps : List Piece) : Nat := (ps.map Piece.n).sum
def joined (ps : List Piece) : List (BitVec 8) := ps.flatMap Piece.l
theorem total_snoc (ps : List Piece) (p : Piece) : total (ps ++ [p]) = total ps + p.n := by simp [total]
theorem joined_snoc (ps : List Piece) (p : Piece) : joined (ps ++ [p]) = joined ps ++ p.l := by simp [joined]
theorem total_take_le (ps : List Piece) (k : Nat) : total (ps.take k) ≤ total ps := by
  conv => rhs; rw [← List.take_append_drop k ps]
  unfold total
  rw [List.map_append, List.sum_append]
  omega

end Wire
end Go.Proofs.Ytndcflchdecofaa
