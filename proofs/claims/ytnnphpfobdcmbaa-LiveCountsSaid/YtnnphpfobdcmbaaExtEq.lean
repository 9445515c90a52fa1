/-
  EXTENTS COMPARED. (Written by gen_extcopy.py.)
-/
import Derived.Test.YtnnphpfobdcmbaaExtMem
import Derived.Laws.StructEq
namespace Go.Proofs.Ytnnphpfobdcmbaa
open Go.RowKit Mem
namespace Ext
theorem ext_guard : Try.prog.eqGuardType Try.prog.depth 32 = false := by kernel_rfl
theorem ext_equal (x : Ex) (w : World) : (Op.equalIn 10000 32 (xv x) (xv x)).run Try.prog w = .ok true w := by
  have u3 := Try.underlying3
  have a3 := Try.isAgg3
  have z3 := Try.sizeOf3
  have hS : Try.prog.underlying 32 = some (.struct (Try.prog.fieldsOf 32)) := by kernel_rfl
  have hp : Try.prog.stoodInHeld 32 = false := by kernel_rfl
  rw [show (10000 : Nat) = 9999 + 1 from rfl, run_equalIn_agg w 9999 32 _ _ hS hp]
  simp only [Program.fieldsOf, Try.underlying32]
  go_simp
  try simp
theorem ext_eql (x : Ex) (w : World) : (binOp .eql 32 (xv x) (xv x)).run Try.prog w = .ok (.bool true) w := by
  rw [run_eql_struct, ext_equal]; rfl
theorem ext_neq (x : Ex) (w : World) : (binOp .neq 32 (xv x) (xv x)).run Try.prog w = .ok (.bool false) w := by
  rw [run_neq_struct, ext_equal]; rfl

end Ext
end Go.Proofs.Ytnnphpfobdcmbaa
