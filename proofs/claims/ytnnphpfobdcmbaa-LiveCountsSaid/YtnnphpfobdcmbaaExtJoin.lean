/-
  WALKS: extents joined.
-/
import Derived.Test.YtnnphpfobdcmbaaExtRef
import Derived.Test.YtnnphpfobdcmbaaRegK
import Derived.Laws.MakeOwn
namespace Go.Proofs.Ytnnphpfobdcmbaa
open Go.RowKit Mem
namespace Ext

theorem run_make_ext (w : World) (n : Nat) (hn : n ≤ 10000000) : (Instr.makeSlice 22 (.int .i64 0) (.int .i64 (n : Int))).run Try.prog w = .ok (.slice (some ⟨w.heap.size, 0, none⟩) 0 n) (w.alloc (.cells (madeCells #[.int .i64 0, .int .i64 0, .int .i64 0, .int .i64 0, .int .i64 0] (n * 5)) 32)) := by
  obtain ⟨i, hi, hz0, hz1, hz2⟩ := info_parts info_ext
  have h := run_make (P := Try.prog) w 22 32 i _ Try.underlying22 hi hz0 .i64 .i64 0 (n : Int) (by omega) (by omega) (by rw [hz2]; omega) (by omega)
  rw [hz1] at h
  exact h
theorem made_own (w : World) (n : Nat) (hn : n ≤ 10000000) : OwnsL w.heap.size (w.alloc (.cells (madeCells #[.int .i64 0, .int .i64 0, .int .i64 0, .int .i64 0, .int .i64 0] (n * 5)) 32)) (.slice (some ⟨w.heap.size, 0, none⟩) 0 n) 0 [] :=
  ⟨World.ownsRow_made w _ n (Nat.le_refl _) (by unfold maxLen; omega) (size_madeCells _ _), rfl⟩
theorem snoc_cases (l : List Ex) : l = [] ∨ ∃ a z, l = a ++ [z] := by
  rcases List.eq_nil_or_concat l with h | ⟨a, z, h⟩
  · exact .inl h
  · exact .inr ⟨a, z, by simpa using h⟩
theorem joinF_step {l : List Ex} {k : Nat} {x : Ex} (hx : l[k]? = some x) : joinF [] (l.take (k + 1)) = pushE (joinF [] (l.take k)) x := by
  rw [take_snoc hx, joinF_app]; rfl
theorem joinF_ok {l : List Ex} (h : Ok 0 l) (k : Nat) : Ok 0 (joinF [] (l.take k)) := by
  rw [joinF_eq]
  rw [← List.take_append_drop k l] at h
  exact join_ok (ok_split h).1

end Ext
end Go.Proofs.Ytnnphpfobdcmbaa
