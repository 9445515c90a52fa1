/-
  WHAT THE LAWS SHARE: few of one list, of two; blocks compared; what the laws say, in plain.
-/
import Derived.Test.YthahemffeagifaaExtLive
import Derived.Test.YthahemffeagifaaExtSame
import Derived.Test.YthahemffeagifaaExtGap
import Derived.Laws.StructEq
namespace Go.Proofs.Ythahemffeagifaa
open Go.RowKit Mem
namespace Ext

theorem few1 {w : World} (A : Option Addr) (n c : Nat) (l : List Ex) : Calls Try.prog 9 #[.slice (some ⟨w.heap.size, 0, none⟩) 1 1] (w.alloc (.cells #[.slice A n c] 22)) fun e w' => e = .returned (.bool (decide (n ≤ 300))) ∧ w' = w.alloc (.cells #[.slice A n c] 22) := by
  have h : Row Piece.val (w.alloc (.cells #[.slice A n c] 22)) (some ⟨w.heap.size, 0, none⟩) 1 1 [⟨A, n, c, l⟩] := by
    have hc := Cells.new w #[.slice A n c] 22
    refine ⟨rfl, by omega, by omega, fun _ => ⟨_, _, rfl, Cells.lt hc, fun i x hi => ?_⟩⟩
    rw [Nat.zero_add, Cells.cell hc]
    match i, hi with
    | 0, hi => simp at hi; subst hi; rfl
  have := few_any h
  simpa using this
theorem few2 {w : World} (A B : Option Addr) (n c m d : Nat) (l u : List Ex) : Calls Try.prog 9 #[.slice (some ⟨w.heap.size, 0, none⟩) 2 2] (w.alloc (.cells #[.slice A n c, .slice B m d] 22)) fun e w' => e = .returned (.bool (decide (n ≤ 300) && decide (m ≤ 300))) ∧ w' = w.alloc (.cells #[.slice A n c, .slice B m d] 22) := by
  have h : Row Piece.val (w.alloc (.cells #[.slice A n c, .slice B m d] 22)) (some ⟨w.heap.size, 0, none⟩) 2 2 [⟨A, n, c, l⟩, ⟨B, m, d, u⟩] := by
    have hc := Cells.new w #[.slice A n c, .slice B m d] 22
    refine ⟨rfl, by omega, by omega, fun _ => ⟨_, _, rfl, Cells.lt hc, fun i x hi => ?_⟩⟩
    rw [Nat.zero_add, Cells.cell hc]
    match i, hi with
    | 0, hi => simp at hi; subst hi; rfl
    | 1, hi => simp at hi; subst hi; rfl
  have := few_any h
  simpa using this
theorem blk_guard : Try.prog.eqGuardType Try.prog.depth 34 = false := by kernel_rfl
theorem blk_equal (b : Bool) (v z o : Int) (w : World) : (Op.equalIn 10000 34 (.agg #[.bool b, .int .i64 v, .int .i64 z, .int .i64 o]) (.agg #[.bool b, .int .i64 v, .int .i64 z, .int .i64 o])).run Try.prog w = .ok true w := by
  have u3 := Try.underlying3
  have a3 := Try.isAgg3
  have z3 := Try.sizeOf3
  have u4 := Try.underlying4
  have a4 := Try.isAgg4
  have z4 := Try.sizeOf4
  have hS : Try.prog.underlying 34 = some (.struct (Try.prog.fieldsOf 34)) := by kernel_rfl
  have hp : Try.prog.stoodInHeld 34 = false := by kernel_rfl
  rw [show (10000 : Nat) = 9999 + 1 from rfl, run_equalIn_agg w 9999 34 _ _ hS hp]
  simp only [Program.fieldsOf, Try.underlying34]
  go_simp
  try simp
theorem blk_eql (b : Bool) (v z o : Int) (w : World) : (binOp .eql 34 (.agg #[.bool b, .int .i64 v, .int .i64 z, .int .i64 o]) (.agg #[.bool b, .int .i64 v, .int .i64 z, .int .i64 o])).run Try.prog w = .ok (.bool true) w := by
  rw [run_eql_struct, blk_equal]; rfl
theorem blk_neq (b : Bool) (v z o : Int) (w : World) : (binOp .neq 34 (.agg #[.bool b, .int .i64 v, .int .i64 z, .int .i64 o]) (.agg #[.bool b, .int .i64 v, .int .i64 z, .int .i64 o])).run Try.prog w = .ok (.bool false) w := by
  rw [run_neq_struct, blk_equal]; rfl
theorem run_is (b : Bool) (v z o : Int) (w : World) : (Instr.field 34 (.agg #[.bool b, .int .i64 v, .int .i64 z, .int .i64 o]) 0).run Try.prog w = .ok (.bool b) w := by
  have u := Try.underlying34
  have u4 := Try.underlying4
  have a4 := Try.isAgg4
  have z4 := Try.sizeOf4
  unfold Instr.field
  go_simp
  simp [asAgg]
theorem bv_form (s : Option (Int × Int × Int)) : ∃ b v z o, bv s = .agg #[.bool b, .int .i64 v, .int .i64 z, .int .i64 o] := by
  rcases s with _ | ⟨v, z, o⟩
  · exact ⟨_, _, _, _, rfl⟩
  · exact ⟨_, _, _, _, rfl⟩
theorem bv_eql (s : Option (Int × Int × Int)) (w : World) : (binOp .eql 34 (bv s) (bv s)).run Try.prog w = .ok (.bool true) w := by
  rcases s with _ | ⟨v, z, o⟩
  · show (binOp .eql _ (.agg _) (.agg _)).run _ _ = _
    rw [run_eql_struct, blk_equal]; rfl
  · show (binOp .eql _ (.agg _) (.agg _)).run _ _ = _
    rw [run_eql_struct, blk_equal]; rfl
theorem bv_neq (s : Option (Int × Int × Int)) (w : World) : (binOp .neq 34 (bv s) (bv s)).run Try.prog w = .ok (.bool false) w := by
  rcases s with _ | ⟨v, z, o⟩
  · show (binOp .neq _ (.agg _) (.agg _)).run _ _ = _
    rw [run_neq_struct, blk_equal]; rfl
  · show (binOp .neq _ (.agg _) (.agg _)).run _ _ = _
    rw [run_neq_struct, blk_equal]; rfl
/-! ### Plain -/
theorem ok_one {e : Ex} (h : MayX e) : Ok 0 [e] := ⟨h, h.1, trivial⟩
theorem tell_one (e : Ex) (k : Int) : tell [e] k = if has e k then some (blk e k) else none := rfl
theorem put1_tell {l : List Ex} {e : Ex} (hl : Ok 0 l) (he : MayX e) (k : Int) : tell (putE l [e]) k = if has e k then some (blk e k) else tell l k := by
  rw [put_tell hl (ok_one he), tell_one]
  split <;> rfl
theorem put1_len {l : List Ex} {e : Ex} (hl : Ok 0 l) (he : MayX e) : (putE l [e]).length ≤ l.length + 2 := put_len hl (ok_one he)
theorem mem_one {e : Ex} (he : MayX e) : ∀ x ∈ [e], MayX x := fun x hx => by
  obtain rfl := List.mem_singleton.1 hx
  exact he
theorem put1_ok {l : List Ex} {e : Ex} (hl : Ok 0 l) (he : MayX e) : Ok 0 (putE l [e]) := put_ok hl (mem_one he)
/-- One block's extents are one, or none. -/
theorem one_clip {l : List Ex} {k : Int} (hl : Ok 0 l) : clips k (k + 1) l = [] ∨ ∃ x, clips k (k + 1) l = [x] ∧ x.lba = k ∧ x.en = k + 1 := by
  have hok : Ok k (clips k (k + 1) l) := ok_clips hl (by omega)
  have hen := ends_clips k (k + 1) l
  rcases e : clips k (k + 1) l with _ | ⟨x, r⟩
  · exact .inl rfl
  · rw [e] at hok hen
    have h1 := en_lt hok.1
    have h2 := hok.2.1
    have h3 := hen x List.mem_cons_self
    rcases r with _ | ⟨y, r⟩
    · exact .inr ⟨x, rfl, by omega, by omega⟩
    · have h4 := hen y (by simp)
      have h5 := hok.2.2.2.1
      have h6 := en_lt hok.2.2.1
      omega
theorem tell_none_at {l : List Ex} (hl : Ok 0 l) {k : Int} (h : tell l k = none) : atP l k = none := by
  have := at_tell hl k
  rw [h] at this
  cases hh : atP l k with
  | none => rfl
  | some x => rw [hh] at this; cases this
theorem gaps_none (l : List Ex) (k : Int) (h : clips k (k + 1) l = []) : (gapsP l k 1).length = 1 := by
  unfold gapsP
  rw [h, gapF]
  unfold gap
  rw [decide_eq_true (by omega)]; rfl
theorem gaps_one (l : List Ex) (k : Int) (x : Ex) (h : clips k (k + 1) l = [x]) (h1 : x.lba = k) (h2 : x.en = k + 1) : gapsP l k 1 = [] := by
  unfold gapsP
  rw [h, gapF, gapF, h1, h2]
  unfold gap
  rw [decide_eq_false (by omega), decide_eq_false (by omega)]; rfl
end Ext
end Go.Proofs.Ythahemffeagifaa
