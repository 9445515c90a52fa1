/-
  CrcLinear's PLAIN PARTS: three texts bit by bit; min of three; the pieces that Sum is handed, in whatever world.
-/
import Derived.Test.YtbojfiabgjaaaaaCrcBursts
import Derived.Deep.RegionHeld3
import Derived.Deep.AppendLies
import Derived.WalkSpells
import Derived.StillTactics
namespace Go.Proofs.Ytbojfiabgjaaaaa
open Go.ChangeShapes Go.WideShapes Go.ChangeAt Go.RowKit
namespace Crc

/-- Three texts put together bit by bit, as long as the shortest. -/
def zip3 (a b c : List (BitVec 8)) : List (BitVec 8) := List.zipWith (· ^^^ ·) (List.zipWith (· ^^^ ·) a b) c
theorem zip3_len (a b c : List (BitVec 8)) : (zip3 a b c).length = min (min a.length b.length) c.length := by simp [zip3]
theorem zip3_get {a b c : List (BitVec 8)} {k : Nat} (ha : k < a.length) (hb : k < b.length) (hc : k < c.length) : (zip3 a b c)[k]? = some (a[k] ^^^ b[k] ^^^ c[k]) := by
  unfold zip3
  rw [List.getElem?_zipWith, List.getElem?_zipWith, List.getElem?_eq_getElem ha, List.getElem?_eq_getElem hb, List.getElem?_eq_getElem hc]
theorem zip3_take {a b c : List (BitVec 8)} {k : Nat} (ha : k < a.length) (hb : k < b.length) (hc : k < c.length) : (zip3 a b c).take (k + 1) = (zip3 a b c).take k ++ [a[k] ^^^ b[k] ^^^ c[k]] := by
  have h := zip3_get ha hb hc
  have hl : k < (zip3 a b c).length := by rw [zip3_len]; omega
  rw [List.take_succ_eq_append_getElem hl]
  rw [List.getElem?_eq_getElem hl] at h
  injection h with h
  rw [h]
theorem zip3_take' {a b c : List (BitVec 8)} {k : Nat} {x y z : BitVec 8} (ha : a[k]? = some x) (hb : b[k]? = some y) (hc : c[k]? = some z) : (zip3 a b c).take (k + 1) = (zip3 a b c).take k ++ [x ^^^ y ^^^ z] := by
  obtain ⟨h1, rfl⟩ := List.getElem?_eq_some_iff.1 ha
  obtain ⟨h2, rfl⟩ := List.getElem?_eq_some_iff.1 hb
  obtain ⟨h3, rfl⟩ := List.getElem?_eq_some_iff.1 hc
  exact zip3_take h1 h2 h3
theorem get_some {l : List (BitVec 8)} {k : Nat} (h : k < l.length) : ∃ x, l[k]? = some x := ⟨_, List.getElem?_eq_getElem h⟩
theorem not3 (x y z : BitVec 32) : ~~~ (x ^^^ y ^^^ z) = ~~~ x ^^^ ~~~ y ^^^ ~~~ z := by
  apply BitVec.eq_of_getLsbD_eq
  intro i hi
  simp only [BitVec.getLsbD_xor, BitVec.getLsbD_not, hi]
  cases x.getLsbD i <;> cases y.getLsbD i <;> cases z.getLsbD i <;> rfl
theorem goes_zip3 (a b c : List (BitVec 8)) (m : Nat) (hm : m = min (min a.length b.length) c.length) :
    goes 0#32 (zip3 a b c) = goes 0#32 (a.take m) ^^^ goes 0#32 (b.take m) ^^^ goes 0#32 (c.take m) := by
  have e : zip3 a b c = zip3 (a.take m) (b.take m) (c.take m) := by
    unfold zip3
    apply List.ext_getElem?
    intro i
    simp only [List.getElem?_zipWith, List.getElem?_take]
    by_cases hi : i < m
    · simp [hi]
    · simp only [hi, if_false]
      have : i ≥ a.length ∨ i ≥ b.length ∨ i ≥ c.length := by omega
      rcases this with h | h | h
      · simp [List.getElem?_eq_none h]
      · rw [List.getElem?_eq_none h]; cases a[i]? <;> simp
      · rw [List.getElem?_eq_none h]; cases a[i]? <;> cases b[i]? <;> simp
  rw [e]
  have l1 : (a.take m).length = m := by simp; omega
  have l2 : (b.take m).length = m := by simp; omega
  have l3 : (c.take m).length = m := by simp; omega
  generalize a.take m = a' at *
  generalize b.take m = b' at *
  generalize c.take m = c' at *
  unfold goes zip3
  have h1 := run_xor a' b' (~~~ 0#32) (~~~ 0#32) (by omega)
  have h2 := run_xor (List.zipWith (· ^^^ ·) a' b') c' (~~~ 0#32 ^^^ ~~~ 0#32) (~~~ 0#32) (by simp; omega)
  rw [h1] at h2
  rw [show (~~~ 0#32 ^^^ ~~~ 0#32) ^^^ ~~~ 0#32 = ~~~ 0#32 by decide] at h2
  rw [h2, not3]
theorem LowBytes.low {w : World} {B : Nat} {A : Option Addr} {n : Nat} {l : List (BitVec 8)} (h : LowBytes w B A n l) (h0 : 0 < n) :
    ∃ b o, A = some ⟨b, o, none⟩ ∧ b < B ∧ ∀ i x, l[i]? = some x → w.cell? ⟨b, o + i, none⟩ = some (.int .u8 (u x)) := by
  obtain ⟨b, o, e, hb, hc⟩ := (h.at_ (Nat.le_refl _)).at_ h0
  refine ⟨b, o, e, ?_, hc⟩
  rcases Nat.lt_or_ge b B with h2 | h2
  · exact h2
  · obtain ⟨b', o', e', hx', -⟩ := (h.at_ h2).at_ h0
    rw [e] at e'
    injection e' with e'
    injection e' with e'
    exact absurd e'.symm hx'
theorem Bytes.cut {w : World} {g : Nat} {A : Option Addr} {n : Nat} {l : List (BitVec 8)} (h : Bytes w g A n l) {m : Nat} (hm : m ≤ n) : Bytes w g A m (l.take m) := by
  refine ⟨by have := h.1; simp; omega, by have := h.2.1; omega, fun h0 => ?_⟩
  obtain ⟨x, e, hx, hc⟩ := h.2.2 (by omega)
  refine ⟨x, e, hx, fun i b hb => hc i b ?_⟩
  rw [List.getElem?_take] at hb
  split at hb
  · exact hb
  · cases hb

theorem run_min3 (ts : Array TypeId) (t : TypeId) (x y z : Nat) (w : World) : (Builtin.min_ ts t #[.int .i64 (x : Int), .int .i64 (y : Int), .int .i64 (z : Int)]).run Try.prog w = .ok (.int .i64 ((min (min x y) z : Nat) : Int)) w := by
  have e : (Builtin.min_ ts t #[.int .i64 (x : Int), .int .i64 (y : Int), .int .i64 (z : Int)]).run Try.prog w = .ok (.int .i64 (if (z : Int) < (if (y : Int) < x then (y : Int) else x) then (z : Int) else (if (y : Int) < x then (y : Int) else x))) w := by
    simp [Builtin.min_, Builtin.min2, List.foldlM]
  rw [e]
  congr 2
  split <;> split at * <;> omega

theorem run_head (A : Option Addr) (n c k : Nat) (h : k ≤ c) (w : World) : (Instr.slice 24 (.slice A n c) none (some (.int .i64 (k : Int))) none).run Try.prog w = .ok (.slice A k c) w := by
  obtain ⟨i, hi, hz0, hz1, hz2⟩ := info_parts info_byte
  have e : (if c = 0 then A else A.map (·.add 0)) = A := by
    split
    · rfl
    · cases A with
      | none => rfl
      | some x => simp [Addr.add]
  have h1 : (k : Int) ≤ (c : Int) := by omega
  have h0 : (0 : Int) ≤ (k : Int) := by omega
  simp [Instr.slice, Instr.sliceBounds, run_sliceBound, h0, h1, run_underlying Try.underlying24, sizeOf, typeInfo, hi, e]

/-- Sum of a piece that lies anywhere outside the table's block, in whatever world. -/
theorem call_any {w : World} {g : Nat} {q : Int} {made : Bool} {A : Option Addr} {l : List (BitVec 8)} (ht : Tab w g q made) (h0 : 0 ≤ q) (h1 : q ≤ 4611686018427387904) (hp : Pieces w g A 1 [l]) :
    Calls Try.prog 11 #[.pointer (some ⟨g, 0, none⟩), .slice A 1 1] w fun e w' => e = .returned (.int .u32 (v (goes 0#32 l))) ∧ St w g (q + 1) true w' :=
  (sum_any g q made A 1 1 [l] w ht h0 h1 hp).mono fun _ _ ⟨he, hm⟩ => ⟨he, hm.tab, hm.keep⟩
theorem Tab.drew {w : World} {g : Nat} {q : Int} {made : Bool} (h : Tab w g q made) : Tab w.drew g q made := ⟨h.blk⟩
theorem Pieces.alloc {w : World} {g : Nat} {A : Option Addr} {n : Nat} {ls : List (List (BitVec 8))} (h : Pieces w g A n ls) (o : Obj) : Pieces (w.alloc o) g A n ls := h.keep ((Keep.refl g w).alloc o)
theorem Pieces.drew {w : World} {g : Nat} {A : Option Addr} {n : Nat} {ls : List (List (BitVec 8))} (h : Pieces w g A n ls) : Pieces w.drew g A n ls := h.keep (Keep.refl g w).drew
theorem pieces_at {w : World} {g b : Nat} {A : Option Addr} {n c : Nat} {l : List (BitVec 8)} (hb : b = w.heap.size) (hg : g < w.heap.size) (h : Bytes w g A n l) : Pieces (w.alloc (.cells #[.slice A n c] 24)) g (some ⟨b, 0, none⟩) 1 [l] := by
  subst hb
  exact pieces_one _ h (Nat.ne_of_lt hg)

theorem Tab.hop {b c : World} {g : Nat} {q : Int} {made : Bool} (k : Hid (St b g q made c)) : Tab c g q made := k.out.tab
theorem Keep.hop {a b c : World} {g : Nat} {q : Int} {made : Bool} (k : Hid (St b g q made c)) (h : Keep g a b) : Keep g a c := h.trans k.out.keep
theorem Pieces.hop {b c : World} {g : Nat} {q : Int} {made : Bool} {A : Option Addr} {n : Nat} {ls : List (List (BitVec 8))} (k : Hid (St b g q made c)) (h : Pieces b g A n ls) : Pieces c g A n ls := h.keep k.out.keep
theorem Bytes.hop {a w : World} {g : Nat} {A : Option Addr} {n : Nat} {l : List (BitVec 8)} (h : Hid (Bytes a g A n l)) (k : Keep g a w) : Bytes w g A n l := h.out.keep k
theorem lt_hop {b c : World} {g : Nat} {q : Int} {made : Bool} (k : Hid (St b g q made c)) : g < c.heap.size := k.out.tab.lt
theorem lt_alloc {g : Nat} {w : World} {o : Obj} (h : g < w.heap.size) : g < (w.alloc o).heap.size := by simp; omega
theorem lt_drew {g : Nat} {w : World} (h : g < w.heap.size) : g < w.drew.heap.size := h

end Crc
end Go.Proofs.Ytbojfiabgjaaaaa
