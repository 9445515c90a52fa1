/-
  wire: HOW NUMBERS ARE WRITTEN (put, Put, Nums, Vec) AND MEASURED (length).
-/
import Derived.Test.YtndcflchdecofaaMem
import Derived.Test.YtndcflchdecofaaWireMath
import Derived.LoopTactic
import Derived.Deep.LoopGhost
namespace Go.Proofs.Ytndcflchdecofaa
open Go.RowKit Mem
namespace Wire

/-- The byte at the beginning of a longer number. -/
theorem or128 (n : Nat) : bits .or .u8 ((n : Int) % 256) 128 = u (BitVec.ofNat 8 (n % 128 + 128)) := by
  have h := u8_or_nat (n % 256) 128 (by omega) (by omega)
  have e : (((n % 256 : Nat) : Int)) = (n : Int) % 256 := by omega
  rw [e] at h
  have h : bits .or .u8 ((n : Int) % 256) 128 = ((n % 256 ||| 128 : Nat) : Int) := h
  rw [h]
  have h2 : n % 256 ||| 128 = n % 128 + 128 := by
    by_cases h3 : n % 256 < 128
    · have := nat_join 7 128 (n % 256) (by decide) (by simpa using h3)
      rw [Nat.or_comm, this]; omega
    · have h4 : n % 256 = 128 + n % 128 := by omega
      have := nat_join 7 128 (n % 128) (by decide) (by have : n % 128 < 128 := Nat.mod_lt _ (by omega); simpa using this)
      rw [h4, ← this, Nat.or_comm, ← Nat.or_assoc, Nat.or_self, this]; omega
  rw [h2]
  unfold u
  rw [BitVec.toNat_ofNat]
  omega
theorem low256 (n : Nat) (h : n < 256) : (n : Int) = u (BitVec.ofNat 8 n) := by
  unfold u
  rw [BitVec.toNat_ofNat]
  omega

/-- What a call gave: a row of the call's own. -/
def Gave {α : Type} (f : α → Value) (e : TypeId) (base : Nat) (w : World) (l : List α) (en : Ending) (w' : World) : Prop :=
  ∃ A k c, en = .returned (.slice A k c) ∧ Owns f e base w' (.slice A k c) k l ∧ Below base w w'

/-- A one-cell row that was just built. -/
theorem row_one {α : Type} (f : α → Value) (w : World) (x : α) (t : TypeId) (v : Value) (hv : v = f x) : Row f (w.alloc (.cells #[v] t)) (some ⟨w.heap.size, 0, none⟩) 1 1 [x] := by
  subst hv
  refine ⟨rfl, by omega, by omega, fun _ => ⟨_, _, rfl, by simp, fun i y hi => ?_⟩⟩
  have : i = 0 := by
    rcases i with _ | i
    · rfl
    · simp at hi
  subst this
  obtain rfl : x = y := by simpa using hi
  have h := heap_alloc_new w (.cells #[f x] t)
  simp only [World.cell?, h]
  rfl

theorem scan_at (l : List B8) (i : Nat) (x : B8) (h : l[i]? = some x) : scan i (l.drop i) = if (i = 9 ∧ 1 < x.toNat) ∨ (0 < i ∧ x.toNat = 0) then (0, 21) else if x.toNat < 128 then (i + 1, 0) else scan (i + 1) (l.drop (i + 1)) := by
  obtain ⟨hi, hx⟩ := List.getElem?_eq_some_iff.1 h
  rw [List.drop_eq_getElem_cons hi, hx, scan]

theorem leaf1 {l : List B8} {i : Nat} {x : B8} {r : Nat × Nat} (h : scan i (l.drop i) = if (i = 9 ∧ 1 < x.toNat) ∨ (0 < i ∧ x.toNat = 0) then (0, 21) else if x.toNat < 128 then (i + 1, 0) else scan (i + 1) (l.drop (i + 1))) (hr : scan i (l.drop i) = r)
    (hc : (i = 9 ∧ 1 < x.toNat) ∨ (0 < i ∧ x.toNat = 0)) : r = (0, 21) := by rw [← hr, h, if_pos hc]
theorem leaf2 {l : List B8} {i : Nat} {x : B8} {r : Nat × Nat} (h : scan i (l.drop i) = if (i = 9 ∧ 1 < x.toNat) ∨ (0 < i ∧ x.toNat = 0) then (0, 21) else if x.toNat < 128 then (i + 1, 0) else scan (i + 1) (l.drop (i + 1))) (hr : scan i (l.drop i) = r)
    (hc : ¬ ((i = 9 ∧ 1 < x.toNat) ∨ (0 < i ∧ x.toNat = 0))) (hx : x.toNat < 128) : r = (i + 1, 0) := by rw [← hr, h, if_neg hc, if_pos hx]
theorem leaf3 {l : List B8} {i : Nat} {x : B8} {r : Nat × Nat} (h : scan i (l.drop i) = if (i = 9 ∧ 1 < x.toNat) ∨ (0 < i ∧ x.toNat = 0) then (0, 21) else if x.toNat < 128 then (i + 1, 0) else scan (i + 1) (l.drop (i + 1))) (hr : scan i (l.drop i) = r)
    (hc : ¬ ((i = 9 ∧ 1 < x.toNat) ∨ (0 < i ∧ x.toNat = 0))) (hx : ¬ x.toNat < 128) : scan (i + 1) (l.drop (i + 1)) = r := by rw [← hr, h, if_neg hc, if_neg hx]
/-- What length tells. -/
def Told (l : List B8) (w : World) (e : Ending) (w' : World) : Prop := e = .returned (.tuple #[.int .i64 ((scan 0 l).1 : Int), .int .i64 ((scan 0 l).2 : Int)]) ∧ w = w'
theorem told_of {l : List B8} {w : World} {a b : Nat} {x y : Int} (h : scan 0 l = (a, b)) (hx : x = a) (hy : y = b) : Told l w (.returned (.tuple #[.int .i64 x, .int .i64 y])) w := by
  unfold Told; rw [h, hx, hy]; exact ⟨rfl, rfl⟩


end Wire
end Go.Proofs.Ytndcflchdecofaa
