/-
  CrcLinear's LAST STATEMENT, A REGION THAT DRAWS ITS ORDER, BY AN INVARIANT: what each slot holds once its operation has come up, whatever the order.
-/
import Derived.Test.YtbojfiabgjaaaaaCrcLinMath
import Derived.Test.YtbojfiabgjaaaaaRegionInv
namespace Go.Proofs.Ytbojfiabgjaaaaa
open Go.ChangeShapes Go.WideShapes Go.ChangeAt Go.RowKit
namespace Crc

/-- What is known ahead of the statement. -/
structure Prm where
  g : Nat
  k : Nat
  X : Value
  Y1 : Value
  Y2 : Value
  Y3 : Value
  Z1 : Value
  Z2 : Value
  Z3 : Value
  L0 : List (BitVec 8)
  L1 : List (BitVec 8)
  L2 : List (BitVec 8)
  L3 : List (BitVec 8)
def sum0 (l : List (BitVec 8)) : BitVec 32 := goes 0#32 l
def Piece (g : Nat) (l : List (BitVec 8)) (x : Value) (w : World) : Prop := ∃ b, x = .slice (some ⟨b, 0, none⟩) 1 1 ∧ Pieces w g (some ⟨b, 0, none⟩) 1 [l]
/-- What operation i has left in its slot. -/
def Val (p : Prm) (x : Value) (w : World) : Nat → Prop
  | 0 => x = .bool true
  | 1 => x = .bool true
  | 2 => x = .pointer (some ⟨p.g, 0, none⟩)
  | 3 => x = p.X
  | 4 => Piece p.g p.L0 x w
  | 5 => x = .int .u32 (v (sum0 p.L0))
  | 6 => x = .pointer (some ⟨p.g, 0, none⟩)
  | 7 => x = p.Y1
  | 8 => x = .int .i64 p.k
  | 9 => x = p.Z1
  | 10 => Piece p.g p.L1 x w
  | 11 => x = .int .u32 (v (sum0 p.L1))
  | 12 => x = .pointer (some ⟨p.g, 0, none⟩)
  | 13 => x = p.Y2
  | 14 => x = .int .i64 p.k
  | 15 => x = p.Z2
  | 16 => Piece p.g p.L2 x w
  | 17 => x = .int .u32 (v (sum0 p.L2))
  | 18 => x = .int .u32 (v (sum0 p.L1 ^^^ sum0 p.L2))
  | 19 => x = .pointer (some ⟨p.g, 0, none⟩)
  | 20 => x = p.Y3
  | 21 => x = .int .i64 p.k
  | 22 => x = p.Z3
  | 23 => Piece p.g p.L3 x w
  | 24 => x = .int .u32 (v (sum0 p.L3))
  | 25 => x = .int .u32 (v (sum0 p.L1 ^^^ sum0 p.L2 ^^^ sum0 p.L3))
  | 26 => x = .bool true
  | 27 => x = .bool true
  | 28 => x = .bool true
  | _ => True
def slot (i : Nat) : Nat := if i = 28 then 6 else 46 + i
theorem Val.keep {p : Prm} {x : Value} {w w' : World} (hk : Keep p.g w w') : ∀ {i : Nat}, Val p x w i → Val p x w' i := by
  intro i h
  unfold Val at *
  split at h <;> first | exact h | (obtain ⟨b, e, hp⟩ := h; exact ⟨b, e, hp.keep hk⟩)

/-- The invariant: w0 is the world ahead of the statement. -/
structure J (p : Prm) (w0 : World) (listed : Array Bool) (a : Act) (w : World) : Prop where
  size : a.tmps.size = 74
  defers : a.defers = []
  t0 : a.tmps.getD 0 undef = p.Y1
  t1 : a.tmps.getD 1 undef = p.Y2
  t2 : a.tmps.getD 2 undef = p.Y3
  t7 : a.tmps.getD 7 undef = .bool true
  t8 : a.tmps.getD 8 undef = .int .i64 p.k
  t9 : a.tmps.getD 9 undef = p.X
  t11 : a.tmps.getD 11 undef = .pointer (some ⟨p.g, 0, none⟩)
  vals : ∀ i, i < 29 → listed.getD i false = true → Val p (a.tmps.getD (slot i) undef) w i
  keep : Keep p.g w0 w
  tab : ∃ (q : Int) (made : Bool), Tab w p.g q made ∧ 0 ≤ q ∧ q + (Inv.left listed : Int) ≤ 1000

theorem getD_set (T : Array Value) (s j : Nat) (x : Value) (hs : s < T.size) : (T.setIfInBounds s x).getD j undef = if j = s then x else T.getD j undef := by
  rw [Array.getD_eq_getD_getElem?, Array.getD_eq_getD_getElem?, Array.getElem?_setIfInBounds]
  by_cases h : s = j
  · subst h; simp [hs]
  · rw [if_neg h, if_neg (fun e => h e.symm)]

/-- Operation i has come up. -/
theorem J.next {p : Prm} {w0 w w' : World} {listed : Array Bool} {a : Act} (h : J p w0 listed a w) {i : Nat} (hi : i < 29) (hun : listed.getD i true = false) {x : Value} (hv : Val p x w' i) (hk : Keep p.g w w')
    (ht : ∃ (q : Int) (made : Bool), Tab w' p.g q made ∧ 0 ≤ q ∧ q + (Inv.left (listed.setIfInBounds i true) : Int) ≤ 1000) : J p w0 (listed.setIfInBounds i true) (a.put (some (slot i)) x) w' := by
  have hsl : slot i < a.tmps.size := by rw [h.size]; unfold slot; split <;> omega
  have other : ∀ j, j ≠ slot i → ((a.put (some (slot i)) x).tmps).getD j undef = a.tmps.getD j undef := fun j hj => by
    show (a.tmps.setIfInBounds (slot i) x).getD j undef = _
    rw [getD_set _ _ _ _ hsl, if_neg hj]
  have ne : ∀ j, j < 46 → j ≠ 6 → j ≠ slot i := fun j h1 h2 e => by unfold slot at e; split at e <;> omega
  refine ⟨?_, h.defers, (other 0 (ne 0 (by omega) (by omega))).trans h.t0, (other 1 (ne 1 (by omega) (by omega))).trans h.t1, (other 2 (ne 2 (by omega) (by omega))).trans h.t2, (other 7 (ne 7 (by omega) (by omega))).trans h.t7, (other 8 (ne 8 (by omega) (by omega))).trans h.t8, (other 9 (ne 9 (by omega) (by omega))).trans h.t9, (other 11 (ne 11 (by omega) (by omega))).trans h.t11, ?_, h.keep.trans hk, ht⟩
  · show (a.tmps.setIfInBounds (slot i) x).size = 74
    rw [Array.size_setIfInBounds]; exact h.size
  · intro j hj hl
    by_cases hij : j = i
    · subst hij
      show Val p ((a.tmps.setIfInBounds (slot j) x).getD (slot j) undef) w' j
      rw [getD_set _ _ _ _ hsl, if_pos rfl]
      exact hv
    · have hs : slot j ≠ slot i := fun e => by unfold slot at e; split at e <;> split at e <;> omega
      rw [other _ hs]
      refine Val.keep hk (h.vals j hj ?_)
      have : (listed.setIfInBounds i true).getD j false = listed.getD j false := by
        rw [Array.getD_eq_getD_getElem?, Array.getD_eq_getD_getElem?, Array.getElem?_setIfInBounds, if_neg (fun e => hij e.symm)]
      rw [← this]; exact hl
theorem J.same {p : Prm} {w0 w : World} {listed : Array Bool} {a : Act} (h : J p w0 listed a w) {i : Nat} (hun : listed.getD i true = false) {w' : World} (hk : ∀ q made, Tab w p.g q made → Tab w' p.g q made) :
    ∃ (q : Int) (made : Bool), Tab w' p.g q made ∧ 0 ≤ q ∧ q + (Inv.left (listed.setIfInBounds i true) : Int) ≤ 1000 := by
  obtain ⟨q, made, ht, h0, h1⟩ := h.tab
  have := Inv.left_set hun
  exact ⟨q, made, hk q made ht, h0, by omega⟩
/-- A plain operation. -/
theorem J.plain {p : Prm} {w0 w : World} {listed : Array Bool} {a : Act} (h : J p w0 listed a w) {i : Nat} (hi : i < 29) (hun : listed.getD i true = false) {x : Value} (hv : Val p x w i) : J p w0 (listed.setIfInBounds i true) (a.put (some (slot i)) x) w :=
  h.next hi hun hv (Keep.refl _ _) (h.same hun fun _ _ t => t)
/-- The slot of an operation that has come up. -/
theorem J.at_ {p : Prm} {w0 w : World} {listed : Array Bool} {a : Act} (h : J p w0 listed a w) (i : Nat) (hi : i < 29) (hl : listed.getD i false = true) : Val p (a.tmps.getD (slot i) undef) w i := h.vals i hi hl
end Crc
end Go.Proofs.Ytbojfiabgjaaaaa
