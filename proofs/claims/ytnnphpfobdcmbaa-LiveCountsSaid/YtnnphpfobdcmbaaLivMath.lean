/-
  PLAIN: how many blocks a map has in each zone.
-/
import Derived.Test.YtnnphpfobdcmbaaLivInts
namespace Go.Proofs.Ytnnphpfobdcmbaa
open Go.RowKit Mem Ext
namespace Liv

/-- How many blocks some extents have in a zone. -/
def cntZ (z : Int) : List Ex → Int
  | [] => 0
  | x :: r => (if x.zone = z then x.n else 0) + cntZ z r
theorem cntZ_app (z : Int) (a b : List Ex) : cntZ z (a ++ b) = cntZ z a + cntZ z b := by
  induction a with
  | nil => simp [cntZ]
  | cons x r ih => simp only [List.cons_append, cntZ, ih]; omega
theorem cntZ_snoc {l : List Ex} {k : Nat} {x : Ex} (hx : l[k]? = some x) (z : Int) : cntZ z (l.take (k + 1)) = cntZ z (l.take k) + (if x.zone = z then x.n else 0) := by
  rw [take_snoc hx, cntZ_app]
  simp [cntZ]
theorem cntZ_in {f : Int} {l : List Ex} (h : Ok f l) (hf : f ≤ 1099511627776) (z : Int) : 0 ≤ cntZ z l ∧ cntZ z l ≤ 1099511627776 - f := by
  induction l generalizing f with
  | nil => simp only [cntZ]; omega
  | cons x r ih =>
    obtain ⟨h1, h2, h3⟩ := h
    have hm : x.lba + x.n = x.en := rfl
    obtain ⟨a1, a2, a3, -⟩ := h1
    have := ih h3 (by omega)
    simp only [cntZ]
    split <;> omega
theorem ok_front {f : Int} {l : List Ex} (h : Ok f l) (k : Nat) : Ok f (l.take k) := by
  rw [← List.take_append_drop k l] at h
  exact (ok_split h).1
/-- The counts of the zones below Z. -/
def cnts (Z : Nat) (l : List Ex) : List Int := (List.range Z).map fun z : Nat => cntZ (z : Int) l
theorem cnts_len (Z : Nat) (l : List Ex) : (cnts Z l).length = Z := by unfold cnts; simp
theorem cnts_get {Z : Nat} (l : List Ex) {z : Nat} (hz : z < Z) : (cnts Z l)[z]? = some (cntZ (z : Int) l) := by
  unfold cnts
  rw [List.getElem?_map, List.getElem?_range hz]; rfl
theorem cnts_nil (Z : Nat) : cnts Z [] = List.replicate Z 0 := by
  unfold cnts
  apply List.ext_getElem? ; intro i
  rw [List.getElem?_map]
  by_cases h : i < Z
  · rw [List.getElem?_range h, List.getElem?_replicate]; simp [h, cntZ]
  · rw [List.getElem?_eq_none (by simpa using Nat.le_of_not_lt h), List.getElem?_eq_none (by simpa using Nat.le_of_not_lt h)]; rfl
theorem cnts_step {Z : Nat} {l : List Ex} {k : Nat} {x : Ex} (hx : l[k]? = some x) {z : Nat} (hz : x.zone = (z : Int)) : cnts Z (l.take (k + 1)) = (cnts Z (l.take k)).set z (cntZ (z : Int) (l.take k) + x.n) := by
  apply List.ext_getElem?; intro i
  by_cases hi : i < Z
  · rw [cnts_get _ hi, List.getElem?_set, cntZ_snoc hx, cnts_len]
    by_cases h : z = i
    · subst h; simp [hz, hi]
    · have : ¬ x.zone = (i : Int) := by omega
      simp [h, this, cnts_get _ hi]
  · rw [List.getElem?_eq_none (by rw [cnts_len]; omega), List.getElem?_eq_none (by rw [List.length_set, cnts_len]; omega)]
theorem cnts_same {Z : Nat} {l : List Ex} {k : Nat} {x : Ex} (hx : l[k]? = some x) (hz : ∀ z : Nat, z < Z → x.zone ≠ (z : Int)) : cnts Z (l.take (k + 1)) = cnts Z (l.take k) := by
  apply List.ext_getElem?; intro i
  by_cases hi : i < Z
  · rw [cnts_get _ hi, cnts_get _ hi, cntZ_snoc hx]
    simp [hz i hi]
  · rw [List.getElem?_eq_none (by rw [cnts_len]; omega), List.getElem?_eq_none (by rw [cnts_len]; omega)]
end Liv
end Go.Proofs.Ytnnphpfobdcmbaa
