/-
  WALKS: a list laid over another one (over), extents of whatever order as a list (stacked).
-/
import Derived.Test.YtnnphpfobdcmbaaExtAdd
import Derived.Test.YtnnphpfobdcmbaaExtJoin
namespace Go.Proofs.Ytnnphpfobdcmbaa
open Go.RowKit Mem
namespace Ext

def overT (l : List Ex) : Int → List Ex → List Ex
  | _, [] => []
  | f, x :: u => clips f x.lba l ++ x :: overT l x.en u
theorem overT_app (l : List Ex) (f : Int) (a : List Ex) (x : Ex) : overT l f (a ++ [x]) = overT l f a ++ (clips (endF f a) x.lba l ++ [x]) := by
  induction a generalizing f with
  | nil => rfl
  | cons y r ih => rw [List.cons_append, overT, ih, overT, endF, List.append_assoc]; rfl
theorem overF_T (l : List Ex) (f : Int) (u : List Ex) : overF l f u = overT l f u ++ clips (endF f u) 1099511627776 l := by
  induction u generalizing f with
  | nil => rfl
  | cons y r ih => rw [overF, ih, overT, endF, List.append_assoc]; rfl
theorem endF_in {f : Int} {u : List Ex} (h : Ok f u) (hf : f ≤ 1099511627776) : f ≤ endF f u ∧ endF f u ≤ 1099511627776 := by
  induction u generalizing f with
  | nil => exact ⟨Int.le_refl _, hf⟩
  | cons x r ih =>
    have h1 := ih h.2.2 (en_le h.1)
    have h2 := en_lt h.1
    have h3 := h.2.1
    exact ⟨by show f ≤ endF x.en r; omega, h1.2⟩
theorem ok_take {f : Int} {u : List Ex} (h : Ok f u) (k : Nat) : Ok f (u.take k) := by
  rw [← List.take_append_drop k u] at h
  exact (ok_split h).1
theorem overT_len {l u : List Ex} (hl : Ok 0 l) (hu : Ok 0 u) (k : Nat) : (overT l 0 (u.take k)).length ≤ l.length + 2 * u.length := by
  have h1 := overE_len hl (ok_take hu k)
  unfold overE at h1
  rw [overF_T, List.length_append] at h1
  have h2 : (u.take k).length ≤ u.length := by rw [List.length_take]; omega
  omega
/-- A row of one's own, as a call gave it. -/
def GaveR (w : World) (r : List Ex) (en : Ending) (w' : World) : Prop := (∃ B m d, en = .returned (.slice B m d) ∧ OwnsL w.heap.size w' (.slice B m d) m r) ∧ Below w.heap.size w w'

theorem sq_mono {a b : Nat} (h : a ≤ b) : a * a ≤ b * b := Nat.mul_le_mul h h
/-- A row, as a call gave it. -/
def GaveV (w : World) (r : List Ex) (en : Ending) (w' : World) : Prop := (∃ B m d, en = .returned (.slice B m d) ∧ RowL w' B m d r) ∧ Below w.heap.size w w'

end Ext
end Go.Proofs.Ytnnphpfobdcmbaa
