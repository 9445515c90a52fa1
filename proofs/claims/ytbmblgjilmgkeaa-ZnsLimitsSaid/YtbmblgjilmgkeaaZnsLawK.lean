/-
  WHAT A COMMAND LEAVES OF OTHER ZONES, seen from two devices in memory.
-/
import Derived.Test.YtbmblgjilmgkeaaZnsLaw
import Derived.Test.YtbmblgjilmgkeaaZnsRefClose
namespace Go.Proofs.Ytbmblgjilmgkeaa
open Go.RowKit Mem Zon
namespace Zns

theorem St.oth {X Y : Dx} {c : Cm} {p : Dn} (ho : okD X.p = true) (h : St X c Y p) :
    ∃ o : Option Nat, ∀ (i : Nat) (xv yv : Zv), X.xs[i]? = some xv → Y.xs[i]? = some yv → (i : Int) ≠ c.zone →
      (o ≠ some i ∧ xv.z = yv.z) ∨ (o = some i ∧ p.e = 0 ∧ xv.z.st = 1 ∧ xv.z.data.length ≠ 0 ∧ yv.z = inZ xv.z 3) := by
  obtain ⟨o, h1, h2⟩ := h.lv.oth
  refine ⟨o, fun i xv yv hx hy hi => ?_⟩
  have ex : (X.xs.map Zv.z)[i]? = some xv.z := by rw [List.getElem?_map, hx]; rfl
  have ey : (Y.xs.map Zv.z)[i]? = some yv.z := by rw [List.getElem?_map, hy]; rfl
  by_cases e : o = some i
  · refine .inr ⟨e, ?_⟩
    obtain ⟨k1, z, k2, k3, k4, -⟩ := h2 i e
    have k4 : (Y.xs.map Zv.z)[i]? = some (closeZ z) := k4
    rw [ex] at k2
    injection k2 with k2
    subst k2
    rw [ey] at k4
    injection k4 with k4
    have hok : okB xv.z X.cap = true := (okL_iff.1 ho).all xv.z (List.mem_of_getElem? ex)
    obtain ⟨c1, -⟩ := close_imp hok k3
    refine ⟨k1, k3, ?_, k4.trans c1⟩
    intro hd
    obtain ⟨-, -, -, hm, -⟩ := ok_parts hok
    unfold mayB at hm
    have : xv.z.len = 0 := by unfold Zn.len; omega
    rw [k3, this] at hm
    simp at hm
  · refine .inl ⟨e, ?_⟩
    have k := h1 i hi e
    have k : (Y.xs.map Zv.z)[i]? = (X.xs.map Zv.z)[i]? := k
    rw [ex, ey] at k
    injection k with k
    exact k.symm
theorem St.readEq {X Y : Dx} {c : Cm} {p : Dn} (ho : okD X.p = true) (h : St X c Y p) (hd : c.d = 2) : Y.p = X.p := by
  obtain ⟨k1, k2, k3, k4, k5, k6, k7⟩ := do_left ho c
  have hz : Y.xs.map Zv.z = X.xs.map Zv.z := h.lv.read hd
  have e1 : Y.cap = X.cap := (congrArg Dv.cap h.pure_).trans k2
  have e2 : Y.op = X.op := (congrArg Dv.op h.pure_).trans k3
  have e3 : Y.ac = X.ac := (congrArg Dv.ac h.pure_).trans k4
  unfold Dx.p
  rw [hz, e1, e2, e3]
theorem sameZ_not {x y : Zn} (h : x ≠ y) : sameZ x y = false := by
  rcases e : sameZ x y
  · rfl
  · exact absurd ((sameZ_iff x y).1 e) h
end Zns
end Go.Proofs.Ytbmblgjilmgkeaa
