/-
  WHAT addParts DOES IS WHAT clips IS, in plain.
-/
import Derived.Test.YtnnphpfobdcmbaaExtRef
namespace Go.Proofs.Ytnnphpfobdcmbaa
open Go.RowKit Mem
namespace Ext

theorem snoc_casesE (l : List Ex) : l = [] ∨ ∃ a z, l = a ++ [z] := by
  rcases List.eq_nil_or_concat l with h | ⟨a, z, h⟩
  · exact .inl h
  · exact .inr ⟨a, z, by simpa using h⟩
theorem clips_mid {a b : Int} {l : List Ex} (hab : a < b) {i j : Nat} (hij : i ≤ j) (h1 : ∀ t x, t < i → l[t]? = some x → x.en ≤ a) (h2 : ∀ t x, i ≤ t → l[t]? = some x → a < x.en)
    (h3 : ∀ t x, t < j → l[t]? = some x → x.lba < b) (h4 : ∀ t x, j ≤ t → l[t]? = some x → b ≤ x.lba) : clips a b l = ((l.drop i).take (j - i)).map (clip a b) := by
  have e1 : (l.drop i).drop (j - i) = l.drop j := by rw [List.drop_drop]; congr 1; omega
  have e : l = l.take i ++ ((l.drop i).take (j - i) ++ l.drop j) := by rw [← e1, List.take_append_drop, List.take_append_drop]
  have hd : decide (a < b) = true := decide_eq_true hab
  have f1 : (l.take i).filter (touch a b) = [] := by
    rw [List.filter_eq_nil_iff]
    intro x hx ht
    obtain ⟨t, hti⟩ := List.mem_iff_getElem?.1 hx
    rw [List.getElem?_take] at hti
    split at hti
    · rename_i hlt
      have := h1 t x hlt hti
      have := (touch_iff.1 ht).1
      omega
    · cases hti
  have f3 : (l.drop j).filter (touch a b) = [] := by
    rw [List.filter_eq_nil_iff]
    intro x hx ht
    obtain ⟨t, hti⟩ := List.mem_iff_getElem?.1 hx
    rw [List.getElem?_drop] at hti
    have := h4 (j + t) x (by omega) hti
    have := (touch_iff.1 ht).2
    omega
  have f2 : ((l.drop i).take (j - i)).filter (touch a b) = (l.drop i).take (j - i) := by
    rw [List.filter_eq_self]
    intro x hx
    obtain ⟨t, hti⟩ := List.mem_iff_getElem?.1 hx
    rw [List.getElem?_take] at hti
    split at hti
    · rename_i hlt
      rw [List.getElem?_drop] at hti
      exact touch_iff.2 ⟨h2 (i + t) x (by omega) hti, h3 (i + t) x (by omega) hti⟩
    · cases hti
  unfold clips
  rw [hd, cond_true]
  conv => lhs; rw [e]
  rw [List.filter_append, List.filter_append, f1, f2, f3, List.nil_append, List.append_nil]
theorem mid_touch {a b : Int} {l : List Ex} {i j : Nat} (h2 : ∀ t x, i ≤ t → l[t]? = some x → a < x.en) (h3 : ∀ t x, t < j → l[t]? = some x → x.lba < b) : ∀ x ∈ (l.drop i).take (j - i), a < x.en ∧ x.lba < b := by
  intro x hx
  obtain ⟨t, hti⟩ := List.mem_iff_getElem?.1 hx
  rw [List.getElem?_take] at hti
  split at hti
  · rw [List.getElem?_drop] at hti
    exact ⟨h2 (i + t) x (by omega) hti, h3 (i + t) x (by omega) hti⟩
  · cases hti
theorem ok_mid {f : Int} {l : List Ex} (h : Ok f l) (i j : Nat) : ∃ g, Ok g ((l.drop i).take j) := by
  rw [← List.take_append_drop i l] at h
  obtain ⟨-, g, h2, -⟩ := ok_split h
  rw [← List.take_append_drop j (l.drop i)] at h2
  exact ⟨g, (ok_split h2).1⟩
theorem cut_cut (y : Ex) (a b : Int) : cutE (cutE y a y.en) a b = cutE y a b := by
  refine ex_ext rfl rfl rfl rfl ?_
  rw [cutE_off, cutE_off, cutE_off]
  show (if y.zone = -1 then _ else _ + (a - a) * 16) = _
  split
  · rfl
  · omega
theorem clip_inner {a b : Int} {x : Ex} (h1 : a ≤ x.lba) (h2 : x.en ≤ b) : clip a b x = x := by
  unfold clip
  rw [show max x.lba a = x.lba by omega, show min x.en b = x.en by omega, cutE_self]
theorem fix_mid {g a b : Int} {m : List Ex} (hm : Ok g m) (ht : ∀ x ∈ m, a < x.en ∧ x.lba < b) {y z : Ex} {q : Nat} (hq : m.length = q + 1) (hy : m[0]? = some y) (hz : (m.set 0 (cutE y (max y.lba a) y.en))[q]? = some z) :
    (m.set 0 (cutE y (max y.lba a) y.en)).set q (cutE z z.lba (min z.en b)) = m.map (clip a b) := by
  rcases m with _ | ⟨x, r⟩
  · cases hy
  injection hy with hy
  subst hy
  rw [List.set_cons_zero] at *
  rcases snoc_casesE r with rfl | ⟨s, u, rfl⟩
  · obtain rfl : q = 0 := by simp at hq; omega
    rw [List.getElem?_cons_zero] at hz
    injection hz with hz
    subst hz
    rw [List.set_cons_zero, List.map_cons, List.map_nil, cutE_en]
    show [cutE (cutE x (max x.lba a) x.en) (max x.lba a) (min x.en b)] = _
    rw [cut_cut]; rfl
  · have hql : q = s.length + 1 := by simp at hq; omega
    subst hql
    rw [List.getElem?_cons_succ, List.getElem?_append_right (Nat.le_refl _), Nat.sub_self, List.getElem?_cons_zero] at hz
    injection hz with hz
    subst hz
    obtain ⟨o1, g2, o2, en, hg⟩ := ok_split hm.2.2
    have hu := ht u (by simp)
    have hxu : x.en ≤ u.lba := Int.le_trans hg (o2.from u (by simp))
    have hx := ht x (by simp)
    rw [List.set_cons_succ, List.set_append_right _ _ (Nat.le_refl _), Nat.sub_self, List.set_cons_zero, List.map_cons, List.map_append, List.map_cons, List.map_nil]
    congr 1
    · show _ = cutE x (max x.lba a) (min x.en b)
      rw [show min x.en b = x.en by omega]
    · congr 1
      · symm
        rw [List.map_congr_left (g := id), List.map_id]
        intro v hv
        have h1 := o1.from v hv
        have h2 := en v hv
        have h3 := o2.from u (by simp)
        exact clip_inner (by omega) (by omega)
      · show [_] = [cutE u (max u.lba a) (min u.en b)]
        rw [show max u.lba a = u.lba by omega]
theorem set_out (o m : List Ex) (k : Nat) (v : Ex) : (o ++ m).set (o.length + k) v = o ++ m.set k v := by
  rw [List.set_append_right _ _ (Nat.le_add_right _ _), Nat.add_sub_cancel_left]
theorem get_out (o m : List Ex) (k : Nat) : (o ++ m)[o.length + k]? = m[k]? := by
  rw [List.getElem?_append_right (Nat.le_add_right _ _), Nat.add_sub_cancel_left]
end Ext
end Go.Proofs.Ytnnphpfobdcmbaa
