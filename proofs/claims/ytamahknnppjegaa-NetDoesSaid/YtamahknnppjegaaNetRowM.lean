/-
  SLICES OF ROWS OF MESSAGES; what fits is sent.
-/
import Derived.Test.YtamahknnppjegaaNetLaw
import Derived.Test.YtamahknnppjegaaNetDMsg
namespace Go.Proofs.Ytamahknnppjegaa
open Go.RowKit Mem Box
namespace Net
theorem run_headM (A : Option Addr) (n c k : Nat) (h : k ≤ c) (w : World) : (Instr.slice 26 (.slice A n c) none (some (.int .i64 (k : Int))) none).run Try.prog w = .ok (.slice A k c) w := by
  obtain ⟨i, hi, hz0, hz1, hz2⟩ := info_parts info_msg
  have e : (if c = 0 then A else A.map (·.add 0)) = A := by
    split
    · rfl
    · cases A with
      | none => rfl
      | some x => simp [Addr.add]
  have h1 : (k : Int) ≤ (c : Int) := by omega
  have h0 : (0 : Int) ≤ (k : Int) := by omega
  simp [Instr.slice, Instr.sliceBounds, run_sliceBound, h0, h1, run_underlying Try.underlying26, sizeOf, typeInfo, hi, e]
def tailM (A : Option Addr) (c k : Nat) : Option Addr := if c = k then A else A.map (·.add (k * 6))
theorem run_tailM (A : Option Addr) (n c k : Nat) (hk : k ≤ n) (w : World) : (Instr.slice 26 (.slice A n c) (some (.int .i64 (k : Int))) none none).run Try.prog w = .ok (.slice (tailM A c k) (n - k) (c - k)) w := by
  obtain ⟨i, hi, hz0, hz1, hz2⟩ := info_parts info_msg
  have h1 : (k : Int) ≤ (n : Int) := by omega
  have h0 : (0 : Int) ≤ (k : Int) := by omega
  simp [Instr.slice, Instr.sliceBounds, run_sliceBound, h0, h1, run_underlying Try.underlying26, sizeOf, typeInfo, hi, hz1, tailM]
section
variable {w : World} {A : Option Addr} {n c : Nat} {l : List Mx}
theorem row_head (h : RowS cellsM 6 w A n c l) {k : Nat} (hk : k ≤ n) : RowS cellsM 6 w A k c (l.take k) := by
  refine ⟨by rw [List.length_take, h.len]; omega, Nat.le_trans hk h.cap, Nat.le_trans hk h.big, fun h0 => ?_⟩
  obtain ⟨b, o, e, hb, hc⟩ := h.at_ (by omega)
  refine ⟨b, o, e, hb, fun i x hx j u hu => ?_⟩
  rw [List.getElem?_take] at hx
  split at hx
  · exact hc i x hx j u hu
  · cases hx
theorem row_tail (h : RowS cellsM 6 w A n c l) {k : Nat} (hk : k ≤ n) : RowS cellsM 6 w (tailM A c k) (n - k) (c - k) (l.drop k) := by
  have hcap := h.cap
  refine ⟨by rw [List.length_drop, h.len], by omega, Nat.le_trans (Nat.sub_le _ _) h.big, fun h0 => ?_⟩
  obtain ⟨b, o, e, hb, hc⟩ := h.at_ (by omega)
  refine ⟨b, o + k * 6, ?_, hb, fun i x hx j u hu => ?_⟩
  · unfold tailM
    rw [if_neg (by omega), e]
    simp [Mem.add_none]
  · rw [List.getElem?_drop] at hx
    have := hc (k + i) x hx j u hu
    rwa [show o + (k + i) * 6 + j = o + k * 6 + i * 6 + j by omega] at this
end
theorem mrow_one {w : World} {p : Nat} {z : Mx} (h : MBox w p z) : RowS cellsM 6 w (some ⟨p, 0, none⟩) 1 1 [z] := by
  refine ⟨rfl, by omega, by omega, fun _ => ⟨_, _, rfl, Cells.lt h, fun i y hy j u hu => ?_⟩⟩
  have hi : i = 0 := by have := (List.getElem?_eq_some_iff.1 hy).1; simpa using this
  subst hi
  simp at hy
  subst hy
  rw [show 0 + 0 * 6 + j = j by omega, Cells.cell h]
  simpa [cellsM] using hu
theorem send_fits (cap : Nat) (l : List Mp) : ∀ q : List Mp, q.length + l.length ≤ cap → sendP cap q l = q ++ l.filter okM := by
  induction l with
  | nil => intro q _; simp [sendP]
  | cons m l ih =>
    intro q h
    rw [List.length_cons] at h
    have e : sendP cap q (m :: l) = sendP cap (pushP cap q m) l := rfl
    rw [e]
    unfold pushP
    have hlt : decide (q.length < cap) = true := decide_eq_true (by omega)
    rw [hlt, Bool.and_true, List.filter_cons]
    rcases okM m with _ | _
    · rw [cond_false, ih q (by omega)]
      simp
    · rw [cond_true, ih (q ++ [m]) (by rw [List.length_append, List.length_singleton]; omega)]
      simp
theorem ok_snoc {l : List Mp} {k : Nat} {x : Mp} (h : l[k]? = some x) : (l.take (k + 1)).filter okM = (l.take k).filter okM ++ (bif okM x then [x] else []) := by
  rw [List.take_add_one, h, List.filter_append]
  rcases e : okM x <;> simp [List.filter, e]
theorem erase_eq {l : List Mp} {j : Nat} : l.eraseIdx j = l.take j ++ l.drop (j + 1) := List.eraseIdx_eq_take_drop_succ l j
end Net
end Go.Proofs.Ytamahknnppjegaa
