/-
  WHAT THE LAWS SHARE.
-/
import Derived.Test.YtamahknnppjegaaNetLive
import Derived.Test.YtamahknnppjegaaNetArgs
import Derived.Test.YtamahknnppjegaaFrame
namespace Go.Proofs.Ytamahknnppjegaa
open Go.RowKit Mem Box
namespace Net
open Wire (B8)

/-- Send to an empty net. -/
theorem send_new {w : World} {cap : Nat} (hcap : cap ≤ 4096) {M : Option Addr} {m e : Nat} {ls : List Mx} (h2 : NetAt w M m e ls) :
    Calls Try.prog 27 #[nv cap none 0 0, .slice M m e] w fun en w' => ∃ Q n c l, en = .returned (.tuple #[nv cap Q n c, .int .i64 (n : Int)]) ∧ OwnN w.heap.size w.heap.size w' (.slice Q n c) n l ∧ l.map Mx.p = sendP cap [] (ls.map Mx.p) ∧ n ≤ 4096 ∧ Below w.heap.size w w' := by
  refine (send_any (cap := cap) (NetAt.nil w) (by omega) (by omega) h2).mono ?_
  rintro e w' ⟨Q, n, c, l, rfl, hO, hP, hb⟩
  have hl : (sendP cap ([].map Mx.p) (ls.map Mx.p)).length = n := by rw [← hP, List.length_map, hO.len]
  have h3 := send_len cap ([].map Mx.p) (ls.map Mx.p)
  refine ⟨Q, n, c, l, ?_, hO, hP, ?_, hb⟩
  · rw [hl]
    simp
  · rw [hl] at h3
    simp at h3
    omega
theorem filter_at {α : Type} {q : α → Bool} {l : List α} {i : Nat} {x : α} (h : l[i]? = some x) (hq : q x = true) : (l.filter q)[((l.take i).filter q).length]? = some x := by
  have e : l = l.take i ++ x :: l.drop (i + 1) := by
    obtain ⟨hi, rfl⟩ := List.getElem?_eq_some_iff.1 h
    rw [List.getElem_cons_drop, List.take_append_drop]
  conv => lhs; arg 1; rw [e, List.filter_append, List.filter_cons, if_pos hq]
  rw [List.getElem?_append_right (Nat.le_refl _), Nat.sub_self]
  rfl
theorem filter_next {α : Type} {q : α → Bool} {l : List α} {i : Nat} {x : α} (h : l[i]? = some x) : ((l.take (i + 1)).filter q).length = ((l.take i).filter q).length + (bif q x then 1 else 0) := by
  rw [List.take_add_one, h, List.filter_append, List.length_append]
  rcases e : q x <;> simp [List.filter, e]
theorem filter_take_le {α : Type} (q : α → Bool) (l : List α) (i : Nat) : ((l.take i).filter q).length ≤ (l.filter q).length := by
  conv => rhs; rw [← List.take_append_drop i l, List.filter_append, List.length_append]
  omega
theorem to_off (pl : List Mp) (node : Int) : toP (pl.filter (offB node)) node = [] := by
  unfold toP placesP
  rw [List.filter_eq_nil_iff]
  intro i hi
  have hlt : i < (pl.filter (offB node)).length := by simpa using hi
  rw [List.getElem?_eq_getElem hlt]
  have hm := (List.mem_filter.1 (List.getElem_mem hlt)).2
  show ¬ (Option.any _ (some _)) = true
  generalize (pl.filter (offB node))[i] = z at *
  unfold offB at hm
  simp only [Bool.and_eq_true, bne_iff_ne, ne_eq] at hm
  simpa using hm.2
end Net
end Go.Proofs.Ytamahknnppjegaa
