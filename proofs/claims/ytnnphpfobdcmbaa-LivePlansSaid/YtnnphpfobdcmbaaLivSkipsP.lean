/-
  PLAIN: victims without those to skip; an append of ints as one operation of a region.
-/
import Derived.Test.YtnnphpfobdcmbaaLivUp
namespace Go.Proofs.Ytnnphpfobdcmbaa
open Go.RowKit Mem Ext Zon Zns
namespace Liv

theorem choose_filter (n : Nat) (p : Nat → Bool) (sk : List Int) : chooseP n p sk = (chooseP n p []).filter fun i : Nat => !sk.contains (i : Int) := by
  unfold chooseP
  rw [List.filter_filter]
  congr 1
  funext i
  have : ([] : List Int).contains (i : Int) = false := rfl
  rw [this]
  cases p i <;> cases sk.contains (i : Int) <;> rfl
theorem sortB_strict {key : Nat → Int} {l : List Nat} (h : l.Pairwise (· < ·)) : (sortB key l).Pairwise (byKey key) := by
  have h1 : (sortB key l).Pairwise (· ≠ ·) := ((sortB_perm key l).pairwise_iff (fun {a b} h => fun e => h e.symm)).2 (h.imp fun {a b} h => by omega)
  refine ((sortB_pair key l).and h1).imp fun {a b} h => ?_
  rcases h.1 with h2 | h2
  · exact .inl h2
  · exact .inr ⟨h2.1, by have := h.2; omega⟩
theorem victims_skip (d : Dx) (l : List Ext.Ex) (sk : List Int) : victims d l sk = (victims d l []).filter fun i : Nat => !sk.contains (i : Int) := by
  unfold victims
  symm
  refine sortB_unique ?_ ((sortB_strict (choose_rises _ _ _)).filter _)
  rw [choose_filter d.n _ sk]
  exact (sortB_perm _ _).filter _
theorem victims_mem {d : Dx} {l : List Ext.Ex} {sk : List Int} {i : Nat} : i ∈ victims d l sk ↔ i < d.n ∧ fullB (d.xs.map Zv.z) l i = true ∧ sk.contains (i : Int) = false := by
  unfold victims
  rw [sortB_mem]
  unfold chooseP
  rw [List.mem_filter, List.mem_range, Bool.and_eq_true, Bool.not_eq_true']
theorem plan_all {d : Dx} {l : List Ext.Ex} (hn : needB d l = true → d.n ≤ 64) (sk : List Int) : planP d l sk 1000 = bif needB d l then victims d l sk else [] := by
  unfold planP
  rcases h : needB d l
  · rfl
  · have := victims_len d l sk
    have := hn h
    simp only [cond_true]
    exact List.take_of_length_le (by show _ ≤ 1000; omega)
theorem plan_skip {d : Dx} {l : List Ext.Ex} (hn : needB d l = true → d.n ≤ 64) (sk : List Int) : planP d l sk 1000 = (planP d l [] 1000).filter fun i : Nat => !sk.contains (i : Int) := by
  rw [plan_all hn, plan_all hn]
  rcases needB d l
  · rfl
  · exact victims_skip d l sk
theorem plan_none {d : Dx} {l : List Ext.Ex} (hn : needB d l = true → d.n ≤ 64) (sk : List Int) : headV (planP d l (sk ++ iN (planP d l sk 1000)) 1) = (0, false) := by
  rw [plan_all hn]
  unfold planP
  rcases h : needB d l
  · rfl
  · have : victims d l (sk ++ iN (victims d l sk)) = [] := by
      refine List.eq_nil_iff_forall_not_mem.2 fun i hi => ?_
      obtain ⟨h1, h2, h3⟩ := victims_mem.1 hi
      have h4 : ¬ (i : Int) ∈ sk ++ iN (victims d l sk) := by
        intro hm
        rw [List.contains_iff_mem.2 hm] at h3
        cases h3
      rw [List.mem_append, not_or] at h4
      have h5 : i ∈ victims d l sk := victims_mem.2 ⟨h1, h2, by
        rcases e : sk.contains (i : Int)
        · rfl
        · exact absurd (List.contains_iff_mem.1 e) h4.1⟩
      exact h4.2 (List.mem_map.2 ⟨i, h5, rfl⟩)
    simp only [cond_true]
    rw [this]; rfl

theorem wp_append_i {w : World} {o : Oper} {a : Act} {Q : Exit → Act → World → Prop} {K : Act → World → Prop} (s x : Operand)
    (ho : o.op = .call { callee := .builtin .append, args := #[s, x], argTypes := #[26, 26] }) (hty : o.type = 26)
    (base : Nat) (sv : Value) (n : Nat) (l : List Int) (hs : a.eval s = sv) (hown : Mem.Owns ci 3 base w sv n l) (A : Option Addr) (m c : Nat) (l' : List Int) (hx : a.eval x = .slice A m c) (h : Row ci w A m c l')
    (hbig : n + m ≤ 100000) (hbase : base ≤ w.heap.size)
    (hk : ∀ A' c' w', Mem.Owns ci 3 base w' (.slice A' (n + m) c') (n + m) (l ++ l') → Below base w w' → K (a.put o.dst (.slice A' (n + m) c')) w') :
    Oper.wp Try.prog o a w K Q := by
  obtain ⟨s', w', hrun, h2, h3, -⟩ := Mem.run_append ci_one Try.underlying26 info_int rfl w base sv n l hown A m c l' h (by omega) (by omega) hbase
  obtain ⟨A', c', rfl⟩ := h2.slice
  unfold Oper.wp execOp
  simp only [ho, hty, resolve, invoke, builtin, Sem.run_bind, Sem.run_pure, Result.andThen_ok, List.map_toArray, List.map_cons, List.map_nil, hs, hx, hrun]
  exact hk A' c' w' h2 h3
end Liv
end Go.Proofs.Ytnnphpfobdcmbaa
