/-
  PLAIN: what CacheFills does to the list of those that are kept.
-/
import Derived.Test.YtfngebikihdogaaCacFill
namespace Go.Proofs.Ytfngebikihdogaa
namespace Cac
def fe (lba ver : Int) (j : Nat) : Kv := ⟨lba + j, ver, tx j⟩
def dnE (e : Nat → Kv) (lo : Nat) : Nat → List Kv
  | 0 => []
  | k + 1 => e (lo + k) :: dnE e lo k
theorem dnE_len (e : Nat → Kv) (lo k : Nat) : (dnE e lo k).length = k := by
  induction k with
  | zero => rfl
  | succ k ih => simp [dnE, ih]
theorem dnE_mem {e : Nat → Kv} {lo k : Nat} {x : Kv} : x ∈ dnE e lo k ↔ ∃ j, lo ≤ j ∧ j < lo + k ∧ x = e j := by
  induction k with
  | zero =>
    constructor
    · intro h; cases h
    · rintro ⟨j, h1, h2, -⟩; omega
  | succ k ih =>
    show x ∈ e (lo + k) :: dnE e lo k ↔ _
    rw [List.mem_cons, ih]
    constructor
    · rintro (rfl | ⟨j, h1, h2, rfl⟩)
      · exact ⟨lo + k, by omega, by omega, rfl⟩
      · exact ⟨j, h1, by omega, rfl⟩
    · rintro ⟨j, h1, h2, rfl⟩
      by_cases h : j = lo + k
      · exact .inl (by rw [h])
      · exact .inr ⟨j, h1, by omega, rfl⟩
theorem dnE_split (e : Nat → Kv) (lo a b : Nat) : dnE e lo (a + b) = dnE e (lo + a) b ++ dnE e lo a := by
  induction b with
  | zero => rfl
  | succ b ih =>
    show e (lo + (a + b)) :: dnE e lo (a + b) = (e (lo + a + b) :: dnE e (lo + a) b) ++ dnE e lo a
    rw [ih, Nat.add_assoc]; rfl
theorem dnE_snoc (e : Nat → Kv) (lo k : Nat) : dnE e lo (k + 1) = dnE e (lo + 1) k ++ [e lo] := by
  rw [Nat.add_comm k 1, dnE_split e lo 1 k]; rfl
/-- Those that are there behind k Puts with room for m. -/
def filled (lba ver : Int) (m k : Nat) : List Kv := dnE (fe lba ver) (k - min k m) (min k m)
theorem filled_lba {lba ver : Int} {m k : Nat} {x : Kv} (h : x ∈ filled lba ver m k) : x.lba < lba + k := by
  obtain ⟨j, h1, h2, rfl⟩ := dnE_mem.1 h
  show lba + (j : Int) < _
  omega
theorem fill1 (lba ver : Int) (m k : Nat) : putK (m : Int) (filled lba ver m k) (fe lba ver k) = filled lba ver m (k + 1) := by
  have e0 : outK (filled lba ver m k) (fe lba ver k).lba = filled lba ver m k := outK_none fun x hx => by
    have := filled_lba hx
    show x.lba ≠ lba + (k : Int)
    omega
  unfold putK
  rw [e0]
  unfold filled
  by_cases h : k < m
  · rw [Nat.min_eq_left (by omega), Nat.min_eq_left (by omega), Nat.sub_self, Nat.sub_self, cutK_low (by simp only [List.length_cons, dnE_len]; omega)]
    show _ = fe lba ver (0 + k) :: dnE (fe lba ver) 0 k
    rw [Nat.zero_add]
  · rw [Nat.min_eq_right (by omega), Nat.min_eq_right (by omega)]
    unfold cutK
    rw [if_pos (by simp only [List.length_cons, dnE_len]; omega)]
    have e1 : fe lba ver k :: dnE (fe lba ver) (k - m) m = dnE (fe lba ver) (k - m) (m + 1) := by
      show _ = fe lba ver (k - m + m) :: _
      rw [Nat.sub_add_cancel (by omega)]
    rw [e1, dnE_snoc, List.dropLast_concat, show k - m + 1 = k + 1 - m by omega]
/-- Whatever the order, one of them is found. -/
theorem perm_who {lba ver : Int} {lo c j : Nat} {L : List Kv} (hp : L.Perm (dnE (fe lba ver) lo c)) (h1 : lo ≤ j) (h2 : j < lo + c) : whoK L (lba + j) = some (fe lba ver j) := by
  have hm : fe lba ver j ∈ L := hp.mem_iff.2 (dnE_mem.2 ⟨j, h1, h2, rfl⟩)
  rcases e : whoK L (lba + j) with _ | x
  · have := List.find?_eq_none.1 e _ hm
    exact absurd (show (fe lba ver j).lba = lba + j from rfl) (by simpa using this)
  · have hx : x ∈ L := List.mem_of_find?_eq_some e
    have hl : x.lba = lba + j := by have := List.find?_some e; simpa using this
    obtain ⟨i, -, -, rfl⟩ := dnE_mem.1 (hp.mem_iff.1 hx)
    have hij : (i : Int) = j := by have : lba + (i : Int) = lba + j := hl; omega
    have : i = j := by omega
    rw [this]
theorem perm_none {lba ver : Int} {lo c j : Nat} {L : List Kv} (hp : L.Perm (dnE (fe lba ver) lo c)) (h1 : j < lo) : whoK L (lba + j) = none :=
  whoK_none fun x hx => by
    obtain ⟨i, h2, -, rfl⟩ := dnE_mem.1 (hp.mem_iff.1 hx)
    show lba + (i : Int) ≠ lba + j
    omega
theorem perm_next {lba ver : Int} {lo c j : Nat} {L : List Kv} (hp : L.Perm (dnE (fe lba ver) lo c)) (h1 : lo ≤ j) (h2 : j < lo + c) : (fe lba ver j :: outK L (lba + j)).Perm (dnE (fe lba ver) lo c) := by
  have e1 : (outK L (lba + j)).Perm (outK (dnE (fe lba ver) lo c) (lba + j)) := hp.filter _
  obtain ⟨a, rfl⟩ : ∃ a, j = lo + a := ⟨j - lo, by omega⟩
  obtain ⟨b, rfl⟩ : ∃ b, c = a + (b + 1) := ⟨c - a - 1, by omega⟩
  have e2 : dnE (fe lba ver) lo (a + (b + 1)) = dnE (fe lba ver) (lo + a + 1) b ++ fe lba ver (lo + a) :: dnE (fe lba ver) lo a := by
    rw [dnE_split, dnE_snoc, List.append_assoc]; rfl
  have e3 : outK (dnE (fe lba ver) lo (a + (b + 1))) (lba + ((lo + a : Nat) : Int)) = dnE (fe lba ver) (lo + a + 1) b ++ dnE (fe lba ver) lo a := by
    rw [e2, outK_app, outK_cons_eq _ _ (show (fe lba ver (lo + a)).lba = lba + ((lo + a : Nat) : Int) from rfl), outK_none, outK_none]
    · intro x hx
      obtain ⟨i, h3, h4, rfl⟩ := dnE_mem.1 hx
      show lba + (i : Int) ≠ _
      omega
    · intro x hx
      obtain ⟨i, h3, h4, rfl⟩ := dnE_mem.1 hx
      show lba + (i : Int) ≠ _
      omega
  rw [e3] at e1
  rw [e2]
  exact (e1.cons _).trans List.perm_middle.symm
theorem drop_all {ns : List Nd} {a n : Int} (h : ∀ x ∈ kvs ns, a ≤ x.lba ∧ x.lba - a < n) : dropN ns a n = [] := by
  unfold dropN
  refine List.filter_eq_nil_iff.2 fun y hy => ?_
  have := h y.2 (List.mem_map.2 ⟨y, hy, rfl⟩)
  unfold hit
  rw [decide_eq_true this.1, decide_eq_true this.2]
  simp
end Cac
end Go.Proofs.Ytfngebikihdogaa
