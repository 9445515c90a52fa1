/-
  PLAIN: what CacheRoom does to the list of those that are kept.
-/
import Derived.Test.YtfngebikihdogaaCacLive
namespace Go.Proofs.Ytfngebikihdogaa
namespace Cac
def ent (j : Nat) : Kv := ⟨j, (j : Int) + 1, tx j⟩
/-- From lo on k of them, the last one first. -/
def dn (lo : Nat) : Nat → List Kv
  | 0 => []
  | k + 1 => ent (lo + k) :: dn lo k
theorem dn_len (lo k : Nat) : (dn lo k).length = k := by
  induction k with
  | zero => rfl
  | succ k ih => simp [dn, ih]
theorem dn_mem {lo k : Nat} {x : Kv} (h : x ∈ dn lo k) : (lo : Int) ≤ x.lba ∧ x.lba < ((lo + k : Nat) : Int) := by
  induction k with
  | zero => cases h
  | succ k ih =>
    rcases List.mem_cons.1 h with rfl | h
    · show (lo : Int) ≤ ((lo + k : Nat) : Int) ∧ ((lo + k : Nat) : Int) < _
      omega
    · have := ih h; omega
theorem dn_split (lo a b : Nat) : dn lo (a + b) = dn (lo + a) b ++ dn lo a := by
  induction b with
  | zero => rfl
  | succ b ih =>
    show ent (lo + (a + b)) :: dn lo (a + b) = (ent (lo + a + b) :: dn (lo + a) b) ++ dn lo a
    rw [ih, Nat.add_assoc]; rfl
theorem dn_snoc (lo k : Nat) : dn lo (k + 1) = dn (lo + 1) k ++ [ent lo] := by
  rw [Nat.add_comm k 1, dn_split lo 1 k]; rfl
theorem outK_app (a b : List Kv) (n : Int) : outK (a ++ b) n = outK a n ++ outK b n := List.filter_append ..
theorem outK_cons_ne (x : Kv) (l : List Kv) {n : Int} (h : x.lba ≠ n) : outK (x :: l) n = x :: outK l n := by
  unfold outK
  rw [List.filter_cons, show (x.lba == n) = false by simpa using h]; rfl
theorem outK_cons_eq (x : Kv) (l : List Kv) {n : Int} (h : x.lba = n) : outK (x :: l) n = outK l n := by
  unfold outK
  rw [List.filter_cons, show (x.lba == n) = true by simpa using h]; rfl
theorem outK_dn {lo k : Nat} {n : Int} (h : n < lo ∨ ((lo + k : Nat) : Int) ≤ n) : outK (dn lo k) n = dn lo k :=
  outK_none fun x hx => by have := dn_mem hx; omega
theorem cutK_low {m : Int} {L : List Kv} (h : (L.length : Int) ≤ m) : cutK m L = L := by
  unfold cutK
  rw [if_neg (by omega)]
theorem room1 {M k : Nat} (h : k + 1 ≤ M) : putK (M : Int) (dn 0 k) (ent k) = dn 0 (k + 1) := by
  unfold putK
  rw [show (ent k).lba = (k : Int) from rfl, outK_dn (by omega), cutK_low (by simp only [List.length_cons, dn_len]; omega)]
  show _ = ent (0 + k) :: dn 0 k
  rw [Nat.zero_add]
theorem whoK_app (a b : List Kv) (n : Int) : whoK (a ++ b) n = (whoK a n).or (whoK b n) := List.find?_append
theorem whoK_none {l : List Kv} {n : Int} (h : ∀ x ∈ l, x.lba ≠ n) : whoK l n = none :=
  List.find?_eq_none.2 fun x hx => by simpa using h x hx
theorem whoK_cons (x : Kv) (l : List Kv) (n : Int) : whoK (x :: l) n = if x.lba = n then some x else whoK l n := by
  unfold whoK
  rw [List.find?_cons]
  by_cases h : x.lba = n
  · rw [if_pos h, show (x.lba == n) = true by simpa using h]
  · rw [if_neg h, show (x.lba == n) = false by simpa using h]
theorem hit2 (i k : Nat) : whoK (dn 0 i ++ dn i (k + 1)) i = some (ent i) := by
  rw [dn_snoc, whoK_app, whoK_app, whoK_none (fun x hx => by have := dn_mem hx; omega), whoK_none (l := dn (i + 1) k) (fun x hx => by have := dn_mem hx; omega), whoK_cons, if_pos (show (ent i).lba = (i : Int) from rfl)]
  rfl
theorem room2 (i k : Nat) : ent i :: outK (dn 0 i ++ dn i (k + 1)) i = dn 0 (i + 1) ++ dn (i + 1) k := by
  rw [dn_snoc, outK_app, outK_app, outK_dn (by omega), outK_dn (by omega), outK_cons_eq _ _ (show (ent i).lba = (i : Int) from rfl)]
  show _ = (ent (0 + i) :: dn 0 i) ++ _
  rw [Nat.zero_add]
  show ent i :: (dn 0 i ++ (dn (i + 1) k ++ [])) = _
  rw [List.append_nil]; rfl
theorem hit3 {M ask : Nat} (h : ask < M) : whoK (dn 0 M) ask = some (ent ask) := by
  obtain ⟨k, rfl⟩ : ∃ k, M = ask + (k + 1) := ⟨M - ask - 1, by omega⟩
  rw [dn_split, Nat.zero_add, dn_snoc, List.append_assoc, whoK_app, whoK_none (fun x hx => by have := dn_mem hx; omega)]
  show whoK (ent ask :: dn 0 ask) ask = _
  rw [whoK_cons, if_pos (show (ent ask).lba = (ask : Int) from rfl)]
def firstOf (ask : Nat) : Nat := if ask = 0 then 1 else 0
theorem room3 {M ask : Nat} (h : ask < M) (h2 : 2 ≤ M) : ∃ rest, putK (M : Int) (ent ask :: outK (dn 0 M) ask) ⟨M, 1, tx 9⟩ = ⟨M, 1, tx 9⟩ :: ent ask :: rest ∧ rest.length + 2 = M ∧ ∀ x ∈ rest, x.lba ≠ ask ∧ x.lba ≠ firstOf ask ∧ x.lba ≠ (M : Int) := by
  obtain ⟨k, rfl⟩ : ∃ k, M = ask + (k + 1) := ⟨M - ask - 1, by omega⟩
  have e0 : outK (dn 0 (ask + (k + 1))) ask = dn (ask + 1) k ++ dn 0 ask := by
    rw [dn_split, Nat.zero_add, dn_snoc, List.append_assoc, outK_app, outK_dn (by omega), outK_app, outK_cons_eq _ _ (show (ent ask).lba = (ask : Int) from rfl), outK_dn (lo := 0) (by omega)]
    rfl
  have e1 : outK (ent ask :: (dn (ask + 1) k ++ dn 0 ask)) ((ask + (k + 1) : Nat) : Int) = ent ask :: (dn (ask + 1) k ++ dn 0 ask) := by
    refine outK_none fun x hx => ?_
    rcases List.mem_cons.1 hx with rfl | hx
    · show (ask : Int) ≠ _; omega
    · rcases List.mem_append.1 hx with hx | hx
      · have := dn_mem hx; omega
      · have := dn_mem hx; omega
  rw [e0]
  unfold putK cutK
  rw [e1, if_pos (by simp only [List.length_cons, List.length_append, dn_len]; omega)]
  rcases Nat.eq_zero_or_pos ask with h0 | h0
  · subst h0
    obtain ⟨j, rfl⟩ : ∃ j, k = j + 1 := ⟨k - 1, by omega⟩
    refine ⟨dn 2 j, ?_, by rw [dn_len]; omega, fun x hx => ?_⟩
    · show (_ :: _ :: (dn 1 (j + 1) ++ [])).dropLast = _
      rw [List.append_nil, dn_snoc, ← List.cons_append, ← List.cons_append, List.dropLast_concat]
    · have := dn_mem hx
      unfold firstOf
      rw [if_pos rfl]
      omega
  · obtain ⟨j, rfl⟩ : ∃ j, ask = j + 1 := ⟨ask - 1, by omega⟩
    refine ⟨dn (j + 1 + 1) k ++ dn 1 j, ?_, by rw [List.length_append, dn_len, dn_len]; omega, fun x hx => ?_⟩
    · rw [dn_snoc 0 j, ← List.append_assoc, ← List.cons_append, ← List.cons_append, List.dropLast_concat]
    · unfold firstOf
      rw [if_neg (by omega)]
      rcases List.mem_append.1 hx with hx | hx
      · have := dn_mem hx; omega
      · have := dn_mem hx; omega
end Cac
end Go.Proofs.Ytfngebikihdogaa
