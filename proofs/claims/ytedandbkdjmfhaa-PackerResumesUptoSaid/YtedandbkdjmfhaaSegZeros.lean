/-
  append(s, make([]byte, n)...) ONTO A ROW OF ONE's OWN that is not empty: the translation hands the builtin the number n.
-/
import Derived.Test.YtedandbkdjmfhaaSegBig
namespace Go.Proofs.Ytedandbkdjmfhaa
open Go.RowKit Mem
namespace Seg
open Wire

/-! ### Where a number comes to lie -/
theorem tmod_bounds (cut : Int) (n : Nat) (hn : 0 < n) : -(n : Int) < Int.tmod cut n ∧ Int.tmod cut n < (n : Int) := by
  rcases Int.le_total 0 cut with h | h
  · rw [Int.tmod_eq_emod_of_nonneg h]
    have h1 := Int.emod_nonneg cut (b := (n : Int)) (by omega)
    have h2 := Int.emod_lt_of_pos cut (b := (n : Int)) (by omega)
    omega
  · have e : cut = -(-cut) := by omega
    rw [e, Int.neg_tmod, Int.tmod_eq_emod_of_nonneg (by omega)]
    have h1 := Int.emod_nonneg (-cut) (b := (n : Int)) (by omega)
    have h2 := Int.emod_lt_of_pos (-cut) (b := (n : Int)) (by omega)
    omega
theorem cut_at (cut : Int) (n : Nat) (hn : 0 < n) : ∃ (r : Int) (j : Nat), Int.tmod cut n = r ∧ -(n : Int) < r ∧ r < (n : Int) ∧ Int.tmod (r + n) n = j ∧ (r + n) % (n : Int) = j ∧ j < n := by
  obtain ⟨h1, h2⟩ := tmod_bounds cut n hn
  have h3 := Int.emod_nonneg (Int.tmod cut n + n) (b := (n : Int)) (by omega)
  have h4 := Int.emod_lt_of_pos (Int.tmod cut n + n) (b := (n : Int)) (by omega)
  refine ⟨_, ((Int.tmod cut n + n) % (n : Int)).toNat, rfl, h1, h2, ?_, by omega, by omega⟩
  rw [Int.tmod_eq_emod_of_nonneg (by omega)]
  omega
theorem cut_hundred (z : Int) : ∃ (r : Int) (j : Nat), Int.tmod z 100 = r ∧ -100 < r ∧ r < 100 ∧ Int.tmod (r + 100) 100 = j ∧ (r + 100) % 100 = j ∧ j < 100 := cut_at z 100 (by omega)

/-! ### Where the frames begin, and end -/
theorem starts_get : ∀ (l : List Rc) (u i : Nat), i < l.length → (starts u (sized l))[i]? = some ((u + (frames (l.take i)).length : Nat) : Int)
  | [], u, i, h => by simp at h
  | r :: l, u, 0, _ => by simp [sized, starts, frames]
  | r :: l, u, i + 1, h => by
    have ih := starts_get l (u + (frame (recX r)).length) i (by simpa using h)
    have e : sized (r :: l) = (r, (frame (recX r)).length) :: sized l := rfl
    rw [e, starts, List.getElem?_cons_succ, ih, List.take_succ_cons, frames_cons, List.length_append]
    congr 2
    omega
theorem frame_ge (x : List B8) : 5 ≤ (frame x).length := by
  have h1 := frame_len x
  have h2 := enc_pos x.length
  omega

theorem zeroCells_list (Z : Nat) : (Builtin.zeroCells #[Value.int .u8 0] Z).toList = (List.replicate Z 0#8).map cb := by
  apply List.ext_getElem
  · simp [Builtin.zeroCells]
  · intro i h1 h2
    have e : i % 1 = 0 := Nat.mod_one i
    simp [Builtin.zeroCells, cb, u, e]

theorem run_append_zeros (w : World) (base : Nat) (A : Option Addr) (n c : Nat) (l : List B8) (hown : Owns cb 5 base w (.slice A n c) n l) (h0 : 0 < n) (Z : Nat) (hZ : n + Z ≤ 1000000) (hbase : base ≤ w.heap.size) (ty : TypeId) :
    ∃ s' w', (Builtin.append_ #[27, 3] ty #[.slice A n c, .int .i64 Z]).run Try.prog w = .ok s' w' ∧ Owns cb 5 base w' s' (n + Z) (l ++ List.replicate Z 0#8) ∧ Below base w w' := by
  obtain ⟨i, hi, hz0, hz1, hz2⟩ := info_parts info_byte
  have hwz : IntKind.i64.wrap (Z : Int) = Z := by rw [IntKind.wrap_i64]; omega
  have hneg : ¬ ((Z : Int) < 0) := by omega
  have h48i : ¬ (281474976710656 < (Z : Int) * ((1 : Nat) : Int)) := by omega
  have hzc := zeroCells_list Z
  rcases hown.2 with ⟨hs, hn⟩ | ⟨g, cap, cur, hs, hbg, hg, hnc, hcm, hcs, htake⟩
  · omega
  · injection hs with e1 e2 e3
    subst e1 e3
    have hlen : (l ++ List.replicate Z 0#8).length = n + Z := by rw [List.length_append, List.length_replicate, hown.len]
    rcases Nat.eq_zero_or_pos Z with hz | hz
    · subst hz
      refine ⟨.slice (some ⟨g, 0, none⟩) n c, w, ?_, by simpa using hown, Below.refl _ _⟩
      have hw0 : IntKind.i64.wrap 0 = 0 := by decide
      simp [Builtin.append_, run_underlying Try.underlying27, run_underlying Try.underlying3, sizeOf, typeInfo, hi, hz2, asInt, asIntOf, hw0, hnc, storeCells]
    · by_cases hroom : n + Z ≤ c
      · have hfit : n * 1 + ((List.replicate Z 0#8).map cb).length ≤ cur.size := by simp; omega
        have hst := run_storeCells_at Try.prog g (n * 1) 5 ((List.replicate Z 0#8).map cb) 0 cur w hg (by simpa using hfit) (by intro u hu; obtain ⟨x, _, rfl⟩ := List.mem_map.1 hu; rfl)
        simp only [Nat.add_zero, Nat.mul_one, List.map_replicate] at hst
        have hZ0 : Z ≠ 0 := by omega
        have h48z : ¬ (281474976710656 < (Z : Int)) := by omega
        refine ⟨.slice (some ⟨g, 0, none⟩) (n + Z) c, w.setRow g (cur.toList.take n ++ (List.replicate Z 0#8).map cb ++ cur.toList.drop (n + ((List.replicate Z 0#8).map cb).length)).toArray, ?_, ?_, ?_⟩
        · simp [Builtin.append_, run_underlying Try.underlying27, run_underlying Try.underlying3, sizeOf, typeInfo, zeroValue, hi, hz0, hz1, hz2, asInt, asIntOf, hwz, hneg, hroom, hZ0, h48z, Value.cells, hzc, Addr.add_lit, hst]
        · refine ⟨by simpa using hlen, .inr ⟨g, c, _, rfl, hbg, setRow_heap w g cur _ 5 _ hg, hroom, hcm, ?_, ?_⟩⟩
          · have := hown.len
            simp
            omega
          · have ht : cur.toList.take n = l.map cb := by simpa using htake
            have hl := hown.len
            show List.take ((n + Z) * 1) (_ ++ _) = _
            refine (List.take_left' (by simp; omega)).trans ?_
            rw [ht, List.map_append]
        · exact ⟨rfl, rfl, rfl, by simp, fun k hk => setRow_other w g k _ (by omega)⟩
      · have hnr : ¬ (n + Z ≤ c) := hroom
        have h63' : ¬ (9223372036854775807 < ((n : Int) + (Z : Int))) := by omega
        have h48' : ¬ (281474976710656 < Builtin.nextslicecap (n + Z) c * i.bytes) := by
          have := growslice_fits (need := n + Z) (bytes := i.bytes) (old := c) (by omega) (by rw [hz2]; omega)
          omega
        have h48b : ¬ (281474976710656 < (Z : Int) * (i.bytes : Int)) := by rw [hz2]; omega
        have hns : ¬ (Z * i.size = 0) := by rw [hz1]; omega
        have holds : ∀ j u, (l.map cb)[j]? = some u → w.drew.cell? ((⟨g, 0, none⟩ : Addr).add j) = some u := by
          intro j u hu
          exact hown.cells (g := g) rfl j u hu
        have hfo := run_firstCells_some (P := Try.prog) w.drew i.size n ⟨g, 0, none⟩ n c (l.map cb) (by rw [hz1]; simp [hown.len]) holds
        have hcm2 : grownCap w (n + Z) c 5 ≤ maxLen := grownCap_le_maxLen w (n + Z) c 5 (by unfold maxLen; omega)
        have hge := grownCap_ge w (n + Z) c 5
        refine ⟨.slice (some ⟨w.heap.size, 0, none⟩) (n + Z) (grownCap w (n + Z) c 5), w.drew.alloc (.cells ((l.map cb).toArray ++ Builtin.zeroCells #[.int .u8 0] Z ++ Builtin.zeroCells #[.int .u8 0] (grownCap w (n + Z) c 5 - (n + Z))) 5), ?_, ?_, ?_⟩
        · simp [Builtin.append_, run_underlying Try.underlying27, run_underlying Try.underlying3, sizeOf, typeInfo, zeroValue, hi, hz0, asInt, asIntOf, hwz, hneg, hnr, h63', h48', h48b, hns, Value.cells, Question.forced, hfo, newRow, grownCap]
        · refine ⟨by simpa using hlen, .inr ⟨w.heap.size, _, _, rfl, hbase, heap_alloc_new w.drew _, hge, hcm2, ?_, ?_⟩⟩
          · simp [size_zeroCells]
            have := hown.len
            omega
          · have := hown.len
            simp only [Array.toList_append, hzc, Nat.mul_one]
            rw [List.take_append_of_le_length (by simp; omega), List.take_of_length_le (by simp; omega)]
            simp
        · exact (Below.refl base w).drew.alloc hbase _
end Seg
end Go.Proofs.Ytedandbkdjmfhaa
