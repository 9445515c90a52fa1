/-
  SLICES OF STRUCTS IN MEMORY, AND AS ARGUMENTS, IN ONE FOR ALL TYPES: an element's cells by a function of the prover's own.
-/
import Derived.Test.YtedandbkdjmfhaaOpen
import Derived.Deep.Fields
import Derived.Deep.Slices
namespace Go.Proofs.Ytedandbkdjmfhaa
open Go.ChangeShapes Go.WideShapes Go.ChangeAt Go.RowKit Mem

/-- The slice reads as these elements, each of k cells. -/
structure RowS {α : Type} (cells : α → List Value) (k : Nat) (w : World) (A : Option Addr) (n c : Nat) (xs : List α) : Prop where
  len : xs.length = n
  cap : n ≤ c
  big : n ≤ 140737488351232
  at_ : 0 < n → ∃ b o, A = some ⟨b, o, none⟩ ∧ b < w.heap.size ∧ ∀ i x, xs[i]? = some x → ∀ j u, (cells x)[j]? = some u → w.cell? ⟨b, o + i * k + j, none⟩ = some u
section
variable {α : Type} {cells : α → List Value} {k : Nat} {w w' : World} {A : Option Addr} {n c : Nat} {xs : List α}
theorem RowS.nil (cells : α → List Value) (k : Nat) (w : World) : RowS cells k w none 0 0 [] := ⟨rfl, by omega, by omega, fun h => absurd h (by omega)⟩
theorem RowS.below (h : RowS cells k w A n c xs) (hb : Below w.heap.size w w') : RowS cells k w' A n c xs := by
  refine ⟨h.len, h.cap, h.big, fun h0 => ?_⟩
  obtain ⟨b, o, e, hx, hc⟩ := h.at_ h0
  refine ⟨b, o, e, Nat.lt_of_lt_of_le hx hb.size, fun i x hi j u hu => ?_⟩
  rw [World.cell?_of_block (w := w) (hb.block b hx)]
  exact hc i x hi j u hu
theorem RowS.get (h : RowS cells k w A n c xs) {i : Nat} (hi : i < n) : ∃ x, xs[i]? = some x := ⟨_, List.getElem?_eq_getElem (by have := h.len; omega)⟩
/-- Where an element's cells lie, now and as long as that block stays. -/
theorem RowS.elem (h : RowS cells k w A n c xs) {i : Nat} {x : α} (hx : xs[i]? = some x) : ∃ b o, A = some ⟨b, o, none⟩ ∧ b < w.heap.size ∧ ∀ W : World, W.heap[b]? = w.heap[b]? → ∀ j u, (cells x)[j]? = some u → W.cell? ⟨b, o + i * k + j, none⟩ = some u := by
  have : i < xs.length := (List.getElem?_eq_some_iff.1 hx).1
  obtain ⟨b, o, e, hb, hc⟩ := h.at_ (by have := h.len; omega)
  refine ⟨b, o, e, hb, fun W hW j u hu => ?_⟩
  rw [World.cell?_of_block (w := w) hW]
  exact hc i x hx j u hu
end

namespace Args
variable {H : Type} {enc : TypeId × Value → H} {W : World}

theorem weights_of {t : TypeId} : ∀ (l : List (DataW H)) (e : DataW H), e ∈ l → ∀ q ∈ e.weights Try.prog t, q ∈ DataW.weightsAll Try.prog t l := by
  intro l
  induction l with
  | nil => intro e he; cases he
  | cons y l ih =>
    intro e he q hq
    simp only [DataW.weightsAll, List.mem_append]
    rcases List.mem_cons.1 he with rfl | he
    · exact .inl hq
    · exact .inr (ih e he q hq)

set_option maxRecDepth 100000 in
/-- A slice of structs: raw opens one element. -/
theorem open_rowS {α : Type} {cells : α → List Value} {k bytes : Nat} {p : α → Prop} {t e : TypeId} (hu : Try.prog.underlying t = some (.slice e)) (hC : Try.prog.cellsOf e = k) (hB : Try.prog.bytesOf e = bytes) (hb1 : 1 ≤ bytes) (hk : 0 < k)
    (raw : ∀ (fuel : Nat) (cs : List Value) (x : DataW H × List MemPlace), DataW.trod enc Try.prog W 0 (fun _ => true) true fuel e cs = some x → cs.length = k → (∀ q ∈ x.1.weights Try.prog e, q ≤ reachBytes) → ∃ v : α, cs = cells v ∧ p v)
    {v : Value} {d : DataW H} {ps : List MemPlace} {base : Nat} (hok : Value.okWide Try.prog W .any base t v) (h : DataW.Trod enc Try.prog W 0 (fun _ => true) true t v d ps)
    (hs : ∀ q ∈ d.weights Try.prog t, q ≤ reachBytes) : ∃ A n c xs, v = .slice A n c ∧ RowS cells k W A n c xs ∧ ∀ x ∈ xs, p x := by
  obtain ⟨a0, len0, cap0, rfl⟩ := okWide_slice hu hok
  obtain ⟨fuel, hf⟩ := h
  rcases Go.Deep.open_slice hu hf with ⟨hcs, _⟩ | ⟨a, len, cap, m, n, D, Pl, hcs, hb, hl, hm, hmm, hx, hi⟩
  · simp [Value.cells] at hcs
    obtain ⟨rfl, rfl, rfl⟩ := hcs
    exact ⟨none, 0, 0, [], rfl, RowS.nil _ _ _, by simp⟩
  · simp [Value.cells] at hcs
    obtain ⟨rfl, rfl, rfl⟩ := hcs
    simp only [if_true] at hmm
    subst hmm
    simp only [Prod.mk.injEq] at hx
    obtain ⟨rfl, rfl⟩ := hx
    have hw := hs ((len0 + (m - len0)) * bytes) (by simp [DataW.weights, hu, hB])
    have hbig : len0 ≤ 140737488351232 := by
      simp only [reachBytes] at hw
      have : len0 * 1 ≤ (len0 + (m - len0)) * bytes := Nat.mul_le_mul (by omega) hb1
      omega
    rcases Nat.eq_zero_or_pos len0 with h0 | h0
    · subst h0
      exact ⟨_, 0, m, [], rfl, ⟨rfl, by omega, by omega, fun h => absurd h (by omega)⟩, by simp⟩
    · have hex : ∀ i, i < len0 → ∃ v : α, (∀ j u, (cells v)[j]? = some u → W.cell? (a.add (i * k + j)) = some u) ∧ p v ∧ (cells v).length = k := by
        intro i hil
        obtain ⟨cs', hc, ht⟩ := hi i (by omega)
        rw [hC] at hc
        obtain ⟨_, hcl, hat⟩ := World.cells?_some hc
        obtain ⟨v, rfl, hp⟩ := raw _ _ _ ht hcl (fun q hq => by
          refine hs q ?_
          simp only [DataW.weights, hu, List.mem_cons, List.mem_append]
          exact .inr (.inl (weights_of _ _ (List.mem_map.2 ⟨i, List.mem_range.2 hil, rfl⟩) q hq)))
        refine ⟨v, fun j u hj => ?_, hp, hcl⟩
        have hjl : j < k := by have := (List.getElem?_eq_some_iff.1 hj).1; omega
        rw [← Go.Deep.add_add, hat j hjl, hj]
      obtain ⟨f, hf⟩ := Classical.axiomOfChoice (r := fun (i : Fin len0) (v : α) => (∀ j u, (cells v)[j]? = some u → W.cell? (a.add (i.1 * k + j)) = some u) ∧ p v ∧ (cells v).length = k) (fun i => hex i.1 i.2)
      obtain ⟨b, o, s⟩ := a
      obtain ⟨u0, hu0⟩ : ∃ u, (cells (f ⟨0, h0⟩))[0]? = some u := ⟨_, List.getElem?_eq_getElem (by have := (hf ⟨0, h0⟩).2.2; omega)⟩
      have hc0 := (hf ⟨0, h0⟩).1 0 _ hu0
      have hsp : s = none := by simpa [Addr.add] using World.cell?_spot hc0
      subst hsp
      have hblk : b < W.heap.size := World.block_lt_of_cell? W ⟨b, o, none⟩ (by simpa [Addr.add] using hc0)
      refine ⟨_, len0, m, List.ofFn f, rfl, ⟨by simp, by omega, hbig, fun _ => ⟨b, o, rfl, hblk, fun i x hx j u hu => ?_⟩⟩, fun x hx => ?_⟩
      · rw [List.getElem?_ofFn] at hx
        split at hx
        · rename_i hil
          simp only [Option.some.injEq] at hx
          subst hx
          have := (hf ⟨i, hil⟩).1 j u hu
          rw [add_none] at this
          rwa [Nat.add_assoc]
        · cases hx
      · obtain ⟨i, rfl⟩ := List.mem_ofFn.1 hx
        exact (hf i).2.1

/-- A slice's cell: bytes. -/
theorem raw_bytes_ {fuel : Nat} {cs : List Value} {x : DataW H × List MemPlace} (hf : DataW.trod enc Try.prog W 0 (fun _ => true) true fuel 27 cs = some x) (hs : ∀ q ∈ x.1.weights Try.prog 27, q ≤ reachBytes) :
    ∃ A n c l, cs = [.slice A n c] ∧ Row cb W A n c l := by
  rcases open_ints Try.underlying27 Try.underlying5 (by kernel_rfl) hf with ⟨hcs, _⟩ | ⟨a, l, c, zs, hcs, _, hl, hm, hz, hx, hcell, hwz⟩
  · exact ⟨none, 0, 0, [], hcs, Row.nil _ W⟩
  · have hz : zs.length = c := by simpa using hz
    have hb : Try.prog.bytesOf 5 = 1 := by kernel_rfl
    have hw := hs (zs.length * 1) (by
      rw [hx]
      simp [DataW.weights, Try.underlying27, lits, hb]
      left; omega)
    have hr : l ≤ 140737488351232 := by simp only [reachBytes] at hw; omega
    have hrow := row_of (W := W) (k := .u8) (x := a) (n := l) (c := c) (zs := zs) (by omega) (by omega) hr hcell
    refine ⟨some a, l, c, (zs.take l).map byte, hcs, ⟨by simp; omega, by omega, hr, fun h0 => ?_⟩⟩
    obtain ⟨b, o, e, hlt, hc⟩ := hrow.at_ h0
    refine ⟨b, o, e, hlt, fun i q hi => ?_⟩
    rw [List.getElem?_map] at hi
    obtain ⟨z, hz1, rfl⟩ := Option.map_eq_some_iff.1 hi
    rw [hc i z hz1]
    unfold cb
    rw [u_byte (hwz z (List.mem_of_mem_take (List.mem_of_getElem? hz1)))]
end Args
end Go.Proofs.Ytedandbkdjmfhaa
