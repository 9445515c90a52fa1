/-
  WHAT A LAW'S ARGUMENTS SAY IN PLAIN: a device, a slice of commands.
-/
import Derived.Test.YtnnphpfobdcmbaaZnsMem
import Derived.Test.YtnnphpfobdcmbaaRowS
namespace Go.Proofs.Ytnnphpfobdcmbaa
open Go.ChangeShapes Go.WideShapes Go.ChangeAt Go.RowKit Mem
namespace Args
open Zon Zns
variable {H : Type} {enc : TypeId × Value → H} {W : World}

set_option maxRecDepth 100000 in
/-- A slice of structs, as a cell. -/
theorem raw_rowS {α : Type} {cells : α → List Value} {k bytes : Nat} {p : α → Prop} {t e : TypeId} (hu : Try.prog.underlying t = some (.slice e)) (hC : Try.prog.cellsOf e = k) (hB : Try.prog.bytesOf e = bytes) (hb1 : 1 ≤ bytes) (hk : 0 < k)
    (raw : ∀ (fuel : Nat) (cs : List Value) (x : DataW H × List MemPlace), DataW.trod enc Try.prog W 0 (fun _ => true) true fuel e cs = some x → cs.length = k → (∀ q ∈ x.1.weights Try.prog e, q ≤ reachBytes) → ∃ v : α, cs = cells v ∧ p v)
    {fuel : Nat} {cs0 : List Value} {x0 : DataW H × List MemPlace} (hf : DataW.trod enc Try.prog W 0 (fun _ => true) true fuel t cs0 = some x0)
    (hs : ∀ q ∈ x0.1.weights Try.prog t, q ≤ reachBytes) : ∃ A n c xs, cs0 = [.slice A n c] ∧ RowS cells k W A n c xs ∧ ∀ x ∈ xs, p x := by
  rcases Go.Deep.open_slice hu hf with ⟨hcs, _⟩ | ⟨a, len0, cap0, m, n, D, Pl, hcs, hb, hl, hm, hmm, hx, hi⟩
  · exact ⟨none, 0, 0, [], hcs, RowS.nil _ _ _, by simp⟩
  · simp only [if_true] at hmm
    subst hmm
    subst hx
    have hw := hs ((len0 + (m - len0)) * bytes) (by simp [DataW.weights, hu, hB])
    have hbig : len0 ≤ 140737488351232 := by
      simp only [reachBytes] at hw
      have : len0 * 1 ≤ (len0 + (m - len0)) * bytes := Nat.mul_le_mul (by omega) hb1
      omega
    rcases Nat.eq_zero_or_pos len0 with h0 | h0
    · subst h0
      exact ⟨_, 0, m, [], hcs, ⟨rfl, by omega, by omega, fun h => absurd h (by omega)⟩, by simp⟩
    · have hex : ∀ i, i < len0 → ∃ v : α, (∀ j u, (cells v)[j]? = some u → W.cell? (a.add (i * k + j)) = some u) ∧ p v ∧ (cells v).length = k := by
        intro i hil
        obtain ⟨cs', hc, ht⟩ := hi i (by omega)
        rw [hC] at hc
        obtain ⟨_, hcl, hat⟩ := World.cells?_some hc
        obtain ⟨v, rfl, hp⟩ := raw _ _ _ ht hcl (fun q hq => by
          refine hs q ?_
          simp only [DataW.weights, hu, List.mem_cons, List.mem_append]
          exact .inr (.inl (weights_of _ _ (List.mem_map.2 ⟨i, List.mem_range.2 hil, rfl⟩) q hq)))
        refine ⟨v, fun j u hj => ?_, hp, hcl⟩
        have hjl : j < k := by have := (List.getElem?_eq_some_iff.1 hj).1; omega
        rw [← Go.Deep.add_add, hat j hjl, hj]
      obtain ⟨f, hf⟩ := Classical.axiomOfChoice (r := fun (i : Fin len0) (v : α) => (∀ j u, (cells v)[j]? = some u → W.cell? (a.add (i.1 * k + j)) = some u) ∧ p v ∧ (cells v).length = k) (fun i => hex i.1 i.2)
      obtain ⟨b, o, s⟩ := a
      obtain ⟨u0, hu0⟩ : ∃ u, (cells (f ⟨0, h0⟩))[0]? = some u := ⟨_, List.getElem?_eq_getElem (by have := (hf ⟨0, h0⟩).2.2; omega)⟩
      have hc0 := (hf ⟨0, h0⟩).1 0 _ hu0
      have hsp : s = none := by simpa [Addr.add] using World.cell?_spot hc0
      subst hsp
      have hblk : b < W.heap.size := World.block_lt_of_cell? W ⟨b, o, none⟩ (by simpa [Addr.add] using hc0)
      refine ⟨_, len0, m, List.ofFn f, hcs, ⟨by simp, by omega, hbig, fun _ => ⟨b, o, rfl, hblk, fun i x hx j u hu => ?_⟩⟩, fun x hx => ?_⟩
      · rw [List.getElem?_ofFn] at hx
        split at hx
        · rename_i hil
          simp only [Option.some.injEq] at hx
          subst hx
          have := (hf ⟨i, hil⟩).1 j u hu
          rw [add_none] at this
          rwa [Nat.add_assoc]
        · cases hx
      · obtain ⟨i, rfl⟩ := List.mem_ofFn.1 hx
        exact (hf i).2.1

set_option maxRecDepth 100000 in
theorem open_dev {v : Value} {d : DataW H} {p : List MemPlace} {base : Nat} (hok : Value.okWide Try.prog W .any base 38 v) (h : DataW.Trod enc Try.prog W 0 (fun _ => true) true 38 v d p)
    (hs : ∀ q ∈ d.weights Try.prog 38, q ≤ reachBytes) : ∃ x : Dx, v = dxv x ∧ DevAt W x := by
  have hu := Try.underlying38
  obtain ⟨cs, rfl, hsz⟩ := okWide_struct hu hok
  have hC : Try.prog.cellsOf 38 = 4 := by kernel_rfl
  obtain ⟨l⟩ := cs
  have hl4 : l.length = 4 := by simpa [hC] using hsz
  obtain ⟨fuel, hf⟩ := h
  match l, hl4 with
  | [c0, c1, c2, c3], _ =>
    obtain ⟨xs, n, _, hx, _, hlen, hg⟩ := DataW.trod_struct hu hf
    have hxl : xs.length = 4 := hlen
    match xs, hxl with
    | [y0, y1, y2, y3], _ =>
      have o3 : Try.prog.cellsOf 3 = 1 := by kernel_rfl
      have o27 : Try.prog.cellsOf 36 = 1 := by kernel_rfl
      have g0 := hg 0 _ rfl
      have g1 := hg 1 _ rfl
      have g2 := hg 2 _ rfl
      have g3 := hg 3 _ rfl
      simp [o3, o27, Value.cells] at g0 g1 g2 g3
      obtain ⟨z0, h0, -, w0⟩ := DataW.trod_int Try.underlying3 g0
      obtain ⟨z1, h1, -, w1⟩ := DataW.trod_int Try.underlying3 g1
      obtain ⟨z2, h2, -, w2⟩ := DataW.trod_int Try.underlying3 g2
      simp only [List.cons.injEq, and_true] at h0 h1 h2
      subst h0 h1 h2
      simp only [Prod.mk.injEq] at hx
      obtain ⟨hx, -⟩ := hx
      subst hx
      obtain ⟨A, na, ca, zs, h3, r3, p3⟩ := raw_rowS (cells := cellsZ) (k := 3) (bytes := 40) (p := fun x : Zv => Row cb W x.D x.z.data.length x.c x.z.data) Try.underlying36 (by kernel_rfl) (by kernel_rfl) (by omega) (by omega) (fun _ _ _ h1 h2 h3 => raw_zone h1 h2 h3) g3 (fun q hq => by
        refine hs q ?_
        simp only [DataW.weights, hu]
        exact DataW.weights_mem_each (j := 3) rfl rfl q hq)
      simp only [List.cons.injEq, and_true] at h3
      subst h3
      exact ⟨⟨z0, z1, z2, A, na, ca, zs⟩, rfl, r3, p3⟩
end Args
end Go.Proofs.Ytnnphpfobdcmbaa
