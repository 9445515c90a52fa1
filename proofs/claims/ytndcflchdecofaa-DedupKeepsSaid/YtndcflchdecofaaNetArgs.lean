/-
  A LAW'S ARGUMENTS: messages.
-/
import Derived.Test.YtndcflchdecofaaOpenMsg
import Derived.Test.YtndcflchdecofaaNetMem
namespace Go.Proofs.Ytndcflchdecofaa
open Go.ChangeShapes Go.WideShapes Go.ChangeAt Go.RowKit Mem
open Net
namespace Args
variable {H : Type} {enc : TypeId × Value → H} {W : World}

set_option maxRecDepth 100000 in
theorem raw_intsN {k : IntKind} {t e : TypeId} {bytes fuel : Nat} {cs : List Value} {x : DataW H × List MemPlace} (ht : Try.prog.underlying t = some (.slice e)) (he : Try.prog.underlying e = some (.int k)) (hc : Try.prog.cellsOf e = 1) (hb : Try.prog.bytesOf e = bytes) (hb1 : 1 ≤ bytes)
    (hf : DataW.trod enc Try.prog W 0 (fun _ => true) true fuel t cs = some x) (hs : ∀ q ∈ x.1.weights Try.prog t, q ≤ reachBytes) :
    ∃ A n c zs, cs = [.slice A n c] ∧ Row (fun z : Int => Value.int k z) W A n c zs ∧ (∀ z ∈ zs, (Lit.int k z).wf = true) ∧ n * bytes ≤ reachBytes := by
  rcases open_ints ht he hc hf with ⟨hcs, _⟩ | ⟨a, l, c, zs, hcs, _, hl, hm, hz, hx, hcell, hwz⟩
  · exact ⟨none, 0, 0, [], hcs, Row.nil _ W, by simp, by omega⟩
  · have hz : zs.length = c := by simpa using hz
    have hw := hs (zs.length * bytes) (by
      rw [hx]
      simp [DataW.weights, ht, lits, hb]
      left; rw [hz]; congr 1; omega)
    have hle : l * bytes ≤ zs.length * bytes := Nat.mul_le_mul_right _ (by omega)
    have hr : l ≤ 140737488351232 := by
      simp only [reachBytes] at hw
      have : l * 1 ≤ l * bytes := Nat.mul_le_mul_left _ hb1
      omega
    exact ⟨some a, l, c, zs.take l, hcs, row_of (by omega) (by omega) hr hcell, fun z hz => hwz z (List.mem_of_mem_take hz), Nat.le_trans hle hw⟩

set_option maxRecDepth 100000 in
/-- A message's six cells. -/
theorem raw_msg {fuel : Nat} {cs : List Value} {x : DataW H × List MemPlace} (hf : DataW.trod enc Try.prog W 0 (fun _ => true) true fuel 33 cs = some x) (hl : cs.length = 6) (hs : ∀ q ∈ x.1.weights Try.prog 33, q ≤ reachBytes) :
    ∃ v : Mx, cs = cellsM v ∧ MAt W v := by
  have hu := Try.underlying33
  match cs, hl with
  | [c0, c1, c2, c3, c4, c5], _ =>
    obtain ⟨xs, n, _, hx, _, hlen, hg⟩ := DataW.trod_struct hu hf
    have hxl : xs.length = 6 := hlen
    match xs, hxl with
    | [y0, y1, y2, y3, y4, y5], _ =>
      have one : ∀ t, t = 3 ∨ t = 30 ∨ t = 31 → Try.prog.cellsOf t = 1 := by
        rintro t (rfl | rfl | rfl) <;> kernel_rfl
      have o3 := one 3 (.inl rfl)
      have o22 := one 30 (.inr (.inl rfl))
      have o23 := one 31 (.inr (.inr rfl))
      have g0 := hg 0 _ rfl
      have g1 := hg 1 _ rfl
      have g2 := hg 2 _ rfl
      have g3 := hg 3 _ rfl
      have g4 := hg 4 _ rfl
      have g5 := hg 5 _ rfl
      simp [o3, o22, o23] at g0 g1 g2 g3 g4 g5
      obtain ⟨k, hk, -, wk⟩ := DataW.trod_int Try.underlying3 g0
      obtain ⟨f, hf1, -, wf⟩ := DataW.trod_int Try.underlying3 g1
      obtain ⟨t, ht1, -, wt⟩ := DataW.trod_int Try.underlying3 g2
      obtain ⟨i, hi1, -, wi⟩ := DataW.trod_int Try.underlying3 g3
      simp only [List.cons.injEq, and_true] at hk hf1 ht1 hi1
      subst hk hf1 ht1 hi1
      subst hx
      have hsz' : ∀ (j : Nat) (T : TypeId) (y : DataW H × List MemPlace), [3, 3, 3, 3, 30, 31][j]? = some T → ([y0, y1, y2, y3, y4, y5].map (·.1))[j]? = some y.1 → ∀ q ∈ y.1.weights Try.prog T, q ≤ reachBytes := by
        intro j T y hT hy q hq
        refine hs q ?_
        simp only [DataW.weights, hu]
        exact DataW.weights_mem_each hT hy q hq
      obtain ⟨A, na, ca, za, h4, r4, w4, b4⟩ := raw_intsN Try.underlying30 Try.underlying3 (by kernel_rfl) (bytes := 8) (by kernel_rfl) (by omega) g4 (hsz' 4 _ y4 rfl rfl)
      obtain ⟨B, nb, cc, zb, h5, r5, w5, b5⟩ := raw_intsN Try.underlying31 Try.underlying5 (by kernel_rfl) (bytes := 1) (by kernel_rfl) (by omega) g5 (hsz' 5 _ y5 rfl rfl)
      simp only [List.cons.injEq, and_true] at h4 h5
      subst h4 h5
      refine ⟨⟨k, f, t, i, A, na, ca, za, B, nb, cc, zb.map byte⟩, rfl, r4, row_bytes r5 w5, fun z hz => ?_, fun z hz => ?_, ?_⟩
      · have b0 := i64_of wk
        have b1 := i64_of wf
        have b2 := i64_of wt
        have b3 := i64_of wi
        simp only [Mx.p, List.mem_cons, List.not_mem_nil, or_false] at hz
        rcases hz with rfl | rfl | rfl | rfl <;> omega
      · have := i64_of (w4 z hz)
        omega
      · have := r4.len
        simp only [reachBytes] at b4
        show za.length ≤ _
        omega
end Args
end Go.Proofs.Ytndcflchdecofaa
