/-
  A MESSAGE AS AN ARGUMENT, IN PLAIN: its four numbers, its row of ints, its row of bytes.
-/
import Derived.Test.YtndcflchdecofaaOpen
import Derived.Deep.Fields
namespace Go.Proofs.Ytndcflchdecofaa
open Go.ChangeShapes Go.WideShapes Go.ChangeAt Go.RowKit Mem
namespace Args

variable {H : Type} {enc : TypeId × Value → H} {W : World}

set_option maxRecDepth 100000 in
theorem raw_ints {k : IntKind} {t e : TypeId} {bytes fuel : Nat} {cs : List Value} {x : DataW H × List MemPlace} (ht : Try.prog.underlying t = some (.slice e)) (he : Try.prog.underlying e = some (.int k)) (hc : Try.prog.cellsOf e = 1) (hb : Try.prog.bytesOf e = bytes) (hb1 : 1 ≤ bytes)
    (hf : DataW.trod enc Try.prog W 0 (fun _ => true) true fuel t cs = some x) (hs : ∀ q ∈ x.1.weights Try.prog t, q ≤ reachBytes) :
    ∃ A n c zs, cs = [.slice A n c] ∧ Row (fun z : Int => Value.int k z) W A n c zs ∧ ∀ z ∈ zs, (Lit.int k z).wf = true := by
  rcases open_ints ht he hc hf with ⟨hcs, _⟩ | ⟨a, l, c, zs, hcs, _, hl, hm, hz, hx, hcell, hwz⟩
  · exact ⟨none, 0, 0, [], hcs, Row.nil _ W, by simp⟩
  · have hz : zs.length = c := by simpa using hz
    have hw := hs (zs.length * bytes) (by
      rw [hx]
      simp [DataW.weights, ht, lits, hb]
      left; rw [hz]; congr 1; omega)
    have hr : l ≤ 140737488351232 := by
      simp only [reachBytes] at hw
      have : zs.length * 1 ≤ zs.length * bytes := Nat.mul_le_mul_left _ hb1
      omega
    exact ⟨some a, l, c, zs.take l, hcs, row_of (by omega) (by omega) hr hcell, fun z hz => hwz z (List.mem_of_mem_take hz)⟩

theorem row_bytes {A : Option Addr} {n c : Nat} {zs : List Int} (h : Row (fun z : Int => Value.int .u8 z) W A n c zs) (hw : ∀ z ∈ zs, (Lit.int .u8 z).wf = true) : Row cb W A n c (zs.map byte) := by
  refine ⟨by rw [List.length_map, h.len], h.cap, h.big, fun h0 => ?_⟩
  obtain ⟨b, o, e, hlt, hc⟩ := h.at_ h0
  refine ⟨b, o, e, hlt, fun i q hi => ?_⟩
  rw [List.getElem?_map] at hi
  obtain ⟨z, hz1, rfl⟩ := Option.map_eq_some_iff.1 hi
  rw [hc i z hz1]
  unfold cb
  rw [u_byte (hw z (List.mem_of_getElem? hz1))]

set_option maxRecDepth 100000 in
theorem open_msg {v : Value} {d : DataW H} {p : List MemPlace} {base : Nat} (hok : Value.okWide Try.prog W .any base 33 v) (h : DataW.Trod enc Try.prog W 0 (fun _ => true) true 33 v d p)
    (hs : ∀ q ∈ d.weights Try.prog 33, q ≤ reachBytes) :
    ∃ k f t i A n c a B m dd x, v = .agg #[.int .i64 k, .int .i64 f, .int .i64 t, .int .i64 i, .slice A n c, .slice B m dd] ∧ (Lit.int .i64 k).wf = true ∧ (Lit.int .i64 f).wf = true ∧ (Lit.int .i64 t).wf = true ∧ (Lit.int .i64 i).wf = true ∧
      Row ci W A n c a ∧ (∀ z ∈ a, (Lit.int .i64 z).wf = true) ∧ Row cb W B m dd x := by
  have hu := Try.underlying33
  obtain ⟨cs, rfl, hsz⟩ := okWide_struct hu hok
  have hC : Try.prog.cellsOf 33 = 6 := by kernel_rfl
  obtain ⟨l⟩ := cs
  have hl6 : l.length = 6 := by simpa [hC] using hsz
  match l, hl6 with
  | [c0, c1, c2, c3, c4, c5], _ =>
    obtain ⟨fuel, hf⟩ := h
    obtain ⟨xs, n, _, hx, _, hlen, hg⟩ := DataW.trod_struct hu hf
    have hxl : xs.length = 6 := hlen
    match xs, hxl with
    | [y0, y1, y2, y3, y4, y5], _ =>
      have one : ∀ t, t = 3 ∨ t = 30 ∨ t = 31 → Try.prog.cellsOf t = 1 := by
        rintro t (rfl | rfl | rfl) <;> kernel_rfl
      have o3 := one 3 (.inl rfl)
      have o22 := one 30 (.inr (.inl rfl))
      have o23 := one 31 (.inr (.inr rfl))
      have g0 := hg 0 _ rfl
      have g1 := hg 1 _ rfl
      have g2 := hg 2 _ rfl
      have g3 := hg 3 _ rfl
      have g4 := hg 4 _ rfl
      have g5 := hg 5 _ rfl
      simp [Value.cells, o3, o22, o23] at g0 g1 g2 g3 g4 g5
      obtain ⟨k, hk, -, wk⟩ := DataW.trod_int Try.underlying3 g0
      obtain ⟨f, hf1, -, wf⟩ := DataW.trod_int Try.underlying3 g1
      obtain ⟨t, ht1, -, wt⟩ := DataW.trod_int Try.underlying3 g2
      obtain ⟨i, hi1, -, wi⟩ := DataW.trod_int Try.underlying3 g3
      simp only [List.cons.injEq, and_true] at hk hf1 ht1 hi1
      subst hk hf1 ht1 hi1
      simp only [Prod.mk.injEq] at hx
      obtain ⟨rfl, -⟩ := hx
      have hsz' : ∀ (j : Nat) (T : TypeId) (y : DataW H × List MemPlace), [3, 3, 3, 3, 30, 31][j]? = some T → ([y0, y1, y2, y3, y4, y5].map (·.1))[j]? = some y.1 → ∀ q ∈ y.1.weights Try.prog T, q ≤ reachBytes := by
        intro j T y hT hy q hq
        refine hs q ?_
        simp only [DataW.weights, hu]
        exact DataW.weights_mem_each hT hy q hq
      obtain ⟨A, na, ca, za, h4, r4, w4⟩ := raw_ints Try.underlying30 Try.underlying3 (by kernel_rfl) (bytes := 8) (by kernel_rfl) (by omega) g4 (hsz' 4 _ y4 rfl rfl)
      obtain ⟨B, nb, cc, zb, h5, r5, w5⟩ := raw_ints Try.underlying31 Try.underlying5 (by kernel_rfl) (bytes := 1) (by kernel_rfl) (by omega) g5 (hsz' 5 _ y5 rfl rfl)
      simp only [List.cons.injEq, and_true] at h4 h5
      subst h4 h5
      exact ⟨k, f, t, i, A, na, ca, za, B, nb, cc, _, rfl, wk, wf, wt, wi, r4, w4, row_bytes r5 w5⟩
end Args
end Go.Proofs.Ytndcflchdecofaa
