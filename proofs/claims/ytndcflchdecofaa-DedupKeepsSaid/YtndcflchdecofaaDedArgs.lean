/-
  THE LAWS' ARGUMENTS: operations; lists of those who asked.
-/
import Derived.Test.YtndcflchdecofaaDedMem
import Derived.Test.YtndcflchdecofaaNetArgs
namespace Go.Proofs.Ytndcflchdecofaa
open Go.ChangeShapes Go.WideShapes Go.ChangeAt Go.RowKit Mem Box
namespace Ded
/-- An operation. -/
structure Px where
  f : Int
  i : Int
  k : Int
  g : Bool
def cellsP (x : Px) : List Value := [.int .i64 x.f, .int .i64 x.i, .int .i64 x.k, .bool x.g]
def Px.fits (x : Px) : Prop := (-9223372036854775808 ≤ x.k ∧ x.k < 9223372036854775808) ∧ (-9223372036854775808 ≤ x.i ∧ x.i < 9223372036854775808) ∧ (Lit.int .i64 x.f).wf = true ∧ (Lit.int .i64 x.i).wf = true
theorem ops_cells {w : World} {A : Option Addr} {n c : Nat} {l : List Px} (h : RowS cellsP 4 w A n c l) {i : Nat} {x : Px} (hx : l[i]? = some x) : ∃ b o, A = some ⟨b, o, none⟩ ∧ ∀ W : World, Below w.heap.size w W →
    W.cell? ⟨b, o + i * 4, none⟩ = some (.int .i64 x.f) ∧ W.cell? ⟨b, o + i * 4 + 1, none⟩ = some (.int .i64 x.i) ∧ W.cell? ⟨b, o + i * 4 + 2, none⟩ = some (.int .i64 x.k) ∧ W.cell? ⟨b, o + i * 4 + 3, none⟩ = some (.bool x.g) := by
  obtain ⟨b, o, e, hb, hc⟩ := h.elem hx
  refine ⟨b, o, e, fun W hW => ?_⟩
  have hh := hc W (hW.block b hb)
  exact ⟨hh 0 _ rfl, hh 1 _ rfl, hh 2 _ rfl, hh 3 _ rfl⟩
end Ded
namespace Args
open Ded Net
variable {H : Type} {enc : TypeId × Value → H} {W : World}
set_option maxRecDepth 100000 in
/-- A slice of structs, as a cell. -/
theorem raw_rowS {α : Type} {cells : α → List Value} {k bytes : Nat} {p : α → Prop} {t e : TypeId} (hu : Try.prog.underlying t = some (.slice e)) (hC : Try.prog.cellsOf e = k) (hB : Try.prog.bytesOf e = bytes) (hb1 : 1 ≤ bytes) (hk : 0 < k)
    (raw : ∀ (fuel : Nat) (cs : List Value) (x : DataW H × List MemPlace), DataW.trod enc Try.prog W 0 (fun _ => true) true fuel e cs = some x → cs.length = k → (∀ q ∈ x.1.weights Try.prog e, q ≤ reachBytes) → ∃ v : α, cs = cells v ∧ p v)
    {fuel : Nat} {cs0 : List Value} {x0 : DataW H × List MemPlace} (hf : DataW.trod enc Try.prog W 0 (fun _ => true) true fuel t cs0 = some x0)
    (hs : ∀ q ∈ x0.1.weights Try.prog t, q ≤ reachBytes) : ∃ A n c xs, cs0 = [.slice A n c] ∧ RowS cells k W A n c xs ∧ ∀ x ∈ xs, p x := by
  rcases Go.Deep.open_slice hu hf with ⟨hcs, _⟩ | ⟨a, len0, cap0, m, n, D, Pl, hcs, hb, hl, hm, hmm, hx, hi⟩
  · exact ⟨none, 0, 0, [], hcs, RowS.nil _ _ _, by simp⟩
  · simp only [if_true] at hmm
    subst hmm
    subst hx
    have hw := hs ((len0 + (m - len0)) * bytes) (by simp [DataW.weights, hu, hB])
    have hbig : len0 ≤ 140737488351232 := by
      simp only [reachBytes] at hw
      have : len0 * 1 ≤ (len0 + (m - len0)) * bytes := Nat.mul_le_mul (by omega) hb1
      omega
    rcases Nat.eq_zero_or_pos len0 with h0 | h0
    · subst h0
      exact ⟨_, 0, m, [], hcs, ⟨rfl, by omega, by omega, fun h => absurd h (by omega)⟩, by simp⟩
    · have hex : ∀ i, i < len0 → ∃ v : α, (∀ j u, (cells v)[j]? = some u → W.cell? (a.add (i * k + j)) = some u) ∧ p v ∧ (cells v).length = k := by
        intro i hil
        obtain ⟨cs', hc, ht⟩ := hi i (by omega)
        rw [hC] at hc
        obtain ⟨_, hcl, hat⟩ := World.cells?_some hc
        obtain ⟨v, rfl, hp⟩ := raw _ _ _ ht hcl (fun q hq => by
          refine hs q ?_
          simp only [DataW.weights, hu, List.mem_cons, List.mem_append]
          exact .inr (.inl (weights_of _ _ (List.mem_map.2 ⟨i, List.mem_range.2 hil, rfl⟩) q hq)))
        refine ⟨v, fun j u hj => ?_, hp, hcl⟩
        have hjl : j < k := by have := (List.getElem?_eq_some_iff.1 hj).1; omega
        rw [← Go.Deep.add_add, hat j hjl, hj]
      obtain ⟨f, hf⟩ := Classical.axiomOfChoice (r := fun (i : Fin len0) (v : α) => (∀ j u, (cells v)[j]? = some u → W.cell? (a.add (i.1 * k + j)) = some u) ∧ p v ∧ (cells v).length = k) (fun i => hex i.1 i.2)
      obtain ⟨b, o, s⟩ := a
      obtain ⟨u0, hu0⟩ : ∃ u, (cells (f ⟨0, h0⟩))[0]? = some u := ⟨_, List.getElem?_eq_getElem (by have := (hf ⟨0, h0⟩).2.2; omega)⟩
      have hc0 := (hf ⟨0, h0⟩).1 0 _ hu0
      have hsp : s = none := by simpa [Addr.add] using World.cell?_spot hc0
      subst hsp
      have hblk : b < W.heap.size := World.block_lt_of_cell? W ⟨b, o, none⟩ (by simpa [Addr.add] using hc0)
      refine ⟨_, len0, m, List.ofFn f, hcs, ⟨by simp, by omega, hbig, fun _ => ⟨b, o, rfl, hblk, fun i x hx j u hu => ?_⟩⟩, fun x hx => ?_⟩
      · rw [List.getElem?_ofFn] at hx
        split at hx
        · rename_i hil
          simp only [Option.some.injEq] at hx
          subst hx
          have := (hf ⟨i, hil⟩).1 j u hu
          rw [add_none] at this
          rwa [Nat.add_assoc]
        · cases hx
      · obtain ⟨i, rfl⟩ := List.mem_ofFn.1 hx
        exact (hf i).2.1


set_option maxRecDepth 100000 in
/-- An operation's four cells. -/
theorem raw_opD {fuel : Nat} {cs : List Value} {x : DataW H × List MemPlace} (hf : DataW.trod enc Try.prog W 0 (fun _ => true) true fuel 28 cs = some x) (hl : cs.length = 4) :
    ∃ v : Px, cs = cellsP v ∧ v.fits := by
  have hu := Try.underlying28
  match cs, hl with
  | [c0, c1, c2, c3], _ =>
    obtain ⟨xs, n, _, hx, _, hlen, hg⟩ := DataW.trod_struct hu hf
    have hxl : xs.length = 4 := hlen
    match xs, hxl with
    | [y0, y1, y2, y3], _ =>
      have o3 : Try.prog.cellsOf 3 = 1 := by kernel_rfl
      have o4 : Try.prog.cellsOf 4 = 1 := by kernel_rfl
      have g0 := hg 0 _ rfl
      have g1 := hg 1 _ rfl
      have g2 := hg 2 _ rfl
      have g3 := hg 3 _ rfl
      simp [o3, o4] at g0 g1 g2 g3
      obtain ⟨f, hf1, -, wf⟩ := DataW.trod_int Try.underlying3 g0
      obtain ⟨i, hi1, -, wi⟩ := DataW.trod_int Try.underlying3 g1
      obtain ⟨k, hk1, -, wk⟩ := DataW.trod_int Try.underlying3 g2
      obtain ⟨b, hb1, -⟩ := DataW.trod_bool Try.underlying4 g3
      simp only [List.cons.injEq, and_true] at hf1 hi1 hk1 hb1
      subst hf1 hi1 hk1 hb1
      exact ⟨⟨f, i, k, b⟩, rfl, by have := i64_of wk; dsimp only; omega, by have := i64_of wi; dsimp only; omega, wf, wi⟩
set_option maxRecDepth 100000 in
theorem open_opsD {v : Value} {d : DataW H} {p : List MemPlace} {base : Nat} (hok : Value.okWide Try.prog W .any base 22 v) (h : DataW.Trod enc Try.prog W 0 (fun _ => true) true 22 v d p)
    (hs : ∀ q ∈ d.weights Try.prog 22, q ≤ reachBytes) : ∃ A n c xs, v = .slice A n c ∧ RowS cellsP 4 W A n c xs ∧ ∀ x ∈ xs, Px.fits x :=
  open_rowS (cells := cellsP) (k := 4) (bytes := 32) (p := Px.fits) Try.underlying22 (by kernel_rfl) (by kernel_rfl) (by omega) (by omega) (fun _ _ _ hf hl _ => raw_opD hf hl) hok h hs

set_option maxRecDepth 100000 in
/-- An answer's seven cells. -/
theorem raw_said {fuel : Nat} {cs : List Value} {x : DataW H × List MemPlace} (hf : DataW.trod enc Try.prog W 0 (fun _ => true) true fuel 56 cs = some x) (hl : cs.length = 7) (hs : ∀ q ∈ x.1.weights Try.prog 56, q ≤ reachBytes) :
    ∃ v : Dx, cs = cellsD v ∧ MAt W v.m := by
  have hu := Try.underlying56
  match cs, hl with
  | [c0, c1, c2, c3, c4, c5, c6], _ =>
    obtain ⟨xs, n, _, hx, _, hlen, hg⟩ := DataW.trod_struct hu hf
    have hxl : xs.length = 2 := hlen
    match xs, hxl with
    | [y0, y1], _ =>
      have o3 : Try.prog.cellsOf 3 = 1 := by kernel_rfl
      have o6 : Try.prog.cellsOf 33 = 6 := by kernel_rfl
      have g0 := hg 0 _ rfl
      have g1 := hg 1 _ rfl
      simp [o3, o6] at g0 g1
      obtain ⟨i, hi1, -, wi⟩ := DataW.trod_int Try.underlying3 g0
      simp only [List.cons.injEq, and_true] at hi1
      subst hi1
      subst hx
      obtain ⟨m, hm, hat⟩ := raw_msg g1 rfl (fun q hq => by
        refine hs q ?_
        simp only [DataW.weights, hu]
        exact DataW.weights_mem_each (j := 1) rfl rfl q hq)
      exact ⟨⟨i, m⟩, by unfold cellsD; rw [← hm], hat⟩
set_option maxRecDepth 100000 in
/-- The three cells of one who asked. -/
theorem raw_seen {fuel : Nat} {cs : List Value} {x : DataW H × List MemPlace} (hf : DataW.trod enc Try.prog W 0 (fun _ => true) true fuel 51 cs = some x) (hl : cs.length = 3) (hs : ∀ q ∈ x.1.weights Try.prog 51, q ≤ reachBytes) :
    ∃ v : Sx, cs = cellsS v ∧ SeenAt W v := by
  have hu := Try.underlying51
  match cs, hl with
  | [c0, c1, c2], _ =>
    obtain ⟨xs, n, _, hx, _, hlen, hg⟩ := DataW.trod_struct hu hf
    have hxl : xs.length = 3 := hlen
    match xs, hxl with
    | [y0, y1, y2], _ =>
      have o3 : Try.prog.cellsOf 3 = 1 := by kernel_rfl
      have o49 : Try.prog.cellsOf 49 = 1 := by kernel_rfl
      have g0 := hg 0 _ rfl
      have g1 := hg 1 _ rfl
      have g2 := hg 2 _ rfl
      simp [o3, o49] at g0 g1 g2
      obtain ⟨f, hf1, -, wf⟩ := DataW.trod_int Try.underlying3 g0
      obtain ⟨b, hb1, -, wb⟩ := DataW.trod_int Try.underlying3 g1
      simp only [List.cons.injEq, and_true] at hf1 hb1
      subst hf1 hb1
      subst hx
      obtain ⟨A, na, ca, za, h4, r4, w4⟩ := raw_rowS (cells := cellsD) (k := 7) (bytes := 88) (p := fun v => MAt W v.m) Try.underlying49 (by kernel_rfl) (by kernel_rfl) (by omega) (by omega) (fun _ _ _ h1 h2 h3 => raw_said h1 h2 h3) g2 (fun q hq => by
        refine hs q ?_
        simp only [DataW.weights, hu]
        exact DataW.weights_mem_each (j := 2) rfl rfl q hq)
      simp only [List.cons.injEq, and_true] at h4
      subst h4
      exact ⟨⟨f, b, A, na, ca, za⟩, rfl, r4, w4⟩
set_option maxRecDepth 100000 in
theorem open_seens {v : Value} {d : DataW H} {p : List MemPlace} {base : Nat} (hok : Value.okWide Try.prog W .any base 24 v) (h : DataW.Trod enc Try.prog W 0 (fun _ => true) true 24 v d p)
    (hs : ∀ q ∈ d.weights Try.prog 24, q ≤ reachBytes) : ∃ A n c xs, v = .slice A n c ∧ ListAt W A n c xs := by
  obtain ⟨A, n, c, xs, h1, h2, h3⟩ := open_rowS (cells := cellsS) (k := 3) (bytes := 40) (p := SeenAt W) Try.underlying24 (by kernel_rfl) (by kernel_rfl) (by omega) (by omega) (fun _ _ _ hf hl hw => raw_seen hf hl hw) hok h hs
  exact ⟨A, n, c, xs, h1, h2, h3⟩
end Args
end Go.Proofs.Ytndcflchdecofaa
