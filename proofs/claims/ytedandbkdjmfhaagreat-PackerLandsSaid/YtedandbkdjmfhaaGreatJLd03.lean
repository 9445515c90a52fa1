/-
  SEVERAL TEXTS IN ONE FILE: PkLandO, PkLandsRow.
-/
import Derived.Test.YtedandbkdjmfhaaGreatJ23
import Derived.Test.YtedandbkdjmfhaaGreatJ17
import Derived.Test.YtedandbkdjmfhaaGreatJLd02
set_option linter.unusedSimpArgs false
set_option linter.unusedVariables false
/-
  PackerLands' ARGUMENT: batches of records.
-/
namespace Go.Proofs.YtedandbkdjmfhaaGreat
open Go.ChangeShapes Go.WideShapes Go.ChangeAt Go.RowKit Mem Box
namespace Args
open Pk
open Seg (Hdr Rc Rv cellsOf cellsOf_len RowR hdV recV fits nums hnums nn goods frame headX recX frames check recB headB)
variable {H : Type} {enc : TypeId × Value → H} {W : World}
set_option maxRecDepth 100000 in
/-- A slice of records, as a cell. -/
theorem raw_recs {fuel : Nat} {cs0 : List Value} {x0 : DataW H × List MemPlace} (hf : DataW.trod enc Tryz.prog W 0 (fun _ => true) true fuel 33 cs0 = some x0)
    (hs : ∀ q ∈ x0.1.weights Tryz.prog 33, q ≤ reachBytes) : ∃ A n c xs, cs0 = [.slice A n c] ∧ RowR W A n c xs ∧ goods (xs.map Rv.r) := by
  have hu := Tryz.underlying33
  have hC : Tryz.prog.cellsOf 57 = 7 := by kernel_rfl
  have hB : Tryz.prog.bytesOf 57 = 72 := by kernel_rfl
  rcases Go.Deep.open_slice hu hf with ⟨hcs, _⟩ | ⟨a, len0, cap0, m, n, D, Pl, hcs, hb, hl, hm, hmm, hx, hi⟩
  · exact ⟨none, 0, 0, [], hcs, ⟨rfl, by omega, by omega, fun h => absurd h (by omega), by simp⟩, by intro r hr; simp at hr⟩
  · simp only [if_true] at hmm
    subst hmm
    subst hx
    have hw := hs ((len0 + (m - len0)) * 72) (by simp [DataW.weights, hu, hB])
    have hbig : len0 ≤ 1954687338211 := by simp only [reachBytes] at hw; omega
    rcases Nat.eq_zero_or_pos len0 with h0 | h0
    · subst h0
      exact ⟨_, 0, m, [], hcs, ⟨rfl, by omega, by omega, fun h => absurd h (by omega), by simp⟩, by intro r hr; simp at hr⟩
    · have hex : ∀ i, i < len0 → ∃ v : Rv, (∀ j u, (cellsOf v)[j]? = some u → W.cell? (a.add (i * 7 + j)) = some u) ∧ Row cb W v.D v.r.data.length v.c v.r.data ∧ fits (nums v.r) := by
        intro i hil
        obtain ⟨cs', hc, ht⟩ := hi i (by omega)
        rw [hC] at hc
        obtain ⟨_, hcl, hat⟩ := World.cells?_some hc
        obtain ⟨v, rfl, h2, h3, -⟩ := raw_rec ht hcl (fun q hq => by
          refine hs q ?_
          simp only [DataW.weights, hu, List.mem_cons, List.mem_append]
          exact .inr (.inl (weights_all _ _ (List.mem_map.2 ⟨i, List.mem_range.2 hil, rfl⟩) q hq)))
        refine ⟨v, fun j u hj => ?_, h2, h3⟩
        have hjl : j < 7 := (List.getElem?_eq_some_iff.1 hj).1
        rw [← Go.Deep.add_add, hat j hjl, hj]
      obtain ⟨f, hf⟩ := Classical.axiomOfChoice (r := fun (i : Fin len0) (v : Rv) => (∀ j u, (cellsOf v)[j]? = some u → W.cell? (a.add (i.1 * 7 + j)) = some u) ∧ Row cb W v.D v.r.data.length v.c v.r.data ∧ fits (nums v.r)) (fun i => hex i.1 i.2)
      obtain ⟨b, o, s⟩ := a
      have hc0 := (hf ⟨0, h0⟩).1 0 _ rfl
      have hsp : s = none := by simpa [Addr.add] using World.cell?_spot hc0
      subst hsp
      have hblk : b < W.heap.size := World.block_lt_of_cell? W ⟨b, o, none⟩ (by simpa [Addr.add] using hc0)
      refine ⟨_, len0, m, List.ofFn f, hcs, ⟨by simp, by omega, hbig, fun _ => ⟨b, o, rfl, hblk, fun i x hx j u hu => ?_⟩, fun x hx => ?_⟩, fun r hr => ?_⟩
      · rw [List.getElem?_ofFn] at hx
        split at hx
        · rename_i hil
          simp only [Option.some.injEq] at hx
          subst hx
          have := (hf ⟨i, hil⟩).1 j u hu
          rwa [add_none] at this
        · cases hx
      · obtain ⟨i, rfl⟩ := List.mem_ofFn.1 hx
        exact (hf i).2.1
      · obtain ⟨x, hx, rfl⟩ := List.mem_map.1 hr
        obtain ⟨i, rfl⟩ := List.mem_ofFn.1 hx
        exact (hf i).2.2
set_option maxRecDepth 100000 in
theorem open_recss {v : Value} {d : DataW H} {p : List MemPlace} {base : Nat} (hok : Value.okWide Tryz.prog W .any base 24 v) (h : DataW.Trod enc Tryz.prog W 0 (fun _ => true) true 24 v d p)
    (hs : ∀ q ∈ d.weights Tryz.prog 24, q ≤ reachBytes) : ∃ A n c bs, v = .slice A n c ∧ (Row btv W A n c bs ∧ ∀ b ∈ bs, BtAt W b) := by
  obtain ⟨A, n, c, bs, h1, h2, h3⟩ := open_rowS (cells := cellsBt) (k := 1) (bytes := 24) (p := BtAt W) Tryz.underlying24 (by kernel_rfl) (by kernel_rfl) (by omega) (by omega) (fun _ _ _ hf hl hw => by
    obtain ⟨A, n, c, xs, e, hr, hg⟩ := raw_recs hf hw
    exact ⟨⟨A, n, c, xs⟩, e, hr, hg⟩) hok h hs
  exact ⟨A, n, c, bs, h1, bt_rows h2, h3⟩
end Args
end Go.Proofs.YtedandbkdjmfhaaGreat
/-
  THE STATEMENT PackerLands: its row. For every input that the row can read, no condition beside it. (Written by gen_pkrows.py.)
-/
namespace Go.Proofs.YtedandbkdjmfhaaGreat
open Go.ChangeShapes Go.WideShapes Go.ChangeAt Go.RowKit Mem Args
namespace Pk

theorem packerLands_says : Frame.Says Rows.packerLandsSpec 3 := by
  refine ⟨rfl, fun H ds h => ?_, fun H ds h => ?_, fun H ds h => ?_⟩ <;>
  · match ds, h with
    | [d0, d1, d2], _ => rfl

set_option maxRecDepth 100000 in
theorem packerLands_walks : Frame.Walks 3 [23, 24, 3] := by
  intro H enc W args ds ps base hok hA hsz
  obtain ⟨v0, vs0, d0, ds0, p0, q0, hargs, rfl, rfl, h0, r0⟩ := trodAll_cons hA
  obtain ⟨v1, vs1, d1, ds1, p1, q1, rfl, rfl, rfl, h1, r1⟩ := trodAll_cons r0
  obtain ⟨v2, vs2, d2, ds2, p2, q2, rfl, rfl, rfl, h2, r2⟩ := trodAll_cons r1
  obtain ⟨rfl, rfl, rfl⟩ := trodAll_nil r2
  obtain rfl : args = #[v0, v1, v2] := by cases args; simp_all
  obtain ⟨f0, rfl, hf0⟩ := open_hdr (hok 0 _ v0 rfl rfl) h0
  obtain ⟨A1, n1, c1, l1, rfl, k1⟩ := open_recss (hok 1 _ v1 rfl rfl) h1 (sized_arg hsz (j := 1) rfl rfl)
  obtain ⟨z2, rfl, rfl, rfl, hz2⟩ := open_int Tryz.underlying3 (hok 2 _ v2 rfl rfl) h2
  exact lands_walk f0 k1 z2 hf0

set_option maxRecDepth 100000 in
theorem packerLands_over : Rows.packerLandsRow.holds Tryz.pinned (OpenSpec.ofChange Rows.packerLandsSpec) :=
  OpenClaim.holds_of_wide 3 Tryz.f3 rfl rfl rfl rfl rfl rfl rfl ⟨rfl, rfl, rfl, rfl, rfl⟩ rfl rfl rfl rfl rfl (by kernel_rfl) Tryz.func3 (by kernel_rfl)
    (of_decide_eq_true (by kernel_rfl)) (by unfold Func.isWrapper; first | (rw [if_pos (by decide +kernel)]; kernel_rfl) | (rw [if_neg (by decide +kernel)]; exact ⟨rfl, rfl⟩))
    (fun os started H enc _ => Frame.lifted (started := started) Tryz.underlying4 (by kernel_rfl) Tryz.func3 (n := 3) (by rw [Tryz.params3]; rfl) packerLands_says (by rw [Tryz.params3]; kernel_rfl) (by kernel_rfl)
      (ChangeSpec.witness6 (enc := enc) (C := Tryz.checked) false ⟨#[], #[.agg #[.int .i64 0, .int .i64 0, .int .i64 0], .slice none 0 0, .int .i64 0], []⟩ 8 (by kernel_rfl) (by kernel_rfl) (by kernel_rfl) (by kernel_rfl))
      (by rw [Tryz.params3]; exact packerLands_walks))
end Pk
/-- The given statement. -/
theorem packerLands_holds : Rows.PackerLandsSaid := Pk.packerLands_over
end Go.Proofs.YtedandbkdjmfhaaGreat
