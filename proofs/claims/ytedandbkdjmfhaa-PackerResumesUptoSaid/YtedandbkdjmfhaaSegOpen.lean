/-
  WHAT A LAW'S ARGUMENTS SAY IN PLAIN: a header, a record, a slice of records.
-/
import Derived.Test.YtedandbkdjmfhaaOpen
import Derived.Test.YtedandbkdjmfhaaSegRef
import Derived.Deep.Fields
import Derived.Deep.Slices
namespace Go.Proofs.Ytedandbkdjmfhaa
open Go.ChangeShapes Go.WideShapes Go.ChangeAt Go.RowKit Mem
namespace Args
open Seg Wire

variable {H : Type} {enc : TypeId × Value → H} {W : World}

theorem bulk_one (d : DataW H) : 1 ≤ Rows.uptoBulk d := by
  cases d with
  | lit l => cases l <;> simp [Rows.uptoBulk]
  | _ => simp [Rows.uptoBulk]
theorem bulk_len (l : List (DataW H)) : l.length ≤ Rows.uptoBulkAll l := by
  induction l with
  | nil => simp [Rows.uptoBulkAll]
  | cons x r ih => have := bulk_one x; simp only [Rows.uptoBulkAll, List.length_cons]; omega
theorem bulk_slice (e s : List (DataW H)) : e.length + s.length + 1 ≤ Rows.uptoBulk (.slice e s) := by
  have h1 := bulk_len e
  have h2 := bulk_len s
  simp only [Rows.uptoBulk]
  omega

theorem raw_bytes {fuel : Nat} {cs : List Value} {x : DataW H × List MemPlace} (hf : DataW.trod enc Try.prog W 0 (fun _ => true) true fuel 27 cs = some x) (hs : ∀ q ∈ x.1.weights Try.prog 27, q ≤ reachBytes) :
    ∃ A n c l, cs = [.slice A n c] ∧ Row cb W A n c l ∧ l.length + 1 ≤ Rows.uptoBulk x.1 := by
  rcases open_ints Try.underlying27 Try.underlying5 (by kernel_rfl) hf with ⟨hcs, _⟩ | ⟨a, l, c, zs, hcs, _, hl, hm, hz, hx, hcell, hwz⟩
  · exact ⟨none, 0, 0, [], hcs, Row.nil _ W, by simpa using bulk_one x.1⟩
  · have hz : zs.length = c := by simpa using hz
    have hb : Try.prog.bytesOf 5 = 1 := by kernel_rfl
    have hw := hs (zs.length * 1) (by
      rw [hx]
      simp [DataW.weights, Try.underlying27, lits, hb]
      left; omega)
    have hr : l ≤ 140737488351232 := by simp only [reachBytes] at hw; omega
    have hrow := row_of (W := W) (k := .u8) (x := a) (n := l) (c := c) (zs := zs) (by omega) (by omega) hr hcell
    have hbk : ((zs.take l).map byte).length + 1 ≤ Rows.uptoBulk x.1 := by
      rw [hx]
      refine Nat.le_trans ?_ (bulk_slice _ _)
      simp [lits]
    refine ⟨some a, l, c, (zs.take l).map byte, hcs, ⟨by simp; omega, by omega, hr, fun h0 => ?_⟩, hbk⟩
    obtain ⟨b, o, e, hlt, hc⟩ := hrow.at_ h0
    refine ⟨b, o, e, hlt, fun i q hi => ?_⟩
    rw [List.getElem?_map] at hi
    obtain ⟨z, hz1, rfl⟩ := Option.map_eq_some_iff.1 hi
    rw [hc i z hz1]
    unfold cb
    rw [u_byte (hwz z (List.mem_of_mem_take (List.mem_of_getElem? hz1)))]

set_option maxRecDepth 100000 in
/-- A record's seven cells. -/
theorem raw_rec {fuel : Nat} {cs : List Value} {x : DataW H × List MemPlace} (hf : DataW.trod enc Try.prog W 0 (fun _ => true) true fuel 34 cs = some x) (hl : cs.length = 7) (hs : ∀ q ∈ x.1.weights Try.prog 34, q ≤ reachBytes) :
    ∃ v : Rv, cs = cellsOf v ∧ Row cb W v.D v.r.data.length v.c v.r.data ∧ fits (nums v.r) ∧ v.r.data.length + 8 ≤ Rows.uptoBulk x.1 := by
  have hu := Try.underlying34
  match cs, hl with
  | [c0, c1, c2, c3, c4, c5, c6], _ =>
    obtain ⟨xs, n, _, hx, _, hlen, hg⟩ := DataW.trod_struct hu hf
    have hxl : xs.length = 7 := hlen
    match xs, hxl with
    | [y0, y1, y2, y3, y4, y5, y6], _ =>
      have o3 : Try.prog.cellsOf 3 = 1 := by kernel_rfl
      have o27 : Try.prog.cellsOf 27 = 1 := by kernel_rfl
      have g0 := hg 0 _ rfl
      have g1 := hg 1 _ rfl
      have g2 := hg 2 _ rfl
      have g3 := hg 3 _ rfl
      have g4 := hg 4 _ rfl
      have g5 := hg 5 _ rfl
      have g6 := hg 6 _ rfl
      simp [o3, o27] at g0 g1 g2 g3 g4 g5 g6
      obtain ⟨z0, h0, -, w0⟩ := DataW.trod_int Try.underlying3 g0
      obtain ⟨z1, h1, -, w1⟩ := DataW.trod_int Try.underlying3 g1
      obtain ⟨z2, h2, -, w2⟩ := DataW.trod_int Try.underlying3 g2
      obtain ⟨z3, h3, -, w3⟩ := DataW.trod_int Try.underlying3 g3
      obtain ⟨z4, h4, -, w4⟩ := DataW.trod_int Try.underlying3 g4
      obtain ⟨z5, h5, -, w5⟩ := DataW.trod_int Try.underlying3 g5
      simp only [List.cons.injEq, and_true] at h0 h1 h2 h3 h4 h5
      subst h0 h1 h2 h3 h4 h5
      subst hx
      obtain ⟨A, na, ca, l, h6, r6, k6⟩ := raw_bytes g6 (fun q hq => by
        refine hs q ?_
        simp only [DataW.weights, hu]
        exact DataW.weights_mem_each (j := 6) rfl rfl q hq)
      simp only [List.cons.injEq, and_true] at h6
      subst h6
      obtain rfl : na = l.length := r6.len.symm
      refine ⟨⟨⟨z0, z1, z2, z3, z4, z5, l⟩, A, ca⟩, rfl, r6, fun z hz => ?_, ?_⟩
      rotate_left
      · have j0 := bulk_one y0.1
        have j1 := bulk_one y1.1
        have j2 := bulk_one y2.1
        have j3 := bulk_one y3.1
        have j4 := bulk_one y4.1
        have j5 := bulk_one y5.1
        simp only [List.map_cons, List.map_nil, Rows.uptoBulk, Rows.uptoBulkAll]
        omega
      have b0 := (i64_of w0).2
      have b1 := (i64_of w1).2
      have b2 := (i64_of w2).2
      have b3 := (i64_of w3).2
      have b4 := (i64_of w4).2
      have b5 := (i64_of w5).2
      simp [nums] at hz
      omega

set_option maxRecDepth 100000 in
theorem open_rec {v : Value} {d : DataW H} {p : List MemPlace} {base : Nat} (hok : Value.okWide Try.prog W .any base 34 v) (h : DataW.Trod enc Try.prog W 0 (fun _ => true) true 34 v d p)
    (hs : ∀ q ∈ d.weights Try.prog 34, q ≤ reachBytes) : ∃ r D c, v = recV r D r.data.length c ∧ Row cb W D r.data.length c r.data ∧ fits (nums r) := by
  have hu := Try.underlying34
  obtain ⟨cs, rfl, hsz⟩ := okWide_struct hu hok
  have hC : Try.prog.cellsOf 34 = 7 := by kernel_rfl
  obtain ⟨l⟩ := cs
  have hl7 : l.length = 7 := by simpa [hC] using hsz
  obtain ⟨fuel, hf⟩ := h
  obtain ⟨v, hv, h2, h3, -⟩ := raw_rec hf hl7 hs
  have hv : l = cellsOf v := hv
  subst hv
  exact ⟨v.r, v.D, v.c, rfl, h2, h3⟩

set_option maxRecDepth 100000 in
theorem open_hdr {v : Value} {d : DataW H} {p : List MemPlace} {base : Nat} (hok : Value.okWide Try.prog W .any base 23 v) (h : DataW.Trod enc Try.prog W 0 (fun _ => true) true 23 v d p) :
    ∃ r, v = hdV r ∧ fits (hnums r) := by
  have hu := Try.underlying23
  obtain ⟨cs, rfl, hsz⟩ := okWide_struct hu hok
  have hC : Try.prog.cellsOf 23 = 3 := by kernel_rfl
  obtain ⟨l⟩ := cs
  have hl3 : l.length = 3 := by simpa [hC] using hsz
  match l, hl3 with
  | [c0, c1, c2], _ =>
    obtain ⟨fuel, hf⟩ := h
    obtain ⟨xs, n, _, hx, _, hlen, hg⟩ := DataW.trod_struct hu hf
    have hxl : xs.length = 3 := hlen
    match xs, hxl with
    | [y0, y1, y2], _ =>
      have o3 : Try.prog.cellsOf 3 = 1 := by kernel_rfl
      have g0 := hg 0 _ rfl
      have g1 := hg 1 _ rfl
      have g2 := hg 2 _ rfl
      simp [Value.cells, o3] at g0 g1 g2
      obtain ⟨z0, h0, -, w0⟩ := DataW.trod_int Try.underlying3 g0
      obtain ⟨z1, h1, -, w1⟩ := DataW.trod_int Try.underlying3 g1
      obtain ⟨z2, h2, -, w2⟩ := DataW.trod_int Try.underlying3 g2
      simp only [List.cons.injEq, and_true] at h0 h1 h2
      subst h0 h1 h2
      refine ⟨⟨z0, z1, z2⟩, rfl, fun z hz => ?_⟩
      have b0 := (i64_of w0).2
      have b1 := (i64_of w1).2
      have b2 := (i64_of w2).2
      simp [hnums] at hz
      omega

theorem weights_all {t : TypeId} : ∀ (l : List (DataW H)) (e : DataW H), e ∈ l → ∀ q ∈ e.weights Try.prog t, q ∈ DataW.weightsAll Try.prog t l := by
  intro l
  induction l with
  | nil => intro e he; cases he
  | cons y l ih =>
    intro e he q hq
    simp only [DataW.weightsAll, List.mem_append]
    rcases List.mem_cons.1 he with rfl | he
    · exact .inl hq
    · exact .inr (ih e he q hq)

theorem bulk_sum : ∀ (xs : List Rv) (ds : List (DataW H)), xs.length = ds.length → (∀ (i : Nat) (x : Rv) (e : DataW H), xs[i]? = some x → ds[i]? = some e → x.r.data.length + 8 ≤ Rows.uptoBulk e) →
    ((xs.map Rv.r).map fun r => r.data.length + 20).sum ≤ 3 * Rows.uptoBulkAll ds := by
  intro xs
  induction xs with
  | nil => intro ds _ _; simp
  | cons x xs ih =>
    intro ds hl h
    rcases ds with _ | ⟨e, ds⟩
    · simp at hl
    · have h1 := h 0 x e rfl rfl
      have h2 := ih ds (by simpa using hl) (fun i y f hy hf => h (i + 1) y f (by simpa using hy) (by simpa using hf))
      simp only [List.map_cons, List.sum_cons, Rows.uptoBulkAll]
      omega

set_option maxRecDepth 100000 in
theorem open_recs {v : Value} {d : DataW H} {p : List MemPlace} {base : Nat} (hok : Value.okWide Try.prog W .any base 24 v) (h : DataW.Trod enc Try.prog W 0 (fun _ => true) true 24 v d p)
    (hs : ∀ q ∈ d.weights Try.prog 24, q ≤ reachBytes) : ∃ A n c xs, v = .slice A n c ∧ RowR W A n c xs ∧ goods (xs.map Rv.r) ∧ ((xs.map Rv.r).map fun r => r.data.length + 20).sum ≤ 3 * Rows.uptoBulk d := by
  have hu := Try.underlying24
  obtain ⟨a0, len0, cap0, rfl⟩ := okWide_slice hu hok
  have hC : Try.prog.cellsOf 34 = 7 := by kernel_rfl
  have hB : Try.prog.bytesOf 34 = 72 := by kernel_rfl
  obtain ⟨fuel, hf⟩ := h
  rcases Go.Deep.open_slice hu hf with ⟨hcs, _⟩ | ⟨a, len, cap, m, n, D, Pl, hcs, hb, hl, hm, hmm, hx, hi⟩
  · simp [Value.cells] at hcs
    obtain ⟨rfl, rfl, rfl⟩ := hcs
    exact ⟨none, 0, 0, [], rfl, ⟨rfl, by omega, by omega, fun h => absurd h (by omega), by simp⟩, (by intro r hr; simp at hr), by simp⟩
  · simp [Value.cells] at hcs
    obtain ⟨rfl, rfl, rfl⟩ := hcs
    simp only [if_true] at hmm
    subst hmm
    simp only [Prod.mk.injEq] at hx
    obtain ⟨rfl, rfl⟩ := hx
    have hw := hs ((len0 + (m - len0)) * 72) (by simp [DataW.weights, hu, hB])
    have hbig : len0 ≤ 1954687338211 := by simp only [reachBytes] at hw; omega
    rcases Nat.eq_zero_or_pos len0 with h0 | h0
    · subst h0
      exact ⟨_, 0, m, [], rfl, ⟨rfl, by omega, by omega, fun h => absurd h (by omega), by simp⟩, (by intro r hr; simp at hr), by simp⟩
    · have hex : ∀ i, i < len0 → ∃ v : Rv, (∀ j u, (cellsOf v)[j]? = some u → W.cell? (a.add (i * 7 + j)) = some u) ∧ Row cb W v.D v.r.data.length v.c v.r.data ∧ fits (nums v.r) ∧ v.r.data.length + 8 ≤ Rows.uptoBulk (D i) := by
        intro i hil
        obtain ⟨cs', hc, ht⟩ := hi i (by omega)
        rw [hC] at hc
        obtain ⟨_, hcl, hat⟩ := World.cells?_some hc
        obtain ⟨v, rfl, h2, h3, h4⟩ := raw_rec ht hcl (fun q hq => by
          refine hs q ?_
          simp only [DataW.weights, hu, List.mem_cons, List.mem_append]
          exact .inr (.inl (weights_all _ _ (List.mem_map.2 ⟨i, List.mem_range.2 hil, rfl⟩) q hq)))
        refine ⟨v, fun j u hj => ?_, h2, h3, h4⟩
        have hjl : j < 7 := (List.getElem?_eq_some_iff.1 hj).1
        rw [← Go.Deep.add_add, hat j hjl, hj]
      obtain ⟨f, hf⟩ := Classical.axiomOfChoice (r := fun (i : Fin len0) (v : Rv) => (∀ j u, (cellsOf v)[j]? = some u → W.cell? (a.add (i.1 * 7 + j)) = some u) ∧ Row cb W v.D v.r.data.length v.c v.r.data ∧ fits (nums v.r) ∧ v.r.data.length + 8 ≤ Rows.uptoBulk (D i.1)) (fun i => hex i.1 i.2)
      obtain ⟨b, o, s⟩ := a
      have hc0 := (hf ⟨0, h0⟩).1 0 _ rfl
      have hsp : s = none := by simpa [Addr.add] using World.cell?_spot hc0
      subst hsp
      have hblk : b < W.heap.size := World.block_lt_of_cell? W ⟨b, o, none⟩ (by simpa [Addr.add] using hc0)
      refine ⟨_, len0, m, List.ofFn f, rfl, ⟨by simp, by omega, hbig, fun _ => ⟨b, o, rfl, hblk, fun i x hx j u hu => ?_⟩, fun x hx => ?_⟩, fun r hr => ?_, ?_⟩
      · rw [List.getElem?_ofFn] at hx
        split at hx
        · rename_i hil
          simp only [Option.some.injEq] at hx
          subst hx
          have := (hf ⟨i, hil⟩).1 j u hu
          rwa [add_none] at this
        · cases hx
      · obtain ⟨i, rfl⟩ := List.mem_ofFn.1 hx
        exact (hf i).2.1
      · obtain ⟨x, hx, rfl⟩ := List.mem_map.1 hr
        obtain ⟨i, rfl⟩ := List.mem_ofFn.1 hx
        exact (hf i).2.2.1
      · have h3 := bulk_sum (List.ofFn f) ((List.range len0).map D) (by simp) (fun i x e hx he => by
          rw [List.getElem?_ofFn] at hx
          split at hx
          · rename_i hil
            simp only [Option.some.injEq] at hx
            subst hx
            rw [List.getElem?_map, List.getElem?_range hil] at he
            simp only [Option.map_some, Option.some.injEq] at he
            subst he
            exact (hf ⟨i, hil⟩).2.2.2
          · cases hx)
        refine Nat.le_trans h3 ?_
        simp only [Rows.uptoBulk]
        omega
end Args
end Go.Proofs.Ytedandbkdjmfhaa
