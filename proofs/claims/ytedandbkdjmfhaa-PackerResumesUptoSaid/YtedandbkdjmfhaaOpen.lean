/-
  WHAT A LAW'S ARGUMENTS SAY IN PLAIN: a slice of bytes, of ints, a number.
-/
import Derived.Test.YtedandbkdjmfhaaMem
import Derived.Test.YtedandbkdjmfhaaFrame
namespace Go.Proofs.Ytedandbkdjmfhaa
open Go.ChangeShapes Go.WideShapes Go.ChangeAt Go.RowKit Mem
namespace Args

variable {H : Type} {enc : TypeId × Value → H} {W : World}

/-- A number that fits a byte, as a byte. -/
def byte (n : Int) : BitVec 8 := BitVec.ofInt 8 n
theorem u_byte {n : Int} (h : (Lit.int .u8 n).wf = true) : u (byte n) = n := by
  have h1 : IntKind.u8.min = 0 := rfl
  have h2 : IntKind.u8.max = 255 := rfl
  simp only [Lit.wf, Bool.and_eq_true, decide_eq_true_eq] at h
  unfold u byte
  rw [BitVec.toNat_ofInt]
  omega

theorem row_of {x : Addr} {n c : Nat} {k : IntKind} {zs : List Int} (hnc : n ≤ c) (hn : n ≤ zs.length) (hr : n ≤ 140737488351232) (hc : ∀ i, i < zs.length → W.cell? (x.add i) = some (.int k (zs.getD i 0))) :
    Row (fun z : Int => Value.int k z) W (some x) n c (zs.take n) := by
  refine ⟨by simp; omega, hnc, hr, fun h0 => ?_⟩
  obtain ⟨b, o, s⟩ := x
  have hc0 := hc 0 (by omega)
  have hsp : s = none := by simpa [Addr.add] using World.cell?_spot hc0
  subst hsp
  refine ⟨b, o, rfl, World.block_lt_of_cell? W ⟨b, o, none⟩ (by simpa [Addr.add] using hc0), fun i z hi => ?_⟩
  rw [List.getElem?_take] at hi
  by_cases hin : i < n
  · rw [if_pos hin] at hi
    have := hc i (by omega)
    rw [add_none] at this
    rw [this]
    simp [List.getD, hi]
  · rw [if_neg hin] at hi; cases hi

set_option maxRecDepth 100000 in
theorem open_bytes {v : Value} {d : DataW H} {p : List MemPlace} {base : Nat} (hok : Value.okWide Try.prog W .any base 27 v) (h : DataW.Trod enc Try.prog W 0 (fun _ => true) true 27 v d p)
    (hs : ∀ q ∈ d.weights Try.prog 27, q ≤ reachBytes) : ∃ A n c l, v = .slice A n c ∧ Row cb W A n c l := by
  obtain ⟨a0, len0, cap0, rfl⟩ := okWide_slice Try.underlying27 hok
  obtain ⟨fuel, hf⟩ := h
  rcases open_ints Try.underlying27 Try.underlying5 (by kernel_rfl) hf with ⟨hcs, _⟩ | ⟨x, l, c, zs, hcs, _, hl, hm, hz, hx, hcell, hwz⟩
  · simp [Value.cells] at hcs
    obtain ⟨rfl, rfl, rfl⟩ := hcs
    exact ⟨none, 0, 0, [], rfl, Row.nil _ W⟩
  · simp [Value.cells] at hcs
    obtain ⟨rfl, rfl, rfl⟩ := hcs
    simp only [Prod.mk.injEq] at hx
    obtain ⟨rfl, rfl⟩ := hx
    have hz : zs.length = cap0 := by simpa using hz
    have hw := hs (zs.length * 1) (by
      have hb : Try.prog.bytesOf 5 = 1 := by kernel_rfl
      simp [DataW.weights, Try.underlying27, lits, hb]
      left; omega)
    have hr : len0 ≤ 140737488351232 := by simp only [reachBytes] at hw; omega
    have hrow := row_of (k := .u8) (x := x) (n := len0) (c := cap0) (by omega) (by omega) hr hcell
    refine ⟨_, len0, cap0, (zs.take len0).map byte, rfl, by simp; omega, by omega, hr, fun h0 => ?_⟩
    obtain ⟨b, o, e, hlt, hc⟩ := hrow.at_ h0
    refine ⟨b, o, e, hlt, fun i q hi => ?_⟩
    rw [List.getElem?_map] at hi
    obtain ⟨z, hz1, rfl⟩ := Option.map_eq_some_iff.1 hi
    rw [hc i z hz1]
    unfold cb
    rw [u_byte (hwz z (List.mem_of_mem_take (List.mem_of_getElem? hz1)))]

set_option maxRecDepth 100000 in
theorem open_ints_ {v : Value} {d : DataW H} {p : List MemPlace} {base : Nat} (hok : Value.okWide Try.prog W .any base 37 v) (h : DataW.Trod enc Try.prog W 0 (fun _ => true) true 37 v d p)
    (hs : ∀ q ∈ d.weights Try.prog 37, q ≤ reachBytes) : ∃ A n c l, v = .slice A n c ∧ Row ci W A n c l ∧ ∀ z ∈ l, (Lit.int .i64 z).wf = true := by
  obtain ⟨a0, len0, cap0, rfl⟩ := okWide_slice Try.underlying37 hok
  obtain ⟨fuel, hf⟩ := h
  rcases open_ints Try.underlying37 Try.underlying3 (by kernel_rfl) hf with ⟨hcs, _⟩ | ⟨x, l, c, zs, hcs, _, hl, hm, hz, hx, hcell, hwz⟩
  · simp [Value.cells] at hcs
    obtain ⟨rfl, rfl, rfl⟩ := hcs
    exact ⟨none, 0, 0, [], rfl, Row.nil _ W, by simp⟩
  · simp [Value.cells] at hcs
    obtain ⟨rfl, rfl, rfl⟩ := hcs
    simp only [Prod.mk.injEq] at hx
    obtain ⟨rfl, rfl⟩ := hx
    have hz : zs.length = cap0 := by simpa using hz
    have hw := hs (zs.length * 8) (by
      have hb : Try.prog.bytesOf 3 = 8 := by kernel_rfl
      simp [DataW.weights, Try.underlying37, lits, hb]
      left; omega)
    have hr : len0 ≤ 140737488351232 := by simp only [reachBytes] at hw; omega
    exact ⟨_, len0, cap0, zs.take len0, rfl, row_of (k := .i64) (x := x) (n := len0) (c := cap0) (by omega) (by omega) hr hcell, fun z hz => hwz z (List.mem_of_mem_take hz)⟩

theorem u32_of {n : Int} (h : (Lit.int .u32 n).wf = true) : ∃ m : Nat, n = m ∧ m < 4294967296 := by
  have h1 : IntKind.u32.min = 0 := rfl
  have h2 : IntKind.u32.max = 4294967295 := by decide
  simp only [Lit.wf, Bool.and_eq_true, decide_eq_true_eq] at h
  exact ⟨n.toNat, by omega, by omega⟩
theorem u64_of {n : Int} (h : (Lit.int .u64 n).wf = true) : ∃ m : Nat, n = m ∧ m < 18446744073709551616 := by
  have h1 : IntKind.u64.min = 0 := rfl
  have h2 : IntKind.u64.max = 18446744073709551615 := by decide
  simp only [Lit.wf, Bool.and_eq_true, decide_eq_true_eq] at h
  exact ⟨n.toNat, by omega, by omega⟩
theorem i64_of {n : Int} (h : (Lit.int .i64 n).wf = true) : -9223372036854775808 ≤ n ∧ n ≤ 9223372036854775807 := by
  have h1 : IntKind.i64.min = -9223372036854775808 := by decide
  have h2 : IntKind.i64.max = 9223372036854775807 := by decide
  simp only [Lit.wf, Bool.and_eq_true, decide_eq_true_eq] at h
  omega
/-- The reach, argument by argument. -/
theorem sized_arg {ts : List TypeId} {ds : List (DataW H)} (h : (DataW.weightsEach Try.prog ts ds).all (· ≤ reachBytes) = true) {j : Nat} {t : TypeId} {d : DataW H} (ht : ts[j]? = some t) (hd : ds[j]? = some d) : ∀ q ∈ d.weights Try.prog t, q ≤ reachBytes := by
  intro q hq
  have := List.all_eq_true.1 h q (DataW.weights_mem_each ht hd q hq)
  simpa using this
end Args
end Go.Proofs.Ytedandbkdjmfhaa
