/-
  WHAT A LAW'S ARGUMENTS SAY IN PLAIN: a byte slice, a slice of byte slices, as lists of bytes that lie below the call's first block.
-/
import Derived.Test.YtbojfiabgjaaaaaCrcLive
import Derived.Test.YtbojfiabgjaaaaaFrame
import Derived.Deep.Matrix
namespace Go.Proofs.Ytbojfiabgjaaaaa
open Go.ChangeShapes Go.WideShapes Go.ChangeAt Go.RowKit
namespace Crc

/-- The bytes l lie where the slice looks, in blocks below B. -/
def LowBytes (w : World) (B : Nat) (A : Option Addr) (n : Nat) (l : List (BitVec 8)) : Prop := ∀ g, B ≤ g → Bytes w g A n l
def LowPieces (w : World) (B : Nat) (A : Option Addr) (n : Nat) (ls : List (List (BitVec 8))) : Prop := ∀ g, B ≤ g → Pieces w g A n ls

theorem LowBytes.below {w w' : World} {B : Nat} {A : Option Addr} {n : Nat} {l : List (BitVec 8)} (h : LowBytes w B A n l) (hb : Below B w w') : LowBytes w' B A n l := by
  intro g hg
  refine ⟨(h g hg).1, (h g hg).2.1, fun h0 => ?_⟩
  obtain ⟨x, e, hx, hc⟩ := (h g hg).2.2 h0
  refine ⟨x, e, hx, fun i b hi => ?_⟩
  have hlt : x.block < B := by
    rcases Nat.lt_or_ge x.block B with h1 | h1
    · exact h1
    · obtain ⟨x', e', hx', -⟩ := (h _ h1).2.2 h0
      rw [e] at e'
      injection e' with e'
      exact absurd (by rw [e']) hx'
  rw [hb.cell (p := x.add i) (by rw [show (x.add i).block = x.block from by unfold Addr.add; split <;> rfl]; exact hlt)]
  exact hc i b hi
theorem LowPieces.below {w w' : World} {B : Nat} {A : Option Addr} {n : Nat} {ls : List (List (BitVec 8))} (h : LowPieces w B A n ls) (hb : Below B w w') : LowPieces w' B A n ls := by
  intro g hg
  refine ⟨(h g hg).1, (h g hg).2.1, fun h0 => ?_⟩
  obtain ⟨b, o, e, hx, hc⟩ := (h g hg).2.2 h0
  have hlt : b < B := by
    rcases Nat.lt_or_ge b B with h1 | h1
    · exact h1
    · obtain ⟨b', o', e', hx', -⟩ := (h _ h1).2.2 h0
      rw [e] at e'
      injection e' with e'
      injection e' with e'
      exact absurd e'.symm hx'
  refine ⟨b, o, e, hx, fun i l hl => ?_⟩
  obtain ⟨a, m, c, h1, h2⟩ := hc i l hl
  refine ⟨a, m, c, (hb.cell (p := ⟨b, o + i, none⟩) hlt).trans h1, ?_⟩
  have hlow : LowBytes w B a m l := by
    intro g' hg'
    obtain ⟨b', o', e', -, hc'⟩ := (h g' hg').2.2 h0
    rw [e] at e'
    injection e' with e'
    injection e' with e1 e2
    subst e1 e2
    obtain ⟨a', m', c', h1', h2'⟩ := hc' i l hl
    rw [h1] at h1'
    injection h1' with h1'
    injection h1' with e1 e2 e3
    subst e1 e2
    exact h2'
  exact hlow.below hb g hg

/-- A number that fits a byte, as a byte. -/
def byte (n : Int) : BitVec 8 := BitVec.ofInt 8 n
theorem u_byte {n : Int} (h : (Lit.int .u8 n).wf = true) : u (byte n) = n := by
  have h1 : IntKind.u8.min = 0 := rfl
  have h2 : IntKind.u8.max = 255 := rfl
  simp only [Lit.wf, Bool.and_eq_true, decide_eq_true_eq] at h
  unfold u byte
  rw [BitVec.toNat_ofInt]
  omega

variable {H : Type} {enc : TypeId × Value → H} {W : World}

theorem low_of_row {x : Addr} {n : Nat} {zs : List Int} (hx : x.block < W.heap.size) (hn : n ≤ zs.length) (hr : n ≤ 140737488351232) (hc : ∀ i, i < zs.length → W.cell? (x.add i) = some (.int .u8 (zs.getD i 0)))
    (hw : ∀ z ∈ zs, (Lit.int .u8 z).wf = true) : LowBytes W W.heap.size (some x) n ((zs.take n).map byte) := by
  intro g hg
  refine ⟨by simp; omega, hr, fun _ => ⟨x, rfl, by omega, fun i b hb => ?_⟩⟩
  rw [List.getElem?_map, List.getElem?_take] at hb
  by_cases hi : i < n
  · rw [if_pos hi, List.getElem?_eq_getElem (by omega)] at hb
    simp only [Option.map_some, Option.some.injEq] at hb
    rw [hc i (by omega), ← hb, u_byte (hw _ (List.getElem_mem _))]
    simp [List.getD, List.getElem?_eq_getElem (show i < zs.length by omega)]
  · rw [if_neg hi] at hb
    cases hb

theorem open_bytes {v : Value} {d : DataW H} {p : List MemPlace} {base : Nat} (hok : Value.okWide Try.prog W .any base 24 v) (h : DataW.Trod enc Try.prog W 0 (fun _ => true) true 24 v d p)
    (hs : ∀ q ∈ d.weights Try.prog 24, q ≤ reachBytes) : ∃ A n c l, v = .slice A n c ∧ LowBytes W W.heap.size A n l := by
  obtain ⟨a0, len0, cap0, rfl⟩ := okWide_slice Try.underlying24 hok
  have lt0 : ∀ x ∈ p, x.block < W.heap.size := by obtain ⟨m, hm⟩ := h; exact DataW.trod_lt m _ _ _ hm
  obtain ⟨fuel, hf⟩ := h
  rcases open_ints Try.underlying24 Try.underlying5 (by kernel_rfl) hf with ⟨hcs, _⟩ | ⟨x, l, c, zs, hcs, _, hl, hm, hz, hx, hcell, hwz⟩
  · simp [Value.cells] at hcs
    obtain ⟨rfl, rfl, rfl⟩ := hcs
    exact ⟨none, 0, 0, [], rfl, fun g _ => Bytes.none_ W g⟩
  · simp [Value.cells] at hcs
    obtain ⟨rfl, rfl, rfl⟩ := hcs
    simp only [Prod.mk.injEq] at hx
    obtain ⟨rfl, rfl⟩ := hx
    have hz : zs.length = cap0 := by simpa using hz
    have hw := hs (zs.length * 1) (by
      have hb : Try.prog.bytesOf 5 = 1 := by kernel_rfl
      simp [DataW.weights, Try.underlying24, lits, hb]
      left; omega)
    have hr : len0 ≤ 140737488351232 := by simp only [reachBytes] at hw; omega
    rcases Nat.eq_zero_or_pos len0 with h0 | h0
    · subst h0
      exact ⟨_, 0, cap0, [], rfl, fun g _ => ⟨rfl, by omega, fun h => absurd h (by omega)⟩⟩
    · have hblk : x.block < W.heap.size := World.block_lt_of_cell? W x (by have := hcell 0 (by omega); simpa [Addr.add] using this)
      exact ⟨_, len0, cap0, _, rfl, low_of_row hblk (by omega) hr hcell hwz⟩

theorem open_pieces {v : Value} {d : DataW H} {p : List MemPlace} {base : Nat} (hok : Value.okWide Try.prog W .any base 22 v) (h : DataW.Trod enc Try.prog W 0 (fun _ => true) true 22 v d p)
    (hs : ∀ q ∈ d.weights Try.prog 22, q ≤ reachBytes) : ∃ A n c ls, v = .slice A n c ∧ LowPieces W W.heap.size A n ls := by
  obtain ⟨a0, len0, cap0, rfl⟩ := okWide_slice Try.underlying22 hok
  obtain ⟨fuel, hf⟩ := h
  rcases Go.Deep.open_int_rows Try.underlying22 Try.underlying24 Try.underlying5 (by kernel_rfl) (by kernel_rfl) hf with ⟨hcs, _⟩ | ⟨a, len, cap, A, L, C, Z, hcs, _, hl, hm, hx, hrow⟩
  · simp [Value.cells] at hcs
    obtain ⟨rfl, rfl, rfl⟩ := hcs
    exact ⟨none, 0, 0, [], rfl, fun g _ => pieces_none W g⟩
  · simp [Value.cells] at hcs
    obtain ⟨rfl, rfl, rfl⟩ := hcs
    simp only [Prod.mk.injEq] at hx
    obtain ⟨rfl, rfl⟩ := hx
    have hb : Try.prog.bytesOf 5 = 1 := by kernel_rfl
    have hb2 : Try.prog.bytesOf 24 = 24 := by kernel_rfl
    have hw := hs ((len0 + (cap0 - len0)) * 24) (by
      simp [DataW.weights, Try.underlying22, hb2])
    have hr : len0 ≤ 140737488351232 := by simp only [reachBytes] at hw; omega
    refine ⟨_, len0, cap0, (List.range len0).map fun r => ((Z r).take (L r)).map byte, rfl, fun g hg => ⟨by simp, hr, fun h0 => ?_⟩⟩
    obtain ⟨b, o, s⟩ := a
    have hc0 := (hrow 0 (by omega)).1
    have hsp : s = none := by simpa [Addr.add] using World.cell?_spot hc0
    subst hsp
    have hblk : b < W.heap.size := World.block_lt_of_cell? W ⟨b, o, none⟩ (by simpa [Addr.add] using hc0)
    refine ⟨b, o, rfl, by omega, fun i l hi => ?_⟩
    rw [List.getElem?_map] at hi
    by_cases hil : i < len0
    · rw [List.getElem?_range hil] at hi
      simp only [Option.map_some, Option.some.injEq] at hi
      subst hi
      obtain ⟨c1, c2, c3, c4, c5, c6, c7⟩ := hrow i (by omega)
      refine ⟨A i, L i, C i, by rw [← add_none]; exact c1, ?_⟩
      rcases hA : A i with _ | x
      · have := c6 hA
        have hL : L i = 0 := by omega
        rw [hL]
        exact ⟨rfl, by omega, fun h => absurd h (by omega)⟩
      · have hcell := (c7 x hA).2
        rcases Nat.eq_zero_or_pos (L i) with h1 | h1
        · rw [h1]
          exact ⟨by simp, by omega, fun h => absurd h (by omega)⟩
        · have hblk' : x.block < W.heap.size := World.block_lt_of_cell? W x (by have := hcell 0 (by omega); simpa [Addr.add] using this)
          have hw2 := hs ((Z i).length * 1) (by
            have hmem : Go.Deep.intRow (H := H) .u8 (A i) (L i) (Z i) ∈ (List.range len0).map fun r => Go.Deep.intRow (H := H) .u8 (A r) (L r) (Z r) := List.mem_map.2 ⟨i, List.mem_range.2 hil, rfl⟩
            have hall : ∀ (l : List (DataW H)) (e : DataW H), e ∈ l → ∀ q ∈ e.weights Try.prog 24, q ∈ DataW.weightsAll Try.prog 24 l := by
              intro l
              induction l with
              | nil => intro e he; cases he
              | cons y l ih =>
                intro e he q hq
                simp only [DataW.weightsAll, List.mem_append]
                rcases List.mem_cons.1 he with rfl | he
                · exact .inl hq
                · exact .inr (ih e he q hq)
            have hin : (Z i).length * 1 ∈ (Go.Deep.intRow (H := H) .u8 (A i) (L i) (Z i)).weights Try.prog 24 := by
              rw [hA]
              simp [Go.Deep.intRow, DataW.weights, Try.underlying24, lits, hb]
              left; omega
            have := hall _ _ hmem _ hin
            simp only [DataW.weights, Try.underlying22, List.mem_cons, List.mem_append]
            exact .inr (.inl this))
          have hr2 : L i ≤ 140737488351232 := by simp only [reachBytes] at hw2; omega
          exact low_of_row hblk' (by omega) hr2 (fun j hj => hcell j (by omega)) c5 g hg
    · rw [List.getElem?_eq_none (by simp; omega)] at hi
      cases hi
theorem word_of {n : Int} (h : (Lit.int .u32 n).wf = true) : ∃ c : BitVec 32, n = v c := by
  have h1 : IntKind.u32.min = 0 := rfl
  have h2 : IntKind.u32.max = 4294967295 := by decide
  simp only [Lit.wf, Bool.and_eq_true, decide_eq_true_eq] at h
  refine ⟨BitVec.ofInt 32 n, ?_⟩
  unfold v
  rw [BitVec.toNat_ofInt]
  omega
/-- The reach, argument by argument. -/
theorem sized_arg {ts : List TypeId} {ds : List (DataW H)} (h : (DataW.weightsEach Try.prog ts ds).all (· ≤ reachBytes) = true) {j : Nat} {t : TypeId} {d : DataW H} (ht : ts[j]? = some t) (hd : ds[j]? = some d) : ∀ q ∈ d.weights Try.prog t, q ≤ reachBytes := by
  intro q hq
  have := List.all_eq_true.1 h q (DataW.weights_mem_each ht hd q hq)
  simpa using this
end Crc
end Go.Proofs.Ytbojfiabgjaaaaa
