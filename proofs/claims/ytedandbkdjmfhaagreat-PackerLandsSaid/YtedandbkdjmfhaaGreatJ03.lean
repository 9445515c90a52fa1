/-
  SEVERAL TEXTS IN ONE FILE: Frame, Open, RowS, ZonOpen, ZonCount, ZonAny, ZnsMath, ZonRefS, ZonHeld, ZonBut.
-/
import Derived.Test.YtedandbkdjmfhaaGreatRows
import Derived.WalkKit
import Derived.ProofKit
import Derived.OpenShut
import Derived.ShutString
import Derived.ChangeOld
import Derived.Below
import Derived.SizedLaws
import Derived.Test.YtedandbkdjmfhaaGreatJ01
import Derived.Deep.Fields
import Derived.Deep.Slices
import Derived.Test.YtedandbkdjmfhaaGreatJ02
import Derived.WalkSmall
set_option linter.unusedSimpArgs false
set_option linter.unusedVariables false
/-
  THE FRAME OF A LAW'S PROOF, once for all laws of a seat: from 'the call returns true and turns nothing that was there' to the row; whatever the types of the parameters are.
-/
namespace Go.Proofs.YtedandbkdjmfhaaGreat
open Go.ChangeShapes Go.WideShapes Go.ChangeAt Go.RowKit
namespace Frame

theorem own : ownKnob Tryz.prog.godebug = none := by kernel_rfl
theorem laidOut : laidOutB Tryz.prog = true := by kernel_rfl

theorem trodAll_lt {H : Type} {enc : TypeId × Value → H} {P : Program} {W : World} : ∀ {ts : List TypeId} {vs : List Value} {ds : List (DataW H)} {ps : List MemPlace},
    DataW.TrodAll enc P W 0 (fun _ => true) true ts vs ds ps → ∀ x ∈ ps, x.block < W.heap.size
  | [], vs, ds, ps, h => by
    obtain ⟨rfl, rfl, rfl⟩ := trodAll_nil h
    intro x hx
    cases hx
  | t :: ts, vs, ds, ps, h => by
    obtain ⟨v, vs', d, ds', p, q, rfl, rfl, rfl, h0, h1⟩ := trodAll_cons h
    intro x hx
    rcases List.mem_append.1 hx with hx | hx
    · obtain ⟨m, hm⟩ := h0
      exact DataW.trod_lt m _ _ _ hm x hx
    · exact trodAll_lt h1 x hx

theorem trodAll_back {H : Type} {enc : TypeId × Value → H} {P : Program} (hl : laidOutB P = true) {W W' : World} (hb : Below W.heap.size W W') : ∀ {ts : List TypeId} {vs : List Value} {ds : List (DataW H)} {ps : List MemPlace},
    (ts.all fun t => P.readableRec t && decide (t < P.types.size)) = true → DataW.TrodAll enc P W 0 (fun _ => true) true ts vs ds ps → DataW.TrodAll enc P W' 0 (fun b => decide (b < W.heap.size)) true ts vs ds ps
  | [], vs, ds, ps, _, h => by
    obtain ⟨rfl, rfl, rfl⟩ := trodAll_nil h
    exact trodAll_mk0
  | t :: ts, vs, ds, ps, hr, h => by
    have hlt := trodAll_lt h
    obtain ⟨v, vs', d, ds', p, q, rfl, rfl, rfl, h0, h1⟩ := trodAll_cons h
    simp only [List.all_cons, Bool.and_eq_true, decide_eq_true_eq] at hr
    exact trodAll_cons_mk (Below.trod hl hr.1.1 hr.1.2 h0 hb fun x hx => hlt x (List.mem_append_left _ hx)) (trodAll_back hl hb (by simpa using hr.2) h1)

theorem trodAll_len {H : Type} {enc : TypeId × Value → H} {P : Program} {W : World} {base : Nat} {sp : Nat → Bool} {hd : Bool} : ∀ {ts : List TypeId} {vs : List Value} {ds : List (DataW H)} {ps : List MemPlace},
    DataW.TrodAll enc P W base sp hd ts vs ds ps → ds.length = ts.length
  | [], vs, ds, ps, h => by
    obtain ⟨rfl, rfl, rfl⟩ := trodAll_nil h
    rfl
  | t :: ts, vs, ds, ps, h => by
    obtain ⟨v, vs', d, ds', p, q, rfl, rfl, rfl, h0, h1⟩ := trodAll_cons h
    simp [trodAll_len h1]

/-- A specification that says: true, and each argument as it was. -/
structure Says (s : ChangeSpec) (n : Nat) : Prop where
  vars : s.vars = []
  results : ∀ (H : Type) (ds : List (DataW H)), ds.length = n → (s.fn H ds).results = [.lit (.bool true)]
  args : ∀ (H : Type) (ds : List (DataW H)), ds.length = n → (s.fn H ds).args = ds
  left : ∀ (H : Type) (ds : List (DataW H)), ds.length = n → (s.fn H ds).vars = []

/-- What a law's own proof is handed, and owes: for arguments that can be read and lie within the reach, the call returns true and turns nothing that was there. -/
def Walks (F : FuncId) (ts : List TypeId) : Prop :=
  ∀ (H : Type) (enc : TypeId × Value → H) (W : World) (args : Array Value) (ds : List (DataW H)) (ps : List MemPlace) (base : Nat),
    (∀ (j : Nat) t v, ts[j]? = some t → args[j]? = some v → Value.okWide Tryz.prog W .any base t v) →
    DataW.TrodAll enc Tryz.prog W 0 (fun _ => true) true ts args.toList ds ps →
    (DataW.weightsEach Tryz.prog ts ds).all (· ≤ reachBytes) = true →
    Calls Tryz.prog F args W fun e w' => e = .returned (.bool true) ∧ Below W.heap.size W w'

set_option maxRecDepth 100000 in
theorem lifted {os : Os} {started : os.Started} {H : Type} {enc : TypeId × Value → H} {F : FuncId} {fn : Func} {s : ChangeSpec} {boolT : TypeId} (hu : Tryz.prog.underlying boolT = some .bool)
    (hini : Tryz.checked.prog.inits.idxOf? F = none) (hfn : Tryz.checked.prog.funcs[F]? = some fn) {n : Nat} (hn : fn.params.toList.length = n) (hs : Says s n)
    (hread : (fn.params.toList.all fun t => Tryz.prog.readableRec t && decide (t < Tryz.prog.types.size)) = true) (hres : fn.resultTypes = #[boolT])
    (witness : ∃ (w : World) (tape : Tape) (i : Input), w.os = os ∧ (w.forCall tape i).Shaped Tryz.checked.prog ∧ i.vars = [] ∧ Input.okWide Tryz.checked.prog (w.forCall tape i) .any w.heap.size F i ∧
      s.pre6 enc Tryz.checked.prog fn [] false (w.forCall tape i).memory i.args ∧ ({} : Assume).holds Tryz.checked.prog (lone (Frame.enter Tryz.checked.prog F i.args .normal) [] (w.forCall tape i)))
    (walk : Walks F fn.params.toList) :
    ReturnsInHanded {} Tryz.checked os F .any (s.pre6 enc Tryz.prog fn [] false) (s.post enc Tryz.prog fn false true false false) := by
  refine returnsInHanded_of_change_sized (C := Tryz.checked) own started hini hfn witness ?_
  intro W base args ds gs before hval0 hW _ hsz0 _
  have hsz : (DataW.weightsEach Tryz.prog (fn.params.toList ++ s.plain.varTypes Tryz.prog) (ds ++ gs)).all (· ≤ reachBytes) = true := hsz0
  have hval : ∀ (j : Nat) t v, fn.params[j]? = some t → args[j]? = some v → Value.okWide Tryz.prog W .any base t v := hval0
  have hW' := hW
  obtain ⟨p, q, hA0, hV, rfl, hfz, hnd⟩ := hW
  have hA : DataW.TrodAll enc Tryz.prog W 0 (fun _ => true) true fn.params.toList args.toList ds p := hA0
  have hlen : ds.length = n := (trodAll_len hA).trans hn
  have hvar : s.plain.varTypes Tryz.prog = [] := by
    simp [DataSpec.varTypes, ChangeSpec.plain, hs.vars]
  rw [hs.vars] at hV
  obtain ⟨rfl, rfl⟩ := trodVars_none hV
  rw [hvar, List.append_nil, List.append_nil] at hsz
  refine (walk H enc W args ds p base (fun j t v h1 h2 => hval j t v (by simpa using h1) h2) hA hsz).mono fun e W' ⟨he, bel⟩ => ?_
  subst he
  refine ⟨_, rfl, ds, [], _, [], p, [], hW', ?_, ?_, ?_, bel.frame _, fun h => by cases h⟩
  · rw [List.append_nil, hs.results H ds hlen, hres]
    exact trodAll_mk1 (shut_bool hu _)
  · rw [List.append_nil, hs.args H ds hlen]
    exact trodAll_back laidOut bel hread hA
  · rw [List.append_nil, hs.left H ds hlen, hs.vars]
    rfl
end Frame
end Go.Proofs.YtedandbkdjmfhaaGreat
/-
  WHAT A LAW'S ARGUMENTS SAY IN PLAIN: a slice of bytes, of ints, a number.
-/
namespace Go.Proofs.YtedandbkdjmfhaaGreat
open Go.ChangeShapes Go.WideShapes Go.ChangeAt Go.RowKit Mem
namespace Args

variable {H : Type} {enc : TypeId × Value → H} {W : World}

/-- A number that fits a byte, as a byte. -/
def byte (n : Int) : BitVec 8 := BitVec.ofInt 8 n
theorem u_byte {n : Int} (h : (Lit.int .u8 n).wf = true) : u (byte n) = n := by
  have h1 : IntKind.u8.min = 0 := rfl
  have h2 : IntKind.u8.max = 255 := rfl
  simp only [Lit.wf, Bool.and_eq_true, decide_eq_true_eq] at h
  unfold u byte
  rw [BitVec.toNat_ofInt]
  omega

theorem row_of {x : Addr} {n c : Nat} {k : IntKind} {zs : List Int} (hnc : n ≤ c) (hn : n ≤ zs.length) (hr : n ≤ 140737488351232) (hc : ∀ i, i < zs.length → W.cell? (x.add i) = some (.int k (zs.getD i 0))) :
    Row (fun z : Int => Value.int k z) W (some x) n c (zs.take n) := by
  refine ⟨by simp; omega, hnc, hr, fun h0 => ?_⟩
  obtain ⟨b, o, s⟩ := x
  have hc0 := hc 0 (by omega)
  have hsp : s = none := by simpa [Addr.add] using World.cell?_spot hc0
  subst hsp
  refine ⟨b, o, rfl, World.block_lt_of_cell? W ⟨b, o, none⟩ (by simpa [Addr.add] using hc0), fun i z hi => ?_⟩
  rw [List.getElem?_take] at hi
  by_cases hin : i < n
  · rw [if_pos hin] at hi
    have := hc i (by omega)
    rw [add_none] at this
    rw [this]
    simp [List.getD, hi]
  · rw [if_neg hin] at hi; cases hi

set_option maxRecDepth 100000 in
theorem open_bytes {v : Value} {d : DataW H} {p : List MemPlace} {base : Nat} (hok : Value.okWide Tryz.prog W .any base 32 v) (h : DataW.Trod enc Tryz.prog W 0 (fun _ => true) true 32 v d p)
    (hs : ∀ q ∈ d.weights Tryz.prog 32, q ≤ reachBytes) : ∃ A n c l, v = .slice A n c ∧ Row cb W A n c l := by
  obtain ⟨a0, len0, cap0, rfl⟩ := okWide_slice Tryz.underlying32 hok
  obtain ⟨fuel, hf⟩ := h
  rcases open_ints Tryz.underlying32 Tryz.underlying5 (by kernel_rfl) hf with ⟨hcs, _⟩ | ⟨x, l, c, zs, hcs, _, hl, hm, hz, hx, hcell, hwz⟩
  · simp [Value.cells] at hcs
    obtain ⟨rfl, rfl, rfl⟩ := hcs
    exact ⟨none, 0, 0, [], rfl, Row.nil _ W⟩
  · simp [Value.cells] at hcs
    obtain ⟨rfl, rfl, rfl⟩ := hcs
    simp only [Prod.mk.injEq] at hx
    obtain ⟨rfl, rfl⟩ := hx
    have hz : zs.length = cap0 := by simpa using hz
    have hw := hs (zs.length * 1) (by
      have hb : Tryz.prog.bytesOf 5 = 1 := by kernel_rfl
      simp [DataW.weights, Tryz.underlying32, lits, hb]
      left; omega)
    have hr : len0 ≤ 140737488351232 := by simp only [reachBytes] at hw; omega
    have hrow := row_of (k := .u8) (x := x) (n := len0) (c := cap0) (by omega) (by omega) hr hcell
    refine ⟨_, len0, cap0, (zs.take len0).map byte, rfl, by simp; omega, by omega, hr, fun h0 => ?_⟩
    obtain ⟨b, o, e, hlt, hc⟩ := hrow.at_ h0
    refine ⟨b, o, e, hlt, fun i q hi => ?_⟩
    rw [List.getElem?_map] at hi
    obtain ⟨z, hz1, rfl⟩ := Option.map_eq_some_iff.1 hi
    rw [hc i z hz1]
    unfold cb
    rw [u_byte (hwz z (List.mem_of_mem_take (List.mem_of_getElem? hz1)))]

set_option maxRecDepth 100000 in
theorem open_ints_ {v : Value} {d : DataW H} {p : List MemPlace} {base : Nat} (hok : Value.okWide Tryz.prog W .any base 44 v) (h : DataW.Trod enc Tryz.prog W 0 (fun _ => true) true 44 v d p)
    (hs : ∀ q ∈ d.weights Tryz.prog 44, q ≤ reachBytes) : ∃ A n c l, v = .slice A n c ∧ Row ci W A n c l ∧ ∀ z ∈ l, (Lit.int .i64 z).wf = true := by
  obtain ⟨a0, len0, cap0, rfl⟩ := okWide_slice Tryz.underlying44 hok
  obtain ⟨fuel, hf⟩ := h
  rcases open_ints Tryz.underlying44 Tryz.underlying3 (by kernel_rfl) hf with ⟨hcs, _⟩ | ⟨x, l, c, zs, hcs, _, hl, hm, hz, hx, hcell, hwz⟩
  · simp [Value.cells] at hcs
    obtain ⟨rfl, rfl, rfl⟩ := hcs
    exact ⟨none, 0, 0, [], rfl, Row.nil _ W, by simp⟩
  · simp [Value.cells] at hcs
    obtain ⟨rfl, rfl, rfl⟩ := hcs
    simp only [Prod.mk.injEq] at hx
    obtain ⟨rfl, rfl⟩ := hx
    have hz : zs.length = cap0 := by simpa using hz
    have hw := hs (zs.length * 8) (by
      have hb : Tryz.prog.bytesOf 3 = 8 := by kernel_rfl
      simp [DataW.weights, Tryz.underlying44, lits, hb]
      left; omega)
    have hr : len0 ≤ 140737488351232 := by simp only [reachBytes] at hw; omega
    exact ⟨_, len0, cap0, zs.take len0, rfl, row_of (k := .i64) (x := x) (n := len0) (c := cap0) (by omega) (by omega) hr hcell, fun z hz => hwz z (List.mem_of_mem_take hz)⟩

theorem u32_of {n : Int} (h : (Lit.int .u32 n).wf = true) : ∃ m : Nat, n = m ∧ m < 4294967296 := by
  have h1 : IntKind.u32.min = 0 := rfl
  have h2 : IntKind.u32.max = 4294967295 := by decide
  simp only [Lit.wf, Bool.and_eq_true, decide_eq_true_eq] at h
  exact ⟨n.toNat, by omega, by omega⟩
theorem u64_of {n : Int} (h : (Lit.int .u64 n).wf = true) : ∃ m : Nat, n = m ∧ m < 18446744073709551616 := by
  have h1 : IntKind.u64.min = 0 := rfl
  have h2 : IntKind.u64.max = 18446744073709551615 := by decide
  simp only [Lit.wf, Bool.and_eq_true, decide_eq_true_eq] at h
  exact ⟨n.toNat, by omega, by omega⟩
theorem i64_of {n : Int} (h : (Lit.int .i64 n).wf = true) : -9223372036854775808 ≤ n ∧ n ≤ 9223372036854775807 := by
  have h1 : IntKind.i64.min = -9223372036854775808 := by decide
  have h2 : IntKind.i64.max = 9223372036854775807 := by decide
  simp only [Lit.wf, Bool.and_eq_true, decide_eq_true_eq] at h
  omega
/-- The reach, argument by argument. -/
theorem sized_arg {ts : List TypeId} {ds : List (DataW H)} (h : (DataW.weightsEach Tryz.prog ts ds).all (· ≤ reachBytes) = true) {j : Nat} {t : TypeId} {d : DataW H} (ht : ts[j]? = some t) (hd : ds[j]? = some d) : ∀ q ∈ d.weights Tryz.prog t, q ≤ reachBytes := by
  intro q hq
  have := List.all_eq_true.1 h q (DataW.weights_mem_each ht hd q hq)
  simpa using this
end Args
end Go.Proofs.YtedandbkdjmfhaaGreat
/-
  SLICES OF STRUCTS IN MEMORY, AND AS ARGUMENTS, IN ONE FOR ALL TYPES: an element's cells by a function of the prover's own.
-/
namespace Go.Proofs.YtedandbkdjmfhaaGreat
open Go.ChangeShapes Go.WideShapes Go.ChangeAt Go.RowKit Mem

/-- The slice reads as these elements, each of k cells. -/
structure RowS {α : Type} (cells : α → List Value) (k : Nat) (w : World) (A : Option Addr) (n c : Nat) (xs : List α) : Prop where
  len : xs.length = n
  cap : n ≤ c
  big : n ≤ 140737488351232
  at_ : 0 < n → ∃ b o, A = some ⟨b, o, none⟩ ∧ b < w.heap.size ∧ ∀ i x, xs[i]? = some x → ∀ j u, (cells x)[j]? = some u → w.cell? ⟨b, o + i * k + j, none⟩ = some u
section
variable {α : Type} {cells : α → List Value} {k : Nat} {w w' : World} {A : Option Addr} {n c : Nat} {xs : List α}
theorem RowS.nil (cells : α → List Value) (k : Nat) (w : World) : RowS cells k w none 0 0 [] := ⟨rfl, by omega, by omega, fun h => absurd h (by omega)⟩
theorem RowS.below (h : RowS cells k w A n c xs) (hb : Below w.heap.size w w') : RowS cells k w' A n c xs := by
  refine ⟨h.len, h.cap, h.big, fun h0 => ?_⟩
  obtain ⟨b, o, e, hx, hc⟩ := h.at_ h0
  refine ⟨b, o, e, Nat.lt_of_lt_of_le hx hb.size, fun i x hi j u hu => ?_⟩
  rw [World.cell?_of_block (w := w) (hb.block b hx)]
  exact hc i x hi j u hu
theorem RowS.get (h : RowS cells k w A n c xs) {i : Nat} (hi : i < n) : ∃ x, xs[i]? = some x := ⟨_, List.getElem?_eq_getElem (by have := h.len; omega)⟩
/-- Where an element's cells lie, now and as long as that block stays. -/
theorem RowS.elem (h : RowS cells k w A n c xs) {i : Nat} {x : α} (hx : xs[i]? = some x) : ∃ b o, A = some ⟨b, o, none⟩ ∧ b < w.heap.size ∧ ∀ W : World, W.heap[b]? = w.heap[b]? → ∀ j u, (cells x)[j]? = some u → W.cell? ⟨b, o + i * k + j, none⟩ = some u := by
  have : i < xs.length := (List.getElem?_eq_some_iff.1 hx).1
  obtain ⟨b, o, e, hb, hc⟩ := h.at_ (by have := h.len; omega)
  refine ⟨b, o, e, hb, fun W hW j u hu => ?_⟩
  rw [World.cell?_of_block (w := w) hW]
  exact hc i x hx j u hu
end

namespace Args
variable {H : Type} {enc : TypeId × Value → H} {W : World}

theorem weights_of {t : TypeId} : ∀ (l : List (DataW H)) (e : DataW H), e ∈ l → ∀ q ∈ e.weights Tryz.prog t, q ∈ DataW.weightsAll Tryz.prog t l := by
  intro l
  induction l with
  | nil => intro e he; cases he
  | cons y l ih =>
    intro e he q hq
    simp only [DataW.weightsAll, List.mem_append]
    rcases List.mem_cons.1 he with rfl | he
    · exact .inl hq
    · exact .inr (ih e he q hq)

set_option maxRecDepth 100000 in
/-- A slice of structs: raw opens one element. -/
theorem open_rowS {α : Type} {cells : α → List Value} {k bytes : Nat} {p : α → Prop} {t e : TypeId} (hu : Tryz.prog.underlying t = some (.slice e)) (hC : Tryz.prog.cellsOf e = k) (hB : Tryz.prog.bytesOf e = bytes) (hb1 : 1 ≤ bytes) (hk : 0 < k)
    (raw : ∀ (fuel : Nat) (cs : List Value) (x : DataW H × List MemPlace), DataW.trod enc Tryz.prog W 0 (fun _ => true) true fuel e cs = some x → cs.length = k → (∀ q ∈ x.1.weights Tryz.prog e, q ≤ reachBytes) → ∃ v : α, cs = cells v ∧ p v)
    {v : Value} {d : DataW H} {ps : List MemPlace} {base : Nat} (hok : Value.okWide Tryz.prog W .any base t v) (h : DataW.Trod enc Tryz.prog W 0 (fun _ => true) true t v d ps)
    (hs : ∀ q ∈ d.weights Tryz.prog t, q ≤ reachBytes) : ∃ A n c xs, v = .slice A n c ∧ RowS cells k W A n c xs ∧ ∀ x ∈ xs, p x := by
  obtain ⟨a0, len0, cap0, rfl⟩ := okWide_slice hu hok
  obtain ⟨fuel, hf⟩ := h
  rcases Go.Deep.open_slice hu hf with ⟨hcs, _⟩ | ⟨a, len, cap, m, n, D, Pl, hcs, hb, hl, hm, hmm, hx, hi⟩
  · simp [Value.cells] at hcs
    obtain ⟨rfl, rfl, rfl⟩ := hcs
    exact ⟨none, 0, 0, [], rfl, RowS.nil _ _ _, by simp⟩
  · simp [Value.cells] at hcs
    obtain ⟨rfl, rfl, rfl⟩ := hcs
    simp only [if_true] at hmm
    subst hmm
    simp only [Prod.mk.injEq] at hx
    obtain ⟨rfl, rfl⟩ := hx
    have hw := hs ((len0 + (m - len0)) * bytes) (by simp [DataW.weights, hu, hB])
    have hbig : len0 ≤ 140737488351232 := by
      simp only [reachBytes] at hw
      have : len0 * 1 ≤ (len0 + (m - len0)) * bytes := Nat.mul_le_mul (by omega) hb1
      omega
    rcases Nat.eq_zero_or_pos len0 with h0 | h0
    · subst h0
      exact ⟨_, 0, m, [], rfl, ⟨rfl, by omega, by omega, fun h => absurd h (by omega)⟩, by simp⟩
    · have hex : ∀ i, i < len0 → ∃ v : α, (∀ j u, (cells v)[j]? = some u → W.cell? (a.add (i * k + j)) = some u) ∧ p v ∧ (cells v).length = k := by
        intro i hil
        obtain ⟨cs', hc, ht⟩ := hi i (by omega)
        rw [hC] at hc
        obtain ⟨_, hcl, hat⟩ := World.cells?_some hc
        obtain ⟨v, rfl, hp⟩ := raw _ _ _ ht hcl (fun q hq => by
          refine hs q ?_
          simp only [DataW.weights, hu, List.mem_cons, List.mem_append]
          exact .inr (.inl (weights_of _ _ (List.mem_map.2 ⟨i, List.mem_range.2 hil, rfl⟩) q hq)))
        refine ⟨v, fun j u hj => ?_, hp, hcl⟩
        have hjl : j < k := by have := (List.getElem?_eq_some_iff.1 hj).1; omega
        rw [← Go.Deep.add_add, hat j hjl, hj]
      obtain ⟨f, hf⟩ := Classical.axiomOfChoice (r := fun (i : Fin len0) (v : α) => (∀ j u, (cells v)[j]? = some u → W.cell? (a.add (i.1 * k + j)) = some u) ∧ p v ∧ (cells v).length = k) (fun i => hex i.1 i.2)
      obtain ⟨b, o, s⟩ := a
      obtain ⟨u0, hu0⟩ : ∃ u, (cells (f ⟨0, h0⟩))[0]? = some u := ⟨_, List.getElem?_eq_getElem (by have := (hf ⟨0, h0⟩).2.2; omega)⟩
      have hc0 := (hf ⟨0, h0⟩).1 0 _ hu0
      have hsp : s = none := by simpa [Addr.add] using World.cell?_spot hc0
      subst hsp
      have hblk : b < W.heap.size := World.block_lt_of_cell? W ⟨b, o, none⟩ (by simpa [Addr.add] using hc0)
      refine ⟨_, len0, m, List.ofFn f, rfl, ⟨by simp, by omega, hbig, fun _ => ⟨b, o, rfl, hblk, fun i x hx j u hu => ?_⟩⟩, fun x hx => ?_⟩
      · rw [List.getElem?_ofFn] at hx
        split at hx
        · rename_i hil
          simp only [Option.some.injEq] at hx
          subst hx
          have := (hf ⟨i, hil⟩).1 j u hu
          rw [add_none] at this
          rwa [Nat.add_assoc]
        · cases hx
      · obtain ⟨i, rfl⟩ := List.mem_ofFn.1 hx
        exact (hf i).2.1

/-- A slice's cell: bytes. -/
theorem raw_bytes_ {fuel : Nat} {cs : List Value} {x : DataW H × List MemPlace} (hf : DataW.trod enc Tryz.prog W 0 (fun _ => true) true fuel 32 cs = some x) (hs : ∀ q ∈ x.1.weights Tryz.prog 32, q ≤ reachBytes) :
    ∃ A n c l, cs = [.slice A n c] ∧ Row cb W A n c l := by
  rcases open_ints Tryz.underlying32 Tryz.underlying5 (by kernel_rfl) hf with ⟨hcs, _⟩ | ⟨a, l, c, zs, hcs, _, hl, hm, hz, hx, hcell, hwz⟩
  · exact ⟨none, 0, 0, [], hcs, Row.nil _ W⟩
  · have hz : zs.length = c := by simpa using hz
    have hb : Tryz.prog.bytesOf 5 = 1 := by kernel_rfl
    have hw := hs (zs.length * 1) (by
      rw [hx]
      simp [DataW.weights, Tryz.underlying32, lits, hb]
      left; omega)
    have hr : l ≤ 140737488351232 := by simp only [reachBytes] at hw; omega
    have hrow := row_of (W := W) (k := .u8) (x := a) (n := l) (c := c) (zs := zs) (by omega) (by omega) hr hcell
    refine ⟨some a, l, c, (zs.take l).map byte, hcs, ⟨by simp; omega, by omega, hr, fun h0 => ?_⟩⟩
    obtain ⟨b, o, e, hlt, hc⟩ := hrow.at_ h0
    refine ⟨b, o, e, hlt, fun i q hi => ?_⟩
    rw [List.getElem?_map] at hi
    obtain ⟨z, hz1, rfl⟩ := Option.map_eq_some_iff.1 hi
    rw [hc i z hz1]
    unfold cb
    rw [u_byte (hwz z (List.mem_of_mem_take (List.mem_of_getElem? hz1)))]
end Args
end Go.Proofs.YtedandbkdjmfhaaGreat
/-
  WHAT A LAW'S ARGUMENTS SAY IN PLAIN: a zone, a slice of zones.
-/
namespace Go.Proofs.YtedandbkdjmfhaaGreat
open Go.ChangeShapes Go.WideShapes Go.ChangeAt Go.RowKit Mem
namespace Zon
/-- A zone as memory has it: where its bytes lie, and how many there could be. -/
structure Zv where
  z : Zn
  D : Option Addr
  c : Nat
def cellsZ (x : Zv) : List Value := [.int .i64 x.z.st, .int .i64 x.z.fc, .slice x.D x.z.data.length x.c]
end Zon
namespace Args
open Zon
variable {H : Type} {enc : TypeId × Value → H} {W : World}

set_option maxRecDepth 100000 in
/-- A zone's three cells. -/
theorem raw_zone {fuel : Nat} {cs : List Value} {x : DataW H × List MemPlace} (hf : DataW.trod enc Tryz.prog W 0 (fun _ => true) true fuel 54 cs = some x) (hl : cs.length = 3) (hs : ∀ q ∈ x.1.weights Tryz.prog 54, q ≤ reachBytes) :
    ∃ v : Zv, cs = cellsZ v ∧ Row cb W v.D v.z.data.length v.c v.z.data := by
  have hu := Tryz.underlying54
  match cs, hl with
  | [c0, c1, c2], _ =>
    obtain ⟨xs, n, _, hx, _, hlen, hg⟩ := DataW.trod_struct hu hf
    have hxl : xs.length = 3 := hlen
    match xs, hxl with
    | [y0, y1, y2], _ =>
      have o3 : Tryz.prog.cellsOf 3 = 1 := by kernel_rfl
      have o27 : Tryz.prog.cellsOf 32 = 1 := by kernel_rfl
      have g0 := hg 0 _ rfl
      have g1 := hg 1 _ rfl
      have g2 := hg 2 _ rfl
      simp [o3, o27] at g0 g1 g2
      obtain ⟨z0, h0, -, w0⟩ := DataW.trod_int Tryz.underlying3 g0
      obtain ⟨z1, h1, -, w1⟩ := DataW.trod_int Tryz.underlying3 g1
      simp only [List.cons.injEq, and_true] at h0 h1
      subst h0 h1
      subst hx
      obtain ⟨A, na, ca, l, h2, r2⟩ := raw_bytes_ g2 (fun q hq => by
        refine hs q ?_
        simp only [DataW.weights, hu]
        exact DataW.weights_mem_each (j := 2) rfl rfl q hq)
      simp only [List.cons.injEq, and_true] at h2
      subst h2
      obtain rfl : na = l.length := r2.len.symm
      exact ⟨⟨⟨z0, z1, l⟩, A, ca⟩, rfl, r2⟩

set_option maxRecDepth 100000 in
theorem open_zone {v : Value} {d : DataW H} {p : List MemPlace} {base : Nat} (hok : Value.okWide Tryz.prog W .any base 54 v) (h : DataW.Trod enc Tryz.prog W 0 (fun _ => true) true 54 v d p)
    (hs : ∀ q ∈ d.weights Tryz.prog 54, q ≤ reachBytes) : ∃ z D c, v = zv z D c ∧ Row cb W D z.data.length c z.data := by
  have hu := Tryz.underlying54
  obtain ⟨cs, rfl, hsz⟩ := okWide_struct hu hok
  have hC : Tryz.prog.cellsOf 54 = 3 := by kernel_rfl
  obtain ⟨l⟩ := cs
  have hl3 : l.length = 3 := by simpa [hC] using hsz
  obtain ⟨fuel, hf⟩ := h
  obtain ⟨v, hv, h2⟩ := raw_zone hf hl3 hs
  have hv : l = cellsZ v := hv
  subst hv
  exact ⟨v.z, v.D, v.c, rfl, h2⟩

set_option maxRecDepth 100000 in
theorem open_zones {v : Value} {d : DataW H} {p : List MemPlace} {base : Nat} (hok : Value.okWide Tryz.prog W .any base 26 v) (h : DataW.Trod enc Tryz.prog W 0 (fun _ => true) true 26 v d p)
    (hs : ∀ q ∈ d.weights Tryz.prog 26, q ≤ reachBytes) : ∃ A n c xs, v = .slice A n c ∧ RowS cellsZ 3 W A n c xs ∧ ∀ x ∈ xs, Row cb W x.D x.z.data.length x.c x.z.data :=
  open_rowS (cells := cellsZ) (k := 3) (bytes := 40) Tryz.underlying26 (by kernel_rfl) (by kernel_rfl) (by omega) (by omega) (fun _ _ _ h1 h2 h3 => raw_zone h1 h2 h3) hok h hs
end Args
end Go.Proofs.YtedandbkdjmfhaaGreat
/-
  WALKS OVER zone'S AND THE DOCUMENT'S COUNTS of zones that are open, and active.
-/
namespace Go.Proofs.YtedandbkdjmfhaaGreat
open Go.RowKit Mem
namespace Zon

def openB (z : Zn) : Bool := z.st == 1 || z.st == 2
def actB (z : Zn) : Bool := openB z || z.st == 3
def cntO (l : List Zv) : Nat := l.countP fun x => openB x.z
def cntA (l : List Zv) : Nat := l.countP fun x => actB x.z
theorem cnt_le (l : List Zv) : cntO l ≤ cntA l := List.countP_mono_left fun x _ h => by unfold actB; rw [h]; rfl
theorem cntO_step {l : List Zv} {k : Nat} {x : Zv} (hx : l[k]? = some x) : cntO (l.take (k + 1)) = cntO (l.take k) + (bif openB x.z then 1 else 0) := by
  unfold cntO
  rw [List.take_add_one, hx, Option.toList_some, List.countP_append, List.countP_cons, List.countP_nil]
  cases openB x.z <;> rfl
theorem cntA_step {l : List Zv} {k : Nat} {x : Zv} (hx : l[k]? = some x) : cntA (l.take (k + 1)) = cntA (l.take k) + (bif actB x.z then 1 else 0) := by
  unfold cntA
  rw [List.take_add_one, hx, Option.toList_some, List.countP_append, List.countP_cons, List.countP_nil]
  cases actB x.z <;> rfl
theorem cntO_le (l : List Zv) (k : Nat) : cntO (l.take k) ≤ k := Nat.le_trans List.countP_le_length (by simp; omega)
theorem cntA_le (l : List Zv) (k : Nat) : cntA (l.take k) ≤ k := Nat.le_trans List.countP_le_length (by simp; omega)

set_option maxRecDepth 100000 in
set_option maxHeartbeats 1600000 in
theorem count_any {A : Option Addr} {n c : Nat} {xs : List Zv} {w : World} (h : RowS cellsZ 3 w A n c xs) :
    Calls Tryz.prog 86 #[.slice A n c] w fun e w' => e = .returned (.tuple #[.int .i64 (cntO xs : Int), .int .i64 (cntA xs : Int)]) ∧ Below w.heap.size w w' := by
  have HR := Lib.hid h
  have hbig := h.big
  clear h
  go_enter Tryz.func86, Tryz.ntmps86
  go_wp2_with fail
  go_loopw [2, 3, 8] (fun x y i wr => ∃ k p q : Nat, i = .int .i64 k ∧ x = .int .i64 p ∧ y = .int .i64 q ∧ k ≤ n ∧ p ≤ k ∧ q ≤ k ∧ Hid (cntO (xs.take k) = p ∧ cntA (xs.take k) = q ∧ Below w.heap.size w wr)) (fun _ _ i _ => n - (intOf i).toNat)
  case atStart => exact ⟨0, 0, 0, rfl, rfl, rfl, by omega, by omega, by omega, rfl, rfl, Below.refl _ _⟩
  case round =>
    obtain ⟨k, p, q, rfl, rfl, rfl, hk, hp, hq, hH⟩ := hrel
    by_cases hlt : k < n
    · obtain ⟨x, hx⟩ := HR.out.get hlt
      obtain ⟨b, o, rfl, hb, hc⟩ := HR.out.elem hx
      have hO := Lib.hid (cntO_step hx)
      have hA := Lib.hid (cntA_step hx)
      have c0 : wr.cell? ⟨b, o + k * 3, none⟩ = some (.int .i64 x.z.st) := hc wr (hH.out.2.2.block b hb) 0 _ rfl
      have c1 : wr.cell? ⟨b, o + k * 3 + 1, none⟩ = some (.int .i64 x.z.fc) := hc wr (hH.out.2.2.block b hb) 1 _ rfl
      have c2 : wr.cell? ⟨b, o + k * 3 + 2, none⟩ = some (.slice x.D x.z.data.length x.c) := hc wr (hH.out.2.2.block b hb) 2 _ rfl
      have hk0 : (0 : Int) ≤ (k : Int) := by omega
      have hk1 : (k : Int) < (n : Int) := by omega
      have LN := Lib.hid (hH.out.2.2.alloc hH.out.2.2.size (.cells #[.int .i64 x.z.st, .int .i64 x.z.fc, .slice x.D x.z.data.length x.c] 54))
      clear hc hx
      rcases e1 : (x.z.st == 1)
      · rcases e2 : (x.z.st == 2)
        · rcases e3 : (x.z.st == 3)
          · have hof : openB x.z = false := by unfold openB; rw [e1, e2]; rfl
            have haf : actB x.z = false := by unfold actB; rw [hof, e3]; rfl
            go_wp2_with fail
            go_roundw
            case rel => exact ⟨k + 1, p, q, by go_num, rfl, rfl, by omega, by omega, by omega, by rw [hO.out, hof, hH.out.1]; rfl, by rw [hA.out, haf, hH.out.2.1]; rfl, LN.out⟩
            case measure => simp [intOf]; omega
          · have hof : openB x.z = false := by unfold openB; rw [e1, e2]; rfl
            have haf : actB x.z = true := by unfold actB; rw [hof, e3]; rfl
            go_wp2_with fail
            go_roundw
            case rel => exact ⟨k + 1, p, q + 1, by go_num, rfl, by go_num, by omega, by omega, by omega, by rw [hO.out, hof, hH.out.1]; rfl, by rw [hA.out, haf, hH.out.2.1]; rfl, LN.out⟩
            case measure => simp [intOf]; omega
        · have hof : openB x.z = true := by unfold openB; rw [e1, e2]; rfl
          have haf : actB x.z = true := by unfold actB; rw [hof]; rfl
          go_wp2_with fail
          go_roundw
          case rel => exact ⟨k + 1, p + 1, q + 1, by go_num, by go_num, by go_num, by omega, by omega, by omega, by rw [hO.out, hof, hH.out.1]; rfl, by rw [hA.out, haf, hH.out.2.1]; rfl, LN.out⟩
          case measure => simp [intOf]; omega
      · have hof : openB x.z = true := by unfold openB; rw [e1]; rfl
        have haf : actB x.z = true := by unfold actB; rw [hof]; rfl
        go_wp2_with fail
        go_roundw
        case rel => exact ⟨k + 1, p + 1, q + 1, by go_num, by go_num, by go_num, by omega, by omega, by omega, by rw [hO.out, hof, hH.out.1]; rfl, by rw [hA.out, haf, hH.out.2.1]; rfl, LN.out⟩
        case measure => simp [intOf]; omega
    · have hkn : xs.take k = xs := List.take_of_length_le (by have := HR.out.len; omega)
      have HK := Lib.hid hkn
      clear hkn
      go_wp2_with fail
      go_ret2
      have hh := hH.out
      rw [HK.out] at hh
      exact ⟨by rw [hh.1, hh.2.1]; rfl, hh.2.2⟩

set_option maxRecDepth 100000 in
theorem opened_any {A : Option Addr} {n c : Nat} {xs : List Zv} {w : World} (h : RowS cellsZ 3 w A n c xs) :
    Calls Tryz.prog 67 #[.slice A n c] w fun e w' => e = .returned (.int .i64 (cntO xs : Int)) ∧ Below w.heap.size w w' := by
  have HC := Lib.hid (count_any h)
  clear h
  go_enter Tryz.func67, Tryz.ntmps67
  go_wp2_with fail
  refine HC.out.mono ?_
  rintro e w2 ⟨rfl, hb2⟩
  have L2 := Lib.hid hb2
  clear hb2
  go_wp2_with fail
  go_ret
  exact ⟨rfl, L2.out⟩

set_option maxRecDepth 100000 in
theorem active_any {A : Option Addr} {n c : Nat} {xs : List Zv} {w : World} (h : RowS cellsZ 3 w A n c xs) :
    Calls Tryz.prog 68 #[.slice A n c] w fun e w' => e = .returned (.int .i64 (cntA xs : Int)) ∧ Below w.heap.size w w' := by
  have HC := Lib.hid (count_any h)
  clear h
  go_enter Tryz.func68, Tryz.ntmps68
  go_wp2_with fail
  refine HC.out.mono ?_
  rintro e w2 ⟨rfl, hb2⟩
  have L2 := Lib.hid hb2
  clear hb2
  go_wp2_with fail
  go_ret
  exact ⟨rfl, L2.out⟩

end Zon
end Go.Proofs.YtedandbkdjmfhaaGreat
/-
  zone.Torn AND zone.Append, WHATEVER COMES.
-/
namespace Go.Proofs.YtedandbkdjmfhaaGreat
open Go.RowKit Mem
namespace Zon
theorem torn_any {z : Zn} {D : Option Addr} {c : Nat} {most : Int} {b : List B8} {d : Nat} {B : Option Addr} {keep : Int} {w : World} (h1 : Row cb w D z.data.length c z.data) (h2 : Row cb w B b.length d b) :
    Calls Tryz.prog 72 #[zv z D c, .int .i64 most, .slice B b.length d, .int .i64 keep] w (GaveZ w (tornZ z most b keep) [.int .i64 (tornErr z most b keep)]) := by
  unfold tornZ tornErr
  rcases e0 : (appErr z most b.length == 0)
  · have hne := beq_eq_false_iff_ne.1 e0
    simp only [cond_false, e0]
    exact torn_bad h2.big rfl hne
  · have he := beq_iff_eq.1 e0
    simp only [cond_true]
    rcases ek : (decide (keep < 0) || decide ((b.length : Int) < keep))
    · simp only [Bool.or_eq_false_iff, decide_eq_false_iff_not] at ek
      have e1 : ((0 : Int) == 0) = true := rfl
      simp only [cond_false, e1, cond_true]
      rcases k0 : (keep == 0)
      · obtain ⟨k, rfl⟩ := Int.eq_ofNat_of_zero_le (show 0 ≤ keep by omega)
        have := beq_eq_false_iff_ne.1 k0
        exact torn_some he h1 h2 (by omega) (by omega)
      · obtain rfl := beq_iff_eq.1 k0
        exact torn_none h2.big he h1
    · simp only [Bool.or_eq_true, decide_eq_true_eq] at ek
      exact torn_keep h2.big he ek
/-- What an append gives, its error, and where its bytes begin. -/
def appRes (z : Zn) (most : Int) (b : List B8) : Zn := bif appErr z most b.length == 0 then appZ z most b else nilZ
def appAt (z : Zn) (most : Int) (n : Nat) : Int := bif appErr z most n == 0 then z.len else 0
theorem append_any {z : Zn} {D : Option Addr} {c : Nat} {most : Int} {b : List B8} {d : Nat} {B : Option Addr} {w : World} (h1 : Row cb w D z.data.length c z.data) (h2 : Row cb w B b.length d b) :
    Calls Tryz.prog 69 #[zv z D c, .int .i64 most, .slice B b.length d] w (GaveZ w (appRes z most b) [.int .i64 (appAt z most b.length), .int .i64 (appErr z most b.length)]) := by
  unfold appRes appAt
  rcases e0 : (appErr z most b.length == 0)
  · exact append_bad h2.big rfl (beq_eq_false_iff_ne.1 e0)
  · have he := beq_iff_eq.1 e0
    rw [he]
    exact append_ok h1 h2 he
end Zon
end Go.Proofs.YtedandbkdjmfhaaGreat
/-
  zns IN PLAIN: devices, commands, what they come to; and what each command does.
-/
namespace Go.Proofs.YtedandbkdjmfhaaGreat
open Go.RowKit Mem Zon
namespace Zns

structure Dv where
  cap : Int
  op : Int
  ac : Int
  zs : List Zn
structure Cm where
  d : Int
  zone : Int
  epoch : Int
  off : Int
  n : Int
  b : List B8
structure Dn where
  e : Int
  at_ : Int
  b : List B8
def fail_ (e : Int) : Dn := ⟨e, 0, []⟩
def cO (l : List Zn) : Nat := l.countP openB
def cA (l : List Zn) : Nat := l.countP actB
theorem cntO_map (xs : List Zv) : cntO xs = cO (xs.map Zv.z) := by unfold cntO cO; rw [List.countP_map]; rfl
theorem cntA_map (xs : List Zv) : cntA xs = cA (xs.map Zv.z) := by unfold cntA cA; rw [List.countP_map]; rfl
def boundsB (n most op ac : Int) : Bool := decide (1 ≤ n) && (decide (n ≤ 64) && (decide (1 ≤ most) && (decide (most ≤ 65536) && (decide (1 ≤ op) && (decide (op ≤ ac) && decide (ac ≤ n))))))
def okD (d : Dv) : Bool := boundsB d.zs.length d.cap d.op d.ac && (d.zs.all (fun z => okB z d.cap) && (!decide (d.op < cO d.zs) && !decide (d.ac < cA d.zs)))

/-- Which zone gives way, and why none can. -/
def firstI (zs : List Zn) : Option Nat := zs.findIdx? (fun z => z.st == 1)
def wayI (o : Option Nat) : Int × Int := match o with | none => (-1, 43) | some k => ((k : Int), 0)
def toCl (op ac : Int) (zs : List Zn) (z : Zn) : Int × Int :=
  bif openB z then (-1, 0) else bif !actB z && decide (ac ≤ (cA zs : Int)) then (-1, 44) else bif decide ((cO zs : Int) < op) then (-1, 0) else wayI (firstI zs)
def atI (zs : List Zn) (i : Nat) : Zn := zs.getD i nilZ
def closeAt (zs : List Zn) (o : Int) : List Zn := bif o == -1 then zs else zs.set o.toNat (closeZ (atI zs o.toNat))
def putO (op ac : Int) (zs : List Zn) (i : Nat) (z : Zn) : List Zn × Int :=
  bif (toCl op ac zs (atI zs i)).2 == 0 then ((closeAt zs (toCl op ac zs (atI zs i)).1).set i z, 0) else (zs, (toCl op ac zs (atI zs i)).2)

def addP (cap op ac : Int) (zs : List Zn) (i : Nat) (c : Cm) : List Zn × Dn :=
  bif appErr (atI zs i) cap c.b.length == 0 then
    (bif (putO op ac zs i (appZ (atI zs i) cap c.b)).2 == 0 then ((putO op ac zs i (appZ (atI zs i) cap c.b)).1, ⟨0, (atI zs i).len, []⟩) else (zs, fail_ (putO op ac zs i (appZ (atI zs i) cap c.b)).2))
  else (zs, fail_ (appErr (atI zs i) cap c.b.length))
def tearP (cap op ac : Int) (zs : List Zn) (i : Nat) (c : Cm) : List Zn × Dn :=
  bif appErr (atI zs i) cap c.b.length == 0 then
    (bif (toCl op ac zs (atI zs i)).2 == 0 then
      (bif tornErr (atI zs i) cap c.b c.n == 0 then
        (bif c.n == 0 then (zs, fail_ 0) else ((putO op ac zs i (tornZ (atI zs i) cap c.b c.n)).1, fail_ (putO op ac zs i (tornZ (atI zs i) cap c.b c.n)).2))
      else (zs, fail_ (tornErr (atI zs i) cap c.b c.n)))
    else (zs, fail_ (toCl op ac zs (atI zs i)).2))
  else (zs, fail_ (appErr (atI zs i) cap c.b.length))
def readP (zs : List Zn) (i : Nat) (c : Cm) : List Zn × Dn := (zs, ⟨errOf (readB (atI zs i) c.off c.n), 0, readL (atI zs i) c.off c.n⟩)
def resetP (zs : List Zn) (i : Nat) : List Zn × Dn := (zs.set i ⟨0, (atI zs i).fc, []⟩, fail_ 0)
def finishP (zs : List Zn) (i : Nat) : List Zn × Dn := (zs.set i (inZ (atI zs i) 4), fail_ 0)
def openP (cap op ac : Int) (zs : List Zn) (i : Nat) : List Zn × Dn :=
  bif openErr (atI zs i) cap == 0 then ((putO op ac zs i (openZ (atI zs i) cap)).1, fail_ (putO op ac zs i (openZ (atI zs i) cap)).2) else (zs, fail_ (openErr (atI zs i) cap))
def closeP (zs : List Zn) (i : Nat) : List Zn × Dn := bif closeErr (atI zs i) == 0 then (zs.set i (closeZ (atI zs i)), fail_ 0) else (zs, fail_ (closeErr (atI zs i)))
def fenceP (zs : List Zn) (i : Nat) (c : Cm) : List Zn × Dn := bif decide (c.epoch ≤ (atI zs i).fc) then (zs, fail_ 42) else (zs.set i ⟨(atI zs i).st, c.epoch, (atI zs i).data⟩, fail_ 0)
def actP (cap op ac : Int) (zs : List Zn) (i : Nat) (c : Cm) : List Zn × Dn :=
  bif c.d == 1 then addP cap op ac zs i c else bif c.d == 8 then tearP cap op ac zs i c else bif c.d == 2 then readP zs i c else bif c.d == 3 then resetP zs i
  else bif c.d == 4 then finishP zs i else bif c.d == 5 then openP cap op ac zs i else bif c.d == 6 then closeP zs i else fenceP zs i c
def knownB (d : Int) : Bool := decide (1 ≤ d) && decide (d ≤ 8)
def stepP (cap op ac : Int) (zs : List Zn) (c : Cm) : List Zn × Dn :=
  bif !knownB c.d || (decide (c.zone < 0) || decide ((zs.length : Int) ≤ c.zone)) then (zs, fail_ 1)
  else bif !(c.d == 7) && !(c.epoch == (atI zs c.zone.toNat).fc) then (zs, fail_ 42) else actP cap op ac zs c.zone.toNat c
def doP (d : Dv) (c : Cm) : Dv × Dn :=
  bif okD d then (⟨d.cap, d.op, d.ac, (stepP d.cap d.op d.ac d.zs c).1⟩, (stepP d.cap d.op d.ac d.zs c).2) else (d, fail_ 1)
end Zns
end Go.Proofs.YtedandbkdjmfhaaGreat
/-
  THE DOCUMENT'S OWN Same, of zones.
-/
namespace Go.Proofs.YtedandbkdjmfhaaGreat
open Go.RowKit Mem
namespace Zon
/-- Two zones are the same. -/
def sameZ (x y : Zn) : Bool := (x.st == y.st) && ((x.fc == y.fc) && decide (x.data = y.data))
theorem sameZ_iff (x y : Zn) : sameZ x y = true ↔ x = y := by
  obtain ⟨a, b, c⟩ := x
  obtain ⟨d, e, f⟩ := y
  simp [sameZ]
theorem sameZ_self (x : Zn) : sameZ x x = true := (sameZ_iff x x).2 rfl

end Zon
end Go.Proofs.YtedandbkdjmfhaaGreat
/-
  A ZONE IN A BLOCK OF ITS OWN, WITH ITS BYTES, as the laws' walks carry it along.
-/
namespace Go.Proofs.YtedandbkdjmfhaaGreat
open Go.RowKit Mem
namespace Zon

/-- A zone in a block of its own, and its bytes. -/
structure Held (w : World) (g : Nat) (z : Zn) (D : Option Addr) (c : Nat) : Prop where
  box : Box w g z D c
  row : Row cb w D z.data.length c z.data
section
variable {w w' : World} {g : Nat} {z : Zn} {D : Option Addr} {c : Nat}
theorem Held.below (h : Held w g z D c) (hb : Below w.heap.size w w') : Held w' g z D c := ⟨h.box.below hb, h.row.below hb⟩
theorem Held.alloc (h : Held w g z D c) (o : Obj) : Held (w.alloc o) g z D c := h.below ((Below.refl _ w).alloc (Nat.le_refl _) o)
theorem Held.drew (h : Held w g z D c) : Held w.drew g z D c := h.below (Below.refl _ w).drew
theorem Held.drewN (h : Held w g z D c) (n : Nat) : Held (w.drewN n) g z D c := h.below (below_drewN (Below.refl _ w) n)
theorem Held.start (h : Row cb w D z.data.length c z.data) : Held (w.alloc (.cells #[.int .i64 z.st, .int .i64 z.fc, .slice D z.data.length c] 54)) w.heap.size z D c := ⟨Box.new w z D c, h.alloc _⟩
/-- What a call gave, laid into a block. -/
theorem Held.new {b : Nat} (h : Owns cb 5 b w (.slice D z.data.length c) z.data.length z.data) (hn : z.data.length ≤ 140737488351232) : Held (w.alloc (.cells #[.int .i64 z.st, .int .i64 z.fc, .slice D z.data.length c] 54)) w.heap.size z D c := ⟨Box.new w z D c, (gave_row h hn).1.alloc _⟩
end


/-- append(s, x...) onto a row of the call's own; x nil, empty or not; only blocks of that type of elements may change. -/
theorem run_append_o {α : Type} {P : Program} {f : α → Value} (hf : ∀ x, (f x).oneCell' = true) {t e : TypeId} (ht : P.underlying t = some (.slice e)) {z : Value} {bytes : Nat} (hinfo : (P.info? e).map (fun i => (i.zero, i.size, i.bytes)) = some (some z, 1, bytes)) (hzs : z.cells.size = 1)
    (w : World) (base : Nat) (s : Value) (n : Nat) (l : List α) (hown : Owns f e base w s n l) (A : Option Addr) (m c : Nat) (l' : List α) (hx : Row f w A m c l')
    (hbig : n + m ≤ 140737488351232) (hby : (n + m) * bytes ≤ 140737488355328) (hbase : base ≤ w.heap.size) :
    ∃ s' w', (Builtin.append_ #[t, t] t #[s, .slice A m c]).run P w = .ok s' w' ∧ Owns f e base w' s' (n + m) (l ++ l') ∧ Below base w w' ∧ Oth e w w' := by
  obtain ⟨i, hi, hz0, hz1, hz2⟩ := info_parts hinfo
  rcases A with _ | ad
  · have hm : m = 0 := by
      rcases Nat.eq_zero_or_pos m with h0 | h0
      · exact h0
      · obtain ⟨b, o, e, _⟩ := hx.at_ h0
        cases e
    have hl : l' = [] := List.eq_nil_of_length_eq_zero (by rw [hx.len, hm])
    subst hm hl
    refine ⟨s, w, ?_, by simpa using hown, Below.refl _ _, ⟨Nat.le_refl _, fun _ _ => .inl rfl⟩⟩
    rcases hown.2 with ⟨rfl, rfl⟩ | ⟨b, cap, cur, rfl, _, _, hnc, _⟩
    · simp [Builtin.append_, run_underlying ht, sizeOf, typeInfo, hi, Builtin.lenOf, Builtin.firstCells]
    · simp [Builtin.append_, run_underlying ht, sizeOf, typeInfo, hi, Builtin.lenOf, Builtin.firstCells, hnc, storeCells]
  · have hcells : ∀ j q, (l'.map f)[j]? = some q → w.cell? (ad.add j) = some q := by
      intro j q hq
      rw [List.getElem?_map] at hq
      obtain ⟨x, hxj, rfl⟩ := Option.map_eq_some_iff.1 hq
      have hlt : j < l'.length := (List.getElem?_eq_some_iff.1 hxj).1
      obtain ⟨b, o, e, _, hc⟩ := hx.at_ (by have := hx.len; omega)
      injection e with e
      subst e
      rw [add_none]
      exact hc j x hxj
    have hone : ∀ q ∈ l'.map f, q.oneCell' = true := by
      intro q hq
      obtain ⟨x, _, rfl⟩ := List.mem_map.1 hq
      exact hf x
    obtain ⟨s', w', hrun, h2, h3, -, -⟩ := run_append_own_at (P := P) w base t t e i _ 1 bytes ht hi hz0 hz1 hz2 hzs (by omega) s n _ hown ad m c (l'.map f) (by simp [hx.len]) hcells hone (by unfold maxLen; omega) hby hbase
    refine ⟨s', w', hrun, by unfold Owns; rw [List.map_append]; exact h2, (Below.refl base w).grown h3 hbase (fun k hk => (World.ownsRow.lt hown k hk).1), ⟨h3.size, fun k hk => ?_⟩⟩
    by_cases hkk : some k = s.ownBlock
    · rcases hown.2 with ⟨rfl, -⟩ | ⟨q, cap, cur, rfl, -, hq, -⟩
      · cases hkk
      · have : k = q := by simpa [Value.ownBlock] using hkk
        subst this
        exact .inr ⟨_, _, hq⟩
    · exact .inl (h3.block k hk hkk)

/-- The same, as one operation of a region. -/
theorem wp_append_o {α : Type} {P : Program} {f : α → Value} (hf : ∀ x, (f x).oneCell' = true) {t e : TypeId} (ht : P.underlying t = some (.slice e)) {z : Value} {bytes : Nat} (hinfo : (P.info? e).map (fun i => (i.zero, i.size, i.bytes)) = some (some z, 1, bytes)) (hzs : z.cells.size = 1)
    {w : World} {o : Oper} {a : Act} {Q : Exit → Act → World → Prop} {K : Act → World → Prop} (s x : Operand)
    (ho : o.op = .call { callee := .builtin .append, args := #[s, x], argTypes := #[t, t] }) (hty : o.type = t)
    (base : Nat) (sv : Value) (n : Nat) (l : List α) (hs : a.eval s = sv) (hown : Owns f e base w sv n l) (A : Option Addr) (m c : Nat) (l' : List α) (hx : a.eval x = .slice A m c) (h : Row f w A m c l')
    (hbig : n + m ≤ 140737488351232) (hby : (n + m) * bytes ≤ 140737488355328) (hbase : base ≤ w.heap.size)
    (hk : ∀ A' c' w', Owns f e base w' (.slice A' (n + m) c') (n + m) (l ++ l') → Below base w w' → Oth e w w' → K (a.put o.dst (.slice A' (n + m) c')) w') :
    Oper.wp P o a w K Q := by
  obtain ⟨s', w', hrun, h2, h3, h4⟩ := run_append_o hf ht hinfo hzs w base sv n l hown A m c l' h hbig hby hbase
  obtain ⟨A', c', rfl⟩ := h2.slice
  unfold Oper.wp execOp
  simp only [ho, hty, resolve, invoke, builtin, Sem.run_bind, Sem.run_pure, Result.andThen_ok, List.map_toArray, List.map_cons, List.map_nil, hs, hx, hrun]
  exact hk A' c' w' h2 h3 h4
end Zon
end Go.Proofs.YtedandbkdjmfhaaGreat
/-
  WHAT STANDS OUTSIDE ONE BLOCK: kept while a row of one's own is written.
-/
namespace Go.Proofs.YtedandbkdjmfhaaGreat
open Go.RowKit Mem
namespace Zon

/-- Block g alone may have changed. -/
structure But (g : Nat) (w w' : World) : Prop where
  by_ : w.grownBy w' (some g)
section
variable {g : Nat} {w w' w'' : World}
theorem But.refl (g : Nat) (w : World) : But g w w := ⟨⟨rfl, rfl, rfl, Nat.le_refl _, fun _ _ _ => rfl⟩⟩
theorem But.trans (h : But g w w') (k : But g w' w'') : But g w w'' :=
  ⟨⟨k.1.os.trans h.1.os, k.1.tape.trans h.1.tape, k.1.output.trans h.1.output, Nat.le_trans h.1.size k.1.size, fun i hi hn => (k.1.block i (Nat.lt_of_lt_of_le hi h.1.size) hn).trans (h.1.block i hi hn)⟩⟩
theorem But.block (h : But g w w') {k : Nat} (hk : k < w.heap.size) (hn : k ≠ g) : w'.heap[k]? = w.heap[k]? := h.1.block k hk (fun e => hn (by injection e))
theorem But.below (h : But g w w') {b : Nat} (hb : b ≤ w.heap.size) (hg : b ≤ g) : Below b w w' :=
  ⟨h.1.os, h.1.tape, h.1.output, h.1.size, fun _ hk => h.block (Nat.lt_of_lt_of_le hk hb) (Nat.ne_of_lt (Nat.lt_of_lt_of_le hk hg))⟩
theorem Cells.but {k : Nat} {t : TypeId} {cs : Array Value} (hc : Cells w k t cs) (h : But g w w') (hn : k ≠ g) : Cells w' k t cs := (h.block (Cells.lt hc) hn).trans hc
theorem Box.but {k : Nat} {z : Zn} {D : Option Addr} {c : Nat} (hc : Box w k z D c) (h : But g w w') (hn : k ≠ g) : Box w' k z D c := Cells.but hc h hn
theorem Owns.but {α : Type} {f : α → Value} {e : TypeId} {b : Nat} {s : Value} {n : Nat} {l : List α} (ho : Owns f e b w s n l) (h : But g w w') (hg : g < b ∨ w.heap.size ≤ g) : Owns f e b w' s n l := by
  refine ⟨ho.1, ?_⟩
  rcases ho.2 with hn | ⟨q, cap, cur, e1, hbg, hq, r⟩
  · exact .inl hn
  · have hlt := (Array.getElem?_eq_some_iff.1 hq).1
    exact .inr ⟨q, cap, cur, e1, hbg, (h.block hlt (by omega)).trans hq, r⟩
end

/-- Where a row of one's own lies: the block that may change while it is written. -/
theorem own_place {w : World} {b n : Nat} {A : Option Addr} {c : Nat} {l : List B8} (h : Owns cb 5 b w (.slice A n c) n l) :
    ∃ g, (0 < n → A = some ⟨g, 0, none⟩ ∧ b ≤ g ∧ g < w.heap.size) ∧ (n = 0 → g = w.heap.size) := by
  rcases Nat.eq_zero_or_pos n with h0 | h0
  · exact ⟨w.heap.size, fun h => by omega, fun _ => rfl⟩
  · rcases h.2 with ⟨-, hn⟩ | ⟨g, cap, cur, hs, hbg, hg, -⟩
    · omega
    · injection hs with e1 e2 e3
      exact ⟨g, fun _ => ⟨e1, hbg, (Array.getElem?_eq_some_iff.1 hg).1⟩, fun h => by omega⟩

/-- A byte more by one. -/
theorem inc_u (b : B8) : (u b + 1) % 256 = u (b + 1#8) := by
  unfold u
  rw [BitVec.toNat_add]
  have := b.isLt
  show _ = (((b.toNat + 1) % 256 : Nat) : Int)
  omega
/-- One byte of a row of one's own is written. -/
theorem own_write {w : World} {b n g : Nat} {c : Nat} {l : List B8} (h : Owns cb 5 b w (.slice (some ⟨g, 0, none⟩) n c) n l) (k : Nat) (x : B8) (v : Value) (hv : v = cb x) :
    Owns cb 5 b (w.setCell ⟨g, k, none⟩ v) (.slice (some ⟨g, 0, none⟩) n c) n (l.set k x) ∧ But g w (w.setCell ⟨g, k, none⟩ v) := by
  subst hv
  have h1 := World.ownsRow.stored (h : World.ownsRow w b 5 1 _ n (l.map cb)) k (cb x)
  refine ⟨?_, ⟨h1.2⟩⟩
  show World.ownsRow _ _ _ _ _ _ _
  rw [List.map_set]
  exact h1.1
theorem own_cell {w : World} {b n g : Nat} {c : Nat} {l : List B8} (h : Owns cb 5 b w (.slice (some ⟨g, 0, none⟩) n c) n l) {k : Nat} (hk : k < n) : ∃ x, w.cell? ⟨g, k, none⟩ = some (.int .u8 (u x)) ∧ w.frozen? ⟨g, k, none⟩ = false := by
  have h0 := (h : World.ownsRow w b 5 1 _ n (l.map cb))
  have hl := h.len
  have h1 := World.ownsRow.cellAt h0 k (by omega)
  rw [List.getElem?_map, List.getElem?_eq_getElem (by omega)] at h1
  exact ⟨_, h1, World.ownsRow.frozenAt h0 k⟩

/-! ### How long the answers are -/
theorem appRes_len (z : Zn) (most : Int) (b : List B8) : (appRes z most b).data.length ≤ z.data.length + b.length := by
  unfold appRes
  cases (appErr z most b.length == 0)
  · exact Nat.zero_le _
  · show (z.data ++ b).length ≤ _; simp
theorem tornZ_len (z : Zn) (most : Int) (b : List B8) (keep : Int) : (tornZ z most b keep).data.length ≤ z.data.length + b.length := by
  unfold tornZ
  cases (tornErr z most b keep == 0)
  · exact Nat.zero_le _
  · cases (keep == 0)
    · show (z.data ++ b.take keep.toNat).length ≤ _; simp; omega
    · exact Nat.le_add_right _ _
end Zon
end Go.Proofs.YtedandbkdjmfhaaGreat
