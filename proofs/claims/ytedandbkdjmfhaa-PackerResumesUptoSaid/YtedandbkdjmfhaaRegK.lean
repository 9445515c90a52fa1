/-
  A REGION THAT DRAWS ITS ORDER AND WHOSE LAST STORE OVERWRITES WHAT ITS LOADS READ: S need not hold behind operation k0; an operation may be taken first as long as a chain of waits leads from k0 to it. (My own; no program is named here.)
-/
import Derived.Deep.RegionHeld3
import Derived.WalkKit
namespace Go.Proofs.Ytedandbkdjmfhaa
open Go
namespace RegK
variable {P : Program} {ops : Array Oper} {Q : Exit → Act → World → Prop} {S : World → Prop} {md : Region.Mode} {k0 : Nat}

/-- Whatever comes up, S holds behind it, but for k0. -/
def Held (P : Program) (md : Region.Mode) (ops : Array Oper) (Q : Exit → Act → World → Prop) (S : World → Prop) (k0 : Nat) : Nat → Array Bool → Act → World → Prop
  | 0 => fun listed a w => Region.ready md ops listed = [] ∧ Q .normal a w
  | f + 1 => fun listed a w => (Region.ready md ops listed = [] → Q .normal a w) ∧
      ∀ i ∈ Region.ready md ops listed, wpOp P ops Q i (fun b v => (i ≠ k0 → S v) ∧ Held P md ops Q S k0 f (listed.setIfInBounds i true) b v) a w

theorem any : ∀ (f : Nat) (listed : Array Bool) (a : Act) (w : World), Held P md ops Q S k0 f listed a w → wpAny P md ops Q f listed a w := by
  intro f
  induction f with
  | zero => intro listed a w h; exact h
  | succ f ih => intro listed a w h; exact ⟨h.1, fun i hi => wpOp_mono (fun b v hb => ih _ b v hb.2) (h.2 i hi)⟩

/-- The beginning. -/
theorem start (k0 : Nat) {id : Nat} {a : Act} {w : World} (hm : P.follows .mixedOrders = true) (hS : S w.drew)
    (h : S w.drew → Held P .any ops Q S k0 ops.size (Array.replicate ops.size false) a w.drew) : (Code.region id ops true).wp P Q a w :=
  wp_region_any hm (any _ _ _ _ (h hS))

/-- Each waits for the next one. -/
def chain (md : Region.Mode) (ops : Array Oper) : List Nat → Bool
  | [] => true
  | [_] => true
  | u :: v :: r => (match ops[u]? with | some o => o.after.any fun e => Region.binds md e && e.on == v | none => false) && chain md ops (v :: r)
/-- Those of a chain whose next one has not come up may not come up. -/
theorem chain_not {listed : Array Bool} : ∀ {p : List Nat}, chain md ops p = true → (∀ u ∈ p, listed.getD u true = false) → ∀ u ∈ p.dropLast, u ∉ Region.ready md ops listed
  | [], _, _, u, hu => by cases hu
  | [_], _, _, u, hu => by cases hu
  | x :: y :: r, hc, hl, u, hu => by
    rw [chain, Bool.and_eq_true] at hc
    rw [List.dropLast_cons_cons] at hu
    rcases List.mem_cons.1 hu with rfl | hu
    · intro hr
      obtain ⟨-, o, ho, hall⟩ := mem_ready.1 hr
      rw [ho] at hc
      obtain ⟨e, he, hb⟩ := Array.any_eq_true'.1 hc.1
      rw [Bool.and_eq_true, beq_iff_eq] at hb
      have h1 := hall e he hb.1
      have h2 := hl y (List.mem_cons_of_mem _ List.mem_cons_self)
      rw [hb.2] at h1
      rcases Nat.lt_or_ge y listed.size with h' | h'
      · simp [h'] at h1 h2; rw [h1] at h2; cases h2
      · simp [Array.getElem?_eq_none h'] at h1
    · exact chain_not hc.2 (fun v hv => hl v (List.mem_cons_of_mem _ hv)) u hu

theorem first {i : Nat} {oi : Oper} {v : Value} (hi : ops[i]? = some oi) (hsel : ∀ (j : Nat) (o : Oper) cs b, ops[j]? = some o → o.op ≠ .select cs b)
    (hQ : ∀ c a w, Q (.panic c) (a.put oi.dst v) w → Q (.panic c) a w) (p : List Nat) (hp : chain md ops (p ++ [i]) = true) (hk : p.head? = some k0) :
    ∀ (f : Nat) (listed : Array Bool) (a : Act) (w : World),
      (∀ j oj, ops[j]? = some oj → j ≠ i → listed.getD j true = false → (∀ e ∈ oj.after, Region.binds md e = true → e.on ≠ i) → oi.apart ops oj = true) →
      i ∈ Region.ready md ops listed → (∀ u ∈ p ++ [i], listed.getD u true = false) → YieldsIf P ops S oi v a → S w →
      Held P md ops Q S k0 f (listed.setIfInBounds i true) (a.put oi.dst v) w → Held P md ops Q S k0 (f + 1) listed a w := by
  have hkp : k0 ∈ (p ++ [i]).dropLast := by
    rw [List.dropLast_concat]
    cases p with
    | nil => cases hk
    | cons x r => injection hk with hk; subst hk; exact List.mem_cons_self
  intro f
  induction f with
  | zero =>
    intro listed a w _ hr _ hy hS H
    refine ⟨fun h => (by rw [h] at hr; cases hr), fun j hj => ?_⟩
    by_cases hji : j = i
    · subst hji
      exact hy.wpOp hi hS ⟨fun _ => hS, H⟩
    · have h0 := ready_mono hj hji
      rw [H.1] at h0
      cases h0
  | succ f ih =>
    intro listed a w hfree hr hpl hy hS H
    have hnk := chain_not hp hpl
    refine ⟨fun h => (by rw [h] at hr; cases hr), fun j hj => ?_⟩
    by_cases hji : j = i
    · subst hji
      exact hy.wpOp hi hS ⟨fun _ => hS, H⟩
    · have hjk : j ≠ k0 := fun e => hnk k0 hkp (e ▸ hj)
      have hjp : j ∉ p ++ [i] := fun hm => by
        rcases List.mem_append.1 hm with hm | hm
        · exact hnk j (by rw [List.dropLast_concat]; exact hm) hj
        · exact hji (List.mem_singleton.1 hm)
      obtain ⟨hjun, oj, hoj, hall⟩ := mem_ready.1 hj
      have hnot : ∀ e ∈ oj.after, Region.binds md e = true → e.on ≠ i := fun e he hb heq => by
        have q1 := hall e he hb
        have q0 := hpl i (by simp)
        rw [heq] at q1
        rcases Nat.lt_or_ge i listed.size with h' | h'
        · simp [h'] at q0 q1; rw [q1] at q0; cases q0
        · simp [Array.getElem?_eq_none h'] at q1
      have h2 := wpOp_putIf hoj (hfree j oj hoj hji hjun hnot) (fun cs b => hsel i oi cs b hi) (fun cs b => hsel j oj cs b hoj) hQ hy (H.2 j (ready_mono hj hji))
      refine wpOp_mono (fun b v' h3 => ⟨h3.2.1, ih (listed.setIfInBounds j true) b v' ?_ (ready_mono hr (Ne.symm hji)) ?_ h3.1 (h3.2.1 hjk) ?_⟩) h2
      · intro k ok hk' hki hun hno
        refine hfree k ok hk' hki ?_ hno
        by_cases hjk2 : j = k
        · subst hjk2; exact hjun
        · rw [getD_set_ne true hjk2] at hun; exact hun
      · intro u hu
        by_cases hju : j = u
        · exact absurd (hju ▸ hu) hjp
        · rw [getD_set_ne true hju]; exact hpl u hu
      · rw [Array.setIfInBounds_comm _ _ hji]
        exact h3.2.2

/-- An operation, its parts written out, is taken first; p: the chain from k0 to it, without it. -/
theorem take (i : Nat) (p : List Nat) {d : Option Tmp} {op : Op} {ty : TypeId} {ps : String} {af : Array _} {g : Option _} {v : Value} {fuel : Nat} {listed : Array Bool} {a : Act} {w : World} (hi : ops[i]? = some { dst := d, op := op, type := ty, pos := ps, after := af, guard := g })
    (hs : Region.noSelect ops = true) (hf : Region.free md ops listed i = true) (hr : (Region.ready md ops listed).contains i = true)
    (hp : chain md ops (p ++ [i]) = true) (hk : p.head? = some k0) (hl : ((p ++ [i]).all fun u => !listed.getD u true) = true)
    (hQ : ∀ c a w, Q (.panic c) (a.put d v) w → Q (.panic c) a w) (hy : YieldsIf P ops S { dst := d, op := op, type := ty, pos := ps, after := af, guard := g } v a) (hS : S w)
    (h : Held P md ops Q S k0 fuel (listed.setIfInBounds i true) (a.put d v) w) : Held P md ops Q S k0 (fuel + 1) listed a w :=
  first hi (Region.noSelect_spec hs) hQ p hp hk fuel listed a w (Region.free_spec hi hf) (by simpa using hr) (fun u hu => by have := List.all_eq_true.1 hl u hu; simpa using this) hy hS h

/-- The one operation that may come up is walked. -/
theorem step (i : Nat) {d : Option Tmp} {op : Op} {ty : TypeId} {ps : String} {af : Array _} {g : Option _} {fuel : Nat} {listed : Array Bool} {a : Act} {w : World} (hi : ops[i]? = some { dst := d, op := op, type := ty, pos := ps, after := af, guard := g })
    (hr : Region.ready md ops listed = [i]) (hw : Region.wanted { dst := d, op := op, type := ty, pos := ps, after := af, guard := g } (yielded ops a.tmps) = true)
    (h : ∀ K' : Act → World → Prop, Shut (∀ a w, (i ≠ k0 → S w) → Held P md ops Q S k0 fuel (listed.setIfInBounds i true) a w → K' a w) → Oper.wp P { dst := d, op := op, type := ty, pos := ps, after := af, guard := g } a w K' Q) :
    Held P md ops Q S k0 (fuel + 1) listed a w :=
  ⟨(fun h0 => by rw [hr] at h0; cases h0), fun j hj => by
    rw [hr] at hj
    obtain rfl := List.mem_singleton.1 hj
    exact wpOp_step hi (fun K' hK => by rw [if_pos hw]; exact h K' (fun a w hS hW => hK a w ⟨hS, hW⟩))⟩

/-- All have come up. -/
theorem done {listed : Array Bool} {a : Act} {w : World} (hr : Region.ready md ops listed = []) (h : Q .normal a w) : ∀ f, Held P md ops Q S k0 f listed a w
  | 0 => ⟨hr, h⟩
  | _ + 1 => ⟨fun _ => h, fun i hi => by rw [hr] at hi; cases hi⟩
end RegK
end Go.Proofs.Ytedandbkdjmfhaa
