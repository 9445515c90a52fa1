/-
  A REGION THAT DRAWS ITS ORDER, STEP BY STEP BY HAND: an operation that yields the same in every world that meets S is taken first; of one that does not, alone ready, the step is walked. (My own; no program is named here.)
-/
import Derived.Deep.RegionHeld3
import Derived.WalkKit
namespace Go.Proofs.Ytedandbkdjmfhaa
open Go
namespace Reg
variable {P : Program} {ops : Array Oper} {Q : Exit → Act → World → Prop} {S : World → Prop} {md : Region.Mode}

/-- An operation, its parts written out, is taken first. -/
theorem take (i : Nat) {d : Option Tmp} {op : Op} {ty : TypeId} {ps : String} {af : Array _} {g : Option _} {v : Value} {fuel : Nat} {listed : Array Bool} {a : Act} {w : World} (hi : ops[i]? = some { dst := d, op := op, type := ty, pos := ps, after := af, guard := g })
    (hs : Region.noSelect ops = true) (hf : Region.free md ops listed i = true) (hr : (Region.ready md ops listed).contains i = true)
    (hQ : ∀ c a w, Q (.panic c) (a.put d v) w → Q (.panic c) a w) (hy : YieldsIf P ops S { dst := d, op := op, type := ty, pos := ps, after := af, guard := g } v a) (hS : S w)
    (h : wpAnyH P md ops Q S fuel (listed.setIfInBounds i true) (a.put d v) w) : wpAnyH P md ops Q S (fuel + 1) listed a w :=
  wpAnyH_take hi hs hf hr hQ hy hS h

/-- The one operation that may come up is walked. -/
theorem step (i : Nat) {d : Option Tmp} {op : Op} {ty : TypeId} {ps : String} {af : Array _} {g : Option _} {fuel : Nat} {listed : Array Bool} {a : Act} {w : World} (hi : ops[i]? = some { dst := d, op := op, type := ty, pos := ps, after := af, guard := g })
    (hr : Region.ready md ops listed = [i]) (hw : Region.wanted { dst := d, op := op, type := ty, pos := ps, after := af, guard := g } (yielded ops a.tmps) = true)
    (h : ∀ K' : Act → World → Prop, Shut (∀ a w, S w → (S w → wpAnyH P md ops Q S fuel (listed.setIfInBounds i true) a w) → K' a w) → Oper.wp P { dst := d, op := op, type := ty, pos := ps, after := af, guard := g } a w K' Q) :
    wpAnyH P md ops Q S (fuel + 1) listed a w :=
  wpAnyH_ready hr (by simp) (AllReadyH.cons hi (fun K hK => by rw [if_pos hw]; exact h K hK) AllReadyH.nil)

/-- Two that may come up: each is walked. -/
theorem step2 (i j : Nat) {d : Option Tmp} {op : Op} {ty : TypeId} {ps : String} {af : Array _} {g : Option _} {d' : Option Tmp} {op' : Op} {ty' : TypeId} {ps' : String} {af' : Array _} {g' : Option _} {fuel : Nat} {listed : Array Bool} {a : Act} {w : World}
    (hi : ops[i]? = some { dst := d, op := op, type := ty, pos := ps, after := af, guard := g }) (hj : ops[j]? = some { dst := d', op := op', type := ty', pos := ps', after := af', guard := g' })
    (hr : Region.ready md ops listed = [i, j]) (hw : Region.wanted { dst := d, op := op, type := ty, pos := ps, after := af, guard := g } (yielded ops a.tmps) = true)
    (hw' : Region.wanted { dst := d', op := op', type := ty', pos := ps', after := af', guard := g' } (yielded ops a.tmps) = true)
    (h : ∀ K' : Act → World → Prop, Shut (∀ a w, S w → (S w → wpAnyH P md ops Q S fuel (listed.setIfInBounds i true) a w) → K' a w) → Oper.wp P { dst := d, op := op, type := ty, pos := ps, after := af, guard := g } a w K' Q)
    (h' : ∀ K' : Act → World → Prop, Shut (∀ a w, S w → (S w → wpAnyH P md ops Q S fuel (listed.setIfInBounds j true) a w) → K' a w) → Oper.wp P { dst := d', op := op', type := ty', pos := ps', after := af', guard := g' } a w K' Q) :
    wpAnyH P md ops Q S (fuel + 1) listed a w :=
  wpAnyH_ready hr (by simp) (AllReadyH.cons hi (fun K hK => by rw [if_pos hw]; exact h K hK) (AllReadyH.cons hj (fun K hK => by rw [if_pos hw']; exact h' K hK) AllReadyH.nil))

/-- Three that may come up: each is walked. -/
theorem step3 (i j l : Nat) {d : Option Tmp} {op : Op} {ty : TypeId} {ps : String} {af : Array _} {g : Option _} {d' : Option Tmp} {op' : Op} {ty' : TypeId} {ps' : String} {af' : Array _} {g' : Option _} {d'' : Option Tmp} {op'' : Op} {ty'' : TypeId} {ps'' : String} {af'' : Array _} {g'' : Option _} {fuel : Nat} {listed : Array Bool} {a : Act} {w : World}
    (hi : ops[i]? = some { dst := d, op := op, type := ty, pos := ps, after := af, guard := g }) (hj : ops[j]? = some { dst := d', op := op', type := ty', pos := ps', after := af', guard := g' }) (hl : ops[l]? = some { dst := d'', op := op'', type := ty'', pos := ps'', after := af'', guard := g'' })
    (hr : Region.ready md ops listed = [i, j, l]) (hw : Region.wanted { dst := d, op := op, type := ty, pos := ps, after := af, guard := g } (yielded ops a.tmps) = true)
    (hw' : Region.wanted { dst := d', op := op', type := ty', pos := ps', after := af', guard := g' } (yielded ops a.tmps) = true)
    (hw'' : Region.wanted { dst := d'', op := op'', type := ty'', pos := ps'', after := af'', guard := g'' } (yielded ops a.tmps) = true)
    (h : ∀ K' : Act → World → Prop, Shut (∀ a w, S w → (S w → wpAnyH P md ops Q S fuel (listed.setIfInBounds i true) a w) → K' a w) → Oper.wp P { dst := d, op := op, type := ty, pos := ps, after := af, guard := g } a w K' Q)
    (h' : ∀ K' : Act → World → Prop, Shut (∀ a w, S w → (S w → wpAnyH P md ops Q S fuel (listed.setIfInBounds j true) a w) → K' a w) → Oper.wp P { dst := d', op := op', type := ty', pos := ps', after := af', guard := g' } a w K' Q)
    (h'' : ∀ K' : Act → World → Prop, Shut (∀ a w, S w → (S w → wpAnyH P md ops Q S fuel (listed.setIfInBounds l true) a w) → K' a w) → Oper.wp P { dst := d'', op := op'', type := ty'', pos := ps'', after := af'', guard := g'' } a w K' Q) :
    wpAnyH P md ops Q S (fuel + 1) listed a w :=
  wpAnyH_ready hr (by simp) (AllReadyH.cons hi (fun K hK => by rw [if_pos hw]; exact h K hK) (AllReadyH.cons hj (fun K hK => by rw [if_pos hw']; exact h' K hK) (AllReadyH.cons hl (fun K hK => by rw [if_pos hw'']; exact h'' K hK) AllReadyH.nil)))
end Reg
end Go.Proofs.Ytedandbkdjmfhaa
