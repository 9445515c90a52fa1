/-
  A REGION THAT DRAWS ITS ORDER, BY AN INVARIANT: what is shown once for each operation that may come up serves every order. (My own; no program is named here.)
-/
import Derived.WalkKit
import Derived.OrdersHeld
import Derived.RegionTactic
namespace Go.Proofs.Ytbojfiabgjaaaaa
open Go
namespace Inv
variable {P : Program} {ops : Array Oper} {Q : Exit → Act → World → Prop} {md : Region.Mode}

/-- How many have not come up yet. -/
def left (listed : Array Bool) : Nat := listed.toList.countP (!·)

theorem count_set : ∀ (l : List Bool) (i : Nat), l[i]? = some false → (l.set i true).countP (!·) + 1 = l.countP (!·)
  | [], i, h => by simp at h
  | b :: l, 0, h => by
    simp at h
    subst h
    simp
  | b :: l, i + 1, h => by
    have ih := count_set l i (by simpa using h)
    simp only [List.set_cons_succ, List.countP_cons]
    omega
theorem left_set {listed : Array Bool} {i : Nat} (h : listed.getD i true = false) : left (listed.setIfInBounds i true) + 1 = left listed := by
  unfold left
  rw [Array.toList_setIfInBounds]
  refine count_set _ _ ?_
  rw [Array.getElem?_toList]
  rcases Nat.lt_or_ge i listed.size with h1 | h1
  · rw [Array.getElem?_eq_getElem h1]
    simp [Array.getD, h1] at h
    rw [h]
  · simp [Array.getD, Nat.not_lt.2 h1] at h
theorem left_zero {listed : Array Bool} (h : left listed = 0) (i : Nat) : listed.getD i true = true := by
  unfold left at h
  rcases Nat.lt_or_ge i listed.size with h1 | h1
  · have := (List.countP_eq_zero.1 h) listed[i] (by simp)
    simp [Array.getD, h1]
    simpa using this
  · simp [Array.getD, Nat.not_lt.2 h1]

/-- Where each operation waits for earlier ones alone, and none may come up, all have come up. -/
theorem all_of_ready {listed : Array Bool} (hsz : listed.size = ops.size) (hord : ∀ (j : Nat) (o : Oper), ops[j]? = some o → ∀ e ∈ o.after, e.on < j) (h : Region.ready md ops listed = []) : ∀ i, listed.getD i true = true := by
  intro i
  induction i using Nat.strongRecOn with
  | ind i ih =>
    rcases hb : listed.getD i true with _ | _
    · exfalso
      have hi : i < ops.size := by
        rw [← hsz]
        rcases Nat.lt_or_ge i listed.size with h1 | h1
        · exact h1
        · simp [Array.getD, Nat.not_lt.2 h1] at hb
      have : i ∈ Region.ready md ops listed := by
        rw [mem_ready]
        refine ⟨hb, ops[i], Array.getElem?_eq_getElem hi, fun e he _ => ?_⟩
        have hlt := hord i _ (Array.getElem?_eq_getElem hi) e he
        have := ih e.on hlt
        have h2 : e.on < listed.size := by omega
        simp [Array.getD, h2] at this ⊢
        exact this
      rw [h] at this
      cases this
    · rfl

theorem wpAny_inv (J : Array Bool → Act → World → Prop) (hord : ∀ (j : Nat) (o : Oper), ops[j]? = some o → ∀ e ∈ o.after, e.on < j)
    (hstep : ∀ (listed : Array Bool) (a : Act) (w : World) (i : Nat), listed.size = ops.size → i ∈ Region.ready md ops listed → J listed a w → wpOp P ops Q i (fun a' w' => J (listed.setIfInBounds i true) a' w') a w)
    (hend : ∀ (listed : Array Bool) (a : Act) (w : World), listed.size = ops.size → (∀ i, listed.getD i true = true) → J listed a w → Q .normal a w) :
    ∀ (fuel : Nat) (listed : Array Bool) (a : Act) (w : World), listed.size = ops.size → left listed ≤ fuel → J listed a w → wpAny P md ops Q fuel listed a w
  | 0, listed, a, w, hsz, hl, hJ => by
    have hall := left_zero (listed := listed) (by omega)
    refine ⟨?_, hend listed a w hsz hall hJ⟩
    rcases hr : Region.ready md ops listed with _ | ⟨j, r⟩
    · rfl
    · have : j ∈ Region.ready md ops listed := by rw [hr]; simp
      rw [mem_ready] at this
      have h1 := hall j
      rw [this.1] at h1
      cases h1
  | fuel + 1, listed, a, w, hsz, hl, hJ => by
    refine ⟨fun hr => hend listed a w hsz (all_of_ready hsz hord hr) hJ, fun i hi => ?_⟩
    have hun := (mem_ready.1 hi).1
    have hset := left_set hun
    exact wpOp_mono (fun a' w' h' => wpAny_inv J hord hstep hend fuel (listed.setIfInBounds i true) a' w' (by simpa using hsz) (by omega) h') (hstep listed a w i hsz hi hJ)

/-- THE REGION: J holds behind the draw, nothing having come up; every operation that may come up hands it on; with all of them up it gives what is asked. -/
theorem wp_region_inv {id : Nat} {a : Act} {w : World} (hm : P.follows .mixedOrders = true) (J : Array Bool → Act → World → Prop) (hord : (ops.toList.zipIdx.all fun x => x.1.after.all fun e => decide (e.on < x.2)) = true)
    (h0 : J (Array.replicate ops.size false) a w.drew)
    (hstep : ∀ (listed : Array Bool) (a : Act) (w : World) (i : Nat) (o : Oper), listed.size = ops.size → listed.getD i true = false → ops[i]? = some o → (∀ e ∈ o.after, Region.binds .any e = true → listed.getD e.on false = true) → J listed a w →
      ∀ K' : Act → World → Prop, (∀ a' w', J (listed.setIfInBounds i true) a' w' → K' a' w') → if Region.wanted o (yielded ops a.tmps) = true then Oper.wp P o a w K' Q else K' (a.put o.dst undef) w)
    (hend : ∀ (listed : Array Bool) (a : Act) (w : World), listed.size = ops.size → (∀ i, listed.getD i true = true) → J listed a w → Q .normal a w) : (Code.region id ops true).wp P Q a w := by
  refine wp_region_any hm (wpAny_inv J ?_ ?_ hend ops.size _ a w.drew (by simp) ?_ h0)
  · intro j o ho e he
    have hj : j < ops.size := (Array.getElem?_eq_some_iff.1 ho).1
    have h1 := List.all_eq_true.1 hord (o, j) (by
      rw [List.mem_zipIdx_iff_getElem?]
      simpa using ho)
    have h2 := (Array.all_eq_true'.1 h1) e he
    simpa using h2
  · intro listed a w i hsz hi hJ
    obtain ⟨hun, o, ho, hdep⟩ := mem_ready.1 hi
    exact wpOp_step ho (hstep listed a w i o hsz hun ho hdep hJ)
  · unfold left
    refine Nat.le_trans List.countP_le_length ?_
    simp
end Inv
end Go.Proofs.Ytbojfiabgjaaaaa
