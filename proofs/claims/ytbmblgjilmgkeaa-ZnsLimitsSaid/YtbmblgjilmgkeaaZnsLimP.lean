/-
  ZONES THAT ARE APPENDED TO IN TURN, in plain: what comes of one byte more.
-/
import Derived.Test.YtbmblgjilmgkeaaZnsLawP
import Derived.Test.YtbmblgjilmgkeaaCut
import Derived.Test.YtbmblgjilmgkeaaZnsNew
namespace Go.Proofs.Ytbmblgjilmgkeaa
open Go.RowKit Mem Zon
namespace Zns

/-- A zone that no one but appends came to. -/
def LZ (k : Nat) (z : Zn) : Prop := (z.st = 0 ∨ z.st = 1 ∨ z.st = 3) ∧ z.fc = 0 ∧ z.data.length ≤ k
theorem LZ.more {k : Nat} {z : Zn} (h : LZ k z) : LZ (k + 1) z := ⟨h.1, h.2.1, by have := h.2.2; omega⟩
theorem LZ.close {k : Nat} {z : Zn} (h : LZ k z) : LZ (k + 1) (closeZ z) := by
  obtain ⟨h1, h2, h3⟩ := h
  unfold closeZ
  rcases (z.st == 0 || z.st == 4)
  · rcases (z.data.length == 0)
    · exact ⟨.inr (.inr rfl), h2, by show z.data.length ≤ _; omega⟩
    · exact ⟨.inl rfl, h2, by show z.data.length ≤ _; omega⟩
  · exact ⟨.inl rfl, rfl, by show 0 ≤ _; omega⟩
theorem LZ.app {k : Nat} {z : Zn} (b : B8) (h : LZ k z) (hk : k ≤ 100) : LZ (k + 1) (appZ z 1000 [b]) := by
  obtain ⟨h1, h2, h3⟩ := h
  unfold appZ stB Zn.len
  have e1 : (((z.data.length : Int) + (([b] : List B8).length : Int)) == 1000) = false := beq_eq_false_iff_ne.2 (by simp only [List.length_singleton]; omega)
  have e2 : (z.st == 2) = false := beq_eq_false_iff_ne.2 (by omega)
  rw [e1, e2]
  exact ⟨.inr (.inl rfl), h2, by show (z.data ++ [b]).length ≤ _; rw [List.length_append, List.length_singleton]; omega⟩
theorem lim_step {op ac : Int} {zs : List Zn} {k i : Nat} (b : B8) (h : OkL 1000 op ac zs) (hz : ∀ z ∈ zs, LZ k z) (hk : k ≤ 100) (hi : i < zs.length) :
    ((stepP 1000 op ac zs ⟨1, i, 0, 0, 0, [b]⟩).2.e = 0 ∨ ((stepP 1000 op ac zs ⟨1, i, 0, 0, 0, [b]⟩).2.e = 44 ∧ (cA zs : Int) = ac)) ∧ ∀ z ∈ (stepP 1000 op ac zs ⟨1, i, 0, 0, 0, [b]⟩).1, LZ (k + 1) z := by
  obtain ⟨z, hzi⟩ : ∃ z, zs[i]? = some z := ⟨_, List.getElem?_eq_getElem hi⟩
  have ha : atI zs i = z := atI_eq hzi
  have hl := hz z (List.mem_of_getElem? hzi)
  obtain ⟨l1, l2, l3⟩ := hl
  have hok : okB z 1000 = true := h.at_ hzi
  have e1 : (!knownB 1 || (decide ((i : Int) < 0) || decide ((zs.length : Int) ≤ (i : Int)))) = false := by
    have h1 : knownB 1 = true := by decide
    have h2 : decide ((i : Int) < 0) = false := decide_eq_false (by omega)
    have h3 : decide ((zs.length : Int) ≤ (i : Int)) = false := decide_eq_false (by omega)
    rw [h1, h2, h3]; rfl
  have e2 : (!((1 : Int) == 7) && !((0 : Int) == (atI zs ((i : Int)).toNat).fc)) = false := by
    rw [Int.toNat_natCast, ha, l2]; rfl
  have e3 : appErr z 1000 ([b] : List B8).length = 0 := by
    unfold appErr Zn.len
    have h4 : (z.st == 4) = false := beq_eq_false_iff_ne.2 (by omega)
    have h5 : decide ((1000 : Int) < (z.data.length : Int) + (([b] : List B8).length : Int)) = false := decide_eq_false (by simp only [List.length_singleton]; omega)
    rw [hok, h4, h5]; rfl
  have hr : stepP 1000 op ac zs ⟨1, i, 0, 0, 0, [b]⟩ = addP 1000 op ac zs i ⟨1, i, 0, 0, 0, [b]⟩ := by
    unfold stepP
    dsimp only
    rw [e1, e2]
    simp only [cond_false]
    rw [Int.toNat_natCast]
    rfl
  rw [hr]
  unfold addP
  dsimp only
  rw [ha, e3]
  have happ := LZ.app b ⟨l1, l2, l3⟩ hk
  have hset : ∀ l : List Zn, (∀ y ∈ l, LZ (k + 1) y) → ∀ y ∈ l.set i (appZ z 1000 [b]), LZ (k + 1) y := by
    intro l h1 y hy
    rcases List.mem_or_eq_of_mem_set hy with h | h
    · exact h1 y h
    · rw [h]; exact happ
  have hmore : ∀ y ∈ zs, LZ (k + 1) y := fun y hy => (hz y hy).more
  have hT : (toCl op ac zs z = (-1, 0)) ∨ (toCl op ac zs z = (-1, 44) ∧ (cA zs : Int) = ac) ∨ (∃ j : Nat, toCl op ac zs z = ((j : Int), 0) ∧ j < zs.length) := by
    unfold toCl
    rcases openB z
    · rcases e : (!actB z && decide (ac ≤ (cA zs : Int)))
      · rcases e4 : decide ((cO zs : Int) < op)
        · right; right
          have h4 : ¬ ((cO zs : Int) < op) := of_decide_eq_false e4
          obtain ⟨-, -, -, -, g1, -⟩ := bounds_parts.1 h.bounds
          have hpos : 0 < cO zs := by omega
          obtain ⟨y, hy, hyo⟩ := List.countP_pos_iff.1 hpos
          have hy1 : (y.st == 1) = true := by
            rcases (hz y hy).1 with e | e | e
            · rw [openB, e] at hyo; exact absurd hyo (by decide)
            · rw [e]; rfl
            · rw [openB, e] at hyo; exact absurd hyo (by decide)
          have hf : (firstI zs).isSome = true := by
            unfold firstI
            rw [List.findIdx?_isSome]
            exact List.any_eq_true.2 ⟨y, hy, hy1⟩
          obtain ⟨j, hj⟩ := Option.isSome_iff_exists.1 hf
          refine ⟨j, ?_, ?_⟩
          · rw [hj]; rfl
          · unfold firstI at hj
            obtain ⟨h5, -⟩ := List.findIdx?_eq_some_iff_getElem.1 hj
            exact h5
        · left; rfl
      · right; left
        refine ⟨rfl, ?_⟩
        simp only [Bool.and_eq_true, decide_eq_true_eq] at e
        have := h.ac_
        omega
    · left; rfl
  unfold putO
  rw [ha]
  rcases hT with e | ⟨e, hc⟩ | ⟨j, e, hj⟩
  · rw [e]
    refine ⟨.inl rfl, ?_⟩
    exact hset _ hmore
  · rw [e]
    exact ⟨.inr ⟨rfl, hc⟩, hmore⟩
  · rw [e]
    refine ⟨.inl rfl, ?_⟩
    refine hset _ ?_
    unfold closeAt
    have e5 : ((j : Int) == -1) = false := beq_eq_false_iff_ne.2 (by omega)
    rw [e5, Int.toNat_natCast]
    intro y hy
    rcases List.mem_or_eq_of_mem_set hy with h | h
    · exact hmore y h
    · rw [h]
      obtain ⟨v, hv⟩ : ∃ v, zs[j]? = some v := ⟨_, List.getElem?_eq_getElem hj⟩
      rw [atI_eq hv]
      exact (hz v (List.mem_of_getElem? hv)).close
theorem lim_do {X Y : Dx} {p : Dn} {O M : Int} {k i : Nat} (ho : okD X.p = true) (hc : X.cap = 1000) (hop : X.op = O) (hac : X.ac = M) (hz : ∀ v ∈ X.xs, LZ k v.z) (hk : k ≤ 100) (hi : i < X.xs.length)
    (h1 : Y.p = (doP X.p ⟨1, i, 0, 0, 0, [1#8]⟩).1) (h2 : p = (doP X.p ⟨1, i, 0, 0, 0, [1#8]⟩).2) :
    (p.e = 0 ∨ (p.e = 44 ∧ (cntA X.xs : Int) = M)) ∧ Y.cap = 1000 ∧ Y.op = O ∧ Y.ac = M ∧ (∀ v ∈ Y.xs, LZ (k + 1) v.z) ∧ okD Y.p = true ∧ (cntO Y.xs : Int) ≤ O ∧ (cntA Y.xs : Int) ≤ M := by
  obtain ⟨k1, k2, k3, k4, k5, k6, k7⟩ := do_left ho ⟨1, i, 0, 0, 0, [1#8]⟩
  have okl : OkL 1000 O M (X.xs.map Zv.z) := by
    rw [← hc, ← hop, ← hac]; exact okL_iff.1 ho
  have hS := lim_step (1#8) okl (fun z hz' => by
    obtain ⟨v, hv, rfl⟩ := List.mem_map.1 hz'
    exact hz v hv) hk (i := i) (by rw [List.length_map]; exact hi)
  have e1 : Y.cap = X.cap := (congrArg Dv.cap h1).trans k2
  have e2 : Y.op = X.op := (congrArg Dv.op h1).trans k3
  have e3 : Y.ac = X.ac := (congrArg Dv.ac h1).trans k4
  have hzs : Y.xs.map Zv.z = (stepP X.cap X.op X.ac (X.xs.map Zv.z) ⟨1, i, 0, 0, 0, [1#8]⟩).1 := by
    have := congrArg Dv.zs h1
    rw [k5] at this
    exact this
  have hp : p = (stepP X.cap X.op X.ac (X.xs.map Zv.z) ⟨1, i, 0, 0, 0, [1#8]⟩).2 := h2.trans k6
  rw [hc, hop, hac] at hzs hp
  have hok : okD Y.p = true := by rw [h1]; exact k1
  have okY : OkL 1000 O M (Y.xs.map Zv.z) := by
    have := okL_iff.1 hok
    rw [← hc, ← hop, ← hac, ← e1, ← e2, ← e3]; exact this
  refine ⟨?_, e1.trans hc, e2.trans hop, e3.trans hac, fun v hv => ?_, hok, ?_, ?_⟩
  · rw [hp, cntA_map]; exact hS.1
  · exact hS.2 v.z (by rw [← hzs]; exact List.mem_map_of_mem hv)
  · rw [cntO_map]; exact okY.op_
  · rw [cntA_map]; exact okY.ac_
/-- What the loop carries. -/
structure LI (w : World) (gx : Nat) (O M : Int) (N k : Nat) (X : Dx) (wr : World) : Prop where
  x : XI w gx X wr
  cap : X.cap = 1000
  op : X.op = O
  ac : X.ac = M
  n : X.n = N
  all : ∀ v ∈ X.xs, LZ k v.z
theorem LI.to {w wr w' : World} {gx : Nat} {O M : Int} {N k : Nat} {X : Dx} (h : LI w gx O M N k X wr) (hb : Below wr.heap.size wr w') : LI w gx O M N k X w' := ⟨h.x.to hb, h.cap, h.op, h.ac, h.n, h.all⟩
theorem one_more (i n : Nat) (h : (1 : Int) + i = n) : n = i + 1 := by omega
end Zns
end Go.Proofs.Ytbmblgjilmgkeaa
