/-
  WHAT A STEP LEAVES, IN PLAIN: a device that may be stays one; errors change nothing; other zones stay, but one that was closed; fences rise.
-/
import Derived.Test.YtbmblgjilmgkeaaZnsCheck
import Derived.Test.YtbmblgjilmgkeaaZnsDoAny
import Derived.Test.YtbmblgjilmgkeaaZonPlain
namespace Go.Proofs.Ytbmblgjilmgkeaa
open Go.RowKit Mem Zon
namespace Zns

def one (b : Bool) : Nat := bif b then 1 else 0
theorem cnt_set (p : Zn → Bool) : ∀ (l : List Zn) (i : Nat) (z z' : Zn), l[i]? = some z → (l.set i z').countP p + one (p z) = l.countP p + one (p z')
  | [], i, z, z', h => by simp at h
  | x :: l, 0, z, z', h => by
    simp at h
    subst h
    rw [List.set_cons_zero, List.countP_cons, List.countP_cons]
    unfold one
    cases p x <;> cases p z' <;> simp
  | x :: l, i + 1, z, z', h => by
    rw [List.set_cons_succ, List.countP_cons, List.countP_cons]
    have := cnt_set p l i z z' (by simpa using h)
    omega
theorem one_le (b : Bool) : one b ≤ 1 := by cases b <;> decide

/-- A device's zones that may be: how many, each, how many open, active. -/
structure OkL (cap op ac : Int) (zs : List Zn) : Prop where
  bounds : boundsB zs.length cap op ac = true
  all : ∀ z ∈ zs, okB z cap = true
  op_ : (cO zs : Int) ≤ op
  ac_ : (cA zs : Int) ≤ ac
theorem okL_iff {cap op ac : Int} {zs : List Zn} : okD ⟨cap, op, ac, zs⟩ = true ↔ OkL cap op ac zs :=
  ⟨fun h => by obtain ⟨a, b, c, d⟩ := okD_parts.1 h; exact ⟨a, b, c, d⟩, fun h => okD_parts.2 ⟨h.bounds, h.all, h.op_, h.ac_⟩⟩
section
variable {cap op ac : Int} {zs : List Zn}
theorem OkL.at_ (h : OkL cap op ac zs) {i : Nat} {z : Zn} (hz : zs[i]? = some z) : okB z cap = true := h.all z (List.mem_of_getElem? hz)
theorem OkL.caps (h : OkL cap op ac zs) : 1 ≤ cap ∧ cap ≤ 65536 := by obtain ⟨-, -, a, b, -⟩ := bounds_parts.1 h.bounds; exact ⟨a, b⟩
/-- One zone is another, that counts no more. -/
theorem OkL.set (h : OkL cap op ac zs) {i : Nat} {z z' : Zn} (hz : zs[i]? = some z) (hk : okB z' cap = true) (ho : (cO zs : Int) + one (openB z') ≤ op + one (openB z)) (ha : (cA zs : Int) + one (actB z') ≤ ac + one (actB z)) : OkL cap op ac (zs.set i z') := by
  have h1 := cnt_set openB zs i z z' hz
  have h2 := cnt_set actB zs i z z' hz
  refine ⟨by rw [List.length_set]; exact h.bounds, fun y hy => ?_, ?_, ?_⟩
  · rcases List.mem_or_eq_of_mem_set hy with hy | rfl
    · exact h.all y hy
    · exact hk
  · unfold cO at *; omega
  · unfold cA at *; omega
theorem OkL.less (h : OkL cap op ac zs) {i : Nat} {z z' : Zn} (hz : zs[i]? = some z) (hk : okB z' cap = true) (ho : one (openB z') ≤ one (openB z)) (ha : one (actB z') ≤ one (actB z)) : OkL cap op ac (zs.set i z') :=
  h.set hz hk (by have := h.op_; omega) (by have := h.ac_; omega)
end
theorem act_of_open {z : Zn} (h : openB z = true) : actB z = true := by unfold actB; rw [h]; rfl
theorem imp_open {z : Zn} (h : z.st = 1) : openB z = true := by unfold openB; rw [h]; rfl

/-! ### What is closed -/
theorem close_imp {z : Zn} {most : Int} (h : okB z most = true) (h1 : z.st = 1) : closeZ z = inZ z 3 ∧ closeErr z = 0 := by
  obtain ⟨-, -, -, hm, -⟩ := ok_parts h
  unfold mayB at hm
  rw [h1] at hm
  have hd : z.data.length ≠ 0 := by
    intro e
    have : z.len = 0 := by unfold Zn.len; rw [e]; rfl
    rw [this] at hm
    simp at hm
  unfold closeZ closeErr
  rw [h1, beq_eq_false_iff_ne.2 hd]
  exact ⟨rfl, rfl⟩
theorem in_ok {z : Zn} {most : Int} {st : Int} (h : okB z most = true) (hm : mayB st z.len most = true) : okB (inZ z st) most = true := by
  obtain ⟨p1, p2, p3, -, -⟩ := ok_parts h
  rw [ok_iff p1 p2 (show 0 ≤ (inZ z st).fc from p3)]
  exact hm
theorem st_cases {z : Zn} {most : Int} (h : okB z most = true) : z.st = 0 ∨ z.st = 1 ∨ z.st = 2 ∨ z.st = 3 ∨ z.st = 4 := by
  obtain ⟨-, -, -, hm, -⟩ := ok_parts h
  unfold mayB at hm
  by_cases h0 : z.st = 0
  · exact .inl h0
  · by_cases h1 : z.st = 1
    · exact .inr (.inl h1)
    · by_cases h2 : z.st = 2
      · exact .inr (.inr (.inl h2))
      · by_cases h3 : z.st = 3
        · exact .inr (.inr (.inr (.inl h3)))
        · by_cases h4 : z.st = 4
          · exact .inr (.inr (.inr (.inr h4)))
          · rw [beq_eq_false_iff_ne.2 h0, beq_eq_false_iff_ne.2 h1, beq_eq_false_iff_ne.2 h2, beq_eq_false_iff_ne.2 h3, beq_eq_false_iff_ne.2 h4] at hm
            cases hm
theorem close_ok {z : Zn} {most : Int} (h : okB z most = true) (he : closeErr z = 0) : okB (closeZ z) most = true ∧ openB (closeZ z) = false ∧ one (actB (closeZ z)) ≤ one (actB z) ∧ (closeZ z).fc = z.fc := by
  have hst : z.st ≠ 0 ∧ z.st ≠ 4 := by
    constructor
    · intro e; unfold closeErr at he; rw [e] at he; cases he
    · intro e; unfold closeErr at he; rw [e] at he; cases he
  obtain ⟨p1, p2, p3, hm, -⟩ := ok_parts h
  have hl := may_less p1 hm hst.2
  have hact : actB z = true := by
    rcases st_cases h with e | e | e | e | e
    · exact absurd e hst.1
    · exact act_of_open (imp_open e)
    · unfold actB openB; rw [e]; rfl
    · unfold actB openB; rw [e]; rfl
    · exact absurd e hst.2
  unfold closeZ
  rw [beq_eq_false_iff_ne.2 hst.1, beq_eq_false_iff_ne.2 hst.2]
  rcases e : (z.data.length == 0)
  · have hne := beq_eq_false_iff_ne.1 e
    refine ⟨in_ok h (may3 (by unfold Zn.len; omega) hl), rfl, ?_, rfl⟩
    rw [hact]; exact one_le _
  · have h0 := beq_iff_eq.1 e
    refine ⟨in_ok h ?_, rfl, ?_, rfl⟩
    · unfold mayB
      have : z.len = 0 := by unfold Zn.len; omega
      rw [this]; rfl
    · rw [hact]; exact one_le _

/-- What a step left. -/
structure Lv (cap op ac : Int) (zs : List Zn) (c : Cm) (r : List Zn × Dn) : Prop where
  ok : OkL cap op ac r.1
  err : r.2.e ≠ 0 → r.1 = zs ∧ r.2.b = [] ∧ r.2.at_ = 0
  len : r.1.length = zs.length
  oth : ∃ o : Option Nat, (∀ i : Nat, (i : Int) ≠ c.zone → o ≠ some i → r.1[i]? = zs[i]?) ∧ (∀ k : Nat, o = some k → r.2.e = 0 ∧ ∃ z, zs[k]? = some z ∧ z.st = 1 ∧ r.1[k]? = some (closeZ z) ∧ closeErr z = 0 ∧ (closeZ z).fc = z.fc ∧ (closeZ z).data = z.data ∧ (k : Int) ≠ c.zone)
  fc : ∀ (i : Nat) (z z' : Zn), zs[i]? = some z → r.1[i]? = some z' → z.fc ≤ z'.fc
  read : c.d = 2 → r.1 = zs
section
variable {cap op ac : Int} {zs : List Zn} {c : Cm}
theorem Lv.same (h : OkL cap op ac zs) (p : Dn) (hp : p.e ≠ 0 → p.b = [] ∧ p.at_ = 0) : Lv cap op ac zs c (zs, p) :=
  ⟨h, fun he => ⟨rfl, hp he⟩, rfl, ⟨none, fun _ _ _ => rfl, fun _ e => by cases e⟩, fun i z z' h1 h2 => by rw [h1] at h2; injection h2 with h2; rw [h2]; exact Int.le_refl _, fun _ => rfl⟩
theorem Lv.fail (h : OkL cap op ac zs) (e : Int) : Lv cap op ac zs c (zs, fail_ e) := Lv.same h _ fun _ => ⟨rfl, rfl⟩
/-- One zone is another. -/
theorem Lv.one_ {i : Nat} {z z' : Zn} (hi : c.zone = (i : Int)) (hz : zs[i]? = some z) (h : OkL cap op ac (zs.set i z')) (hf : z.fc ≤ z'.fc) (h2 : c.d ≠ 2) (p : Dn) (hp : p.e = 0) : Lv cap op ac zs c (zs.set i z', p) := by
  refine ⟨h, fun he => absurd hp he, by rw [List.length_set], ⟨none, fun k hk _ => ?_, fun _ e => by cases e⟩, fun k y y' h3 h4 => ?_, fun e => absurd e h2⟩
  · rw [List.getElem?_set, if_neg (by omega)]
  · replace h4 : (zs.set i z')[k]? = some y' := h4
    rw [List.getElem?_set] at h4
    split at h4
    · rename_i e
      subst e
      rw [hz] at h3
      injection h3 with h3
      subst h3
      split at h4
      · injection h4 with h4
        subst h4
        exact hf
      · cases h4
    · rw [h3] at h4; injection h4 with h4; rw [h4]; exact Int.le_refl _
/-- One zone is another, and one gave way to it. -/
theorem Lv.two {i j : Nat} {z z' y : Zn} (hi : c.zone = (i : Int)) (hz : zs[i]? = some z) (hy : zs[j]? = some y) (hy1 : y.st = 1) (hij : j ≠ i) (h : OkL cap op ac ((zs.set j (closeZ y)).set i z')) (hf : z.fc ≤ z'.fc) (hyo : okB y cap = true) (h2 : c.d ≠ 2) (p : Dn) (hp : p.e = 0) :
    Lv cap op ac zs c ((zs.set j (closeZ y)).set i z', p) := by
  obtain ⟨c1, c2⟩ := close_imp hyo hy1
  have hjl := (List.getElem?_eq_some_iff.1 hy).1
  refine ⟨h, fun he => absurd hp he, by rw [List.length_set, List.length_set], ⟨some j, fun k hk hn => ?_, fun k e => ?_⟩, fun k x x' h3 h4 => ?_, fun e => absurd e h2⟩
  · rw [List.getElem?_set, if_neg (by omega), List.getElem?_set, if_neg (fun e => hn (by rw [e]))]
  · injection e with e
    subst e
    refine ⟨hp, y, hy, hy1, ?_, c2, by rw [c1]; rfl, by rw [c1]; rfl, by omega⟩
    rw [List.getElem?_set, if_neg (Ne.symm hij), List.getElem?_set, if_pos rfl, if_pos hjl]
  · replace h4 : ((zs.set j (closeZ y)).set i z')[k]? = some x' := h4
    rw [List.getElem?_set] at h4
    split at h4
    · rename_i e
      subst e
      rw [hz] at h3
      injection h3 with h3
      subst h3
      split at h4
      · injection h4 with h4
        subst h4
        exact hf
      · cases h4
    · rw [List.getElem?_set] at h4
      split at h4
      · rename_i e
        subst e
        rw [hy] at h3
        injection h3 with h3
        subst h3
        injection h4 with h4
        subst h4
        rw [c1]; exact Int.le_refl _
      · rw [h3] at h4; injection h4 with h4; rw [h4]; exact Int.le_refl _
/-- A zone is laid in its place, which had to be opened for it. -/
theorem Lv.put (h : OkL cap op ac zs) {i : Nat} {z z' : Zn} (hi : c.zone = (i : Int)) (hz : zs[i]? = some z) (hk : okB z' cap = true) (hf : z.fc ≤ z'.fc) (h2 : c.d ≠ 2) (at_ : Int) :
    Lv cap op ac zs c ((putO op ac zs i z').1, bif (putO op ac zs i z').2 == 0 then ⟨0, at_, []⟩ else fail_ (putO op ac zs i z').2) := by
  have hat : atI zs i = z := by unfold atI; rw [List.getD_eq_getElem?_getD, hz]; rfl
  have ho := h.op_
  have ha := h.ac_
  have q1 := one_le (openB z')
  have q2 := one_le (actB z')
  unfold putO
  rw [hat]
  unfold toCl
  rcases e1 : openB z
  · rcases e2 : actB z
    · rcases e3 : decide (ac ≤ (cA zs : Int))
      · have e3' := of_decide_eq_false e3
        rcases e4 : decide ((cO zs : Int) < op)
        · rcases e5 : firstI zs with _ | j
          · exact Lv.fail h 43
          · have e5' := e5
            unfold firstI at e5'
            rw [List.findIdx?_eq_some_iff_getElem] at e5'
            obtain ⟨hj, hj1, -⟩ := e5'
            have hy : zs[j]? = some zs[j] := List.getElem?_eq_getElem hj
            generalize zs[j] = y at *
            have hy1 : y.st = 1 := by simpa using hj1
            have hij : j ≠ i := by
              intro e
              subst e
              rw [hz] at hy
              injection hy with hy
              subst hy
              rw [imp_open hy1] at e1
              cases e1
            have hyo := h.at_ hy
            obtain ⟨k1, k2, k3, k4⟩ := close_ok hyo (close_imp hyo hy1).2
            have hok1 := h.less hy k1 (by rw [k2]; exact Nat.zero_le _) k3
            have s1 := cnt_set openB zs j y (closeZ y) hy
            rw [k2, imp_open hy1] at s1
            have s2 := cnt_set actB zs j y (closeZ y) hy
            have hz1 : (zs.set j (closeZ y))[i]? = some z := by rw [List.getElem?_set, if_neg hij]; exact hz
            have hok2 := hok1.set hz1 hk (by
              unfold cO at *
              rw [e1]
              have : one true = 1 := rfl
              have : one false = 0 := rfl
              omega) (by
              unfold cA at *
              rw [e2]
              have : one false = 0 := rfl
              omega)
            have hjn : ((j : Int) == -1) = false := beq_eq_false_iff_ne.2 (by omega)
            have hatj : atI zs j = y := by unfold atI; rw [List.getD_eq_getElem?_getD, hy]; rfl
            have hca : closeAt zs (j : Int) = zs.set j (closeZ y) := by unfold closeAt; rw [hjn, cond_false, Int.toNat_natCast, hatj]
            have := Lv.two (c := c) hi hz hy hy1 hij hok2 hf hyo h2 ⟨0, at_, []⟩ rfl
            rw [← hca] at this
            exact this
        · have e4' := of_decide_eq_true e4
          exact Lv.one_ hi hz (h.set hz hk (by rw [e1]; have : one false = 0 := rfl; omega) (by rw [e2]; have : one false = 0 := rfl; omega)) hf h2 ⟨0, at_, []⟩ rfl
      · exact Lv.fail h 44
    · rcases e4 : decide ((cO zs : Int) < op)
      · rcases e5 : firstI zs with _ | j
        · exact Lv.fail h 43
        · have e5' := e5
          unfold firstI at e5'
          rw [List.findIdx?_eq_some_iff_getElem] at e5'
          obtain ⟨hj, hj1, -⟩ := e5'
          have hy : zs[j]? = some zs[j] := List.getElem?_eq_getElem hj
          generalize zs[j] = y at *
          have hy1 : y.st = 1 := by simpa using hj1
          have hij : j ≠ i := by
            intro e
            subst e
            rw [hz] at hy
            injection hy with hy
            subst hy
            rw [imp_open hy1] at e1
            cases e1
          have hyo := h.at_ hy
          obtain ⟨k1, k2, k3, k4⟩ := close_ok hyo (close_imp hyo hy1).2
          have hok1 := h.less hy k1 (by rw [k2]; exact Nat.zero_le _) k3
          have s1 := cnt_set openB zs j y (closeZ y) hy
          rw [k2, imp_open hy1] at s1
          have s2 := cnt_set actB zs j y (closeZ y) hy
          have hz1 : (zs.set j (closeZ y))[i]? = some z := by rw [List.getElem?_set, if_neg hij]; exact hz
          have hok2 := hok1.set hz1 hk (by
            unfold cO at *
            rw [e1]
            have : one true = 1 := rfl
            have : one false = 0 := rfl
            omega) (by
            have := hok1.ac_
            rw [e2]
            have : one true = 1 := rfl
            omega)
          have hjn : ((j : Int) == -1) = false := beq_eq_false_iff_ne.2 (by omega)
          have hatj : atI zs j = y := by unfold atI; rw [List.getD_eq_getElem?_getD, hy]; rfl
          have hca : closeAt zs (j : Int) = zs.set j (closeZ y) := by unfold closeAt; rw [hjn, cond_false, Int.toNat_natCast, hatj]
          have := Lv.two (c := c) hi hz hy hy1 hij hok2 hf hyo h2 ⟨0, at_, []⟩ rfl
          rw [← hca] at this
          exact this
      · have e4' := of_decide_eq_true e4
        exact Lv.one_ hi hz (h.set hz hk (by rw [e1]; have : one false = 0 := rfl; omega) (by rw [e2]; have : one true = 1 := rfl; omega)) hf h2 ⟨0, at_, []⟩ rfl
  · have e2 := act_of_open e1
    exact Lv.one_ hi hz (h.set hz hk (by rw [e1]; have : one true = 1 := rfl; omega) (by rw [e2]; have : one true = 1 := rfl; omega)) hf h2 ⟨0, at_, []⟩ rfl
end

/-! ### Each act, each command -/
section
variable {cap op ac : Int} {zs : List Zn} {c : Cm}
theorem atI_eq {i : Nat} {z : Zn} (hz : zs[i]? = some z) : atI zs i = z := by unfold atI; rw [List.getD_eq_getElem?_getD, hz]; rfl
theorem Lv.add (h : OkL cap op ac zs) {i : Nat} {z : Zn} (hi : c.zone = (i : Int)) (hz : zs[i]? = some z) (hd : c.d = 1) : Lv cap op ac zs c (addP cap op ac zs i c) := by
  unfold addP
  rw [atI_eq hz]
  rcases e : (appErr z cap c.b.length == 0)
  · exact Lv.fail h _
  · have hp := Lv.put h hi hz (app_ok (beq_iff_eq.1 e)) (Int.le_refl _) (by rw [hd]; decide) z.len
    rcases e2 : ((putO op ac zs i (appZ z cap c.b)).2 == 0)
    · rw [e2] at hp
      exact Lv.fail h _
    · rw [e2] at hp
      exact hp
theorem torn_okB {z : Zn} {b : List B8} {n : Int} (h0 : appErr z cap b.length = 0) (h1 : tornErr z cap b n = 0) (h2 : n ≠ 0) : okB (tornZ z cap b n) cap = true ∧ (tornZ z cap b n).fc = z.fc := by
  unfold tornZ
  rw [h1, beq_eq_false_iff_ne.2 h2]
  have h1' := h1
  unfold tornErr at h1'
  rw [h0] at h1'
  have hb : (decide (n < 0) || decide ((b.length : Int) < n)) = false := by
    rcases e : (decide (n < 0) || decide ((b.length : Int) < n))
    · rfl
    · rw [e] at h1'; cases h1'
  simp only [Bool.or_eq_false_iff, decide_eq_false_iff_not] at hb
  obtain ⟨o1, o2, o3, o4⟩ := appErr_zero h0
  refine ⟨app_ok (appErr_of o1 ?_ o3 ?_), rfl⟩
  · rw [List.length_take]; omega
  · rw [List.length_take]; omega
theorem Lv.tear (h : OkL cap op ac zs) {i : Nat} {z : Zn} (hi : c.zone = (i : Int)) (hz : zs[i]? = some z) (hd : c.d = 8) : Lv cap op ac zs c (tearP cap op ac zs i c) := by
  unfold tearP
  rw [atI_eq hz]
  rcases e : (appErr z cap c.b.length == 0)
  · exact Lv.fail h _
  · rcases e2 : ((toCl op ac zs z).2 == 0)
    · exact Lv.fail h _
    · rcases e3 : (tornErr z cap c.b c.n == 0)
      · exact Lv.fail h _
      · rcases e4 : (c.n == 0)
        · obtain ⟨k1, k2⟩ := torn_okB (beq_iff_eq.1 e) (beq_iff_eq.1 e3) (beq_eq_false_iff_ne.1 e4)
          have hp := Lv.put h hi hz k1 (by rw [k2]; exact Int.le_refl _) (by rw [hd]; decide) 0
          rcases e5 : ((putO op ac zs i (tornZ z cap c.b c.n)).2 == 0)
          · rw [e5] at hp
            exact hp
          · rw [e5] at hp
            simp only [cond_true, cond_false]
            rw [beq_iff_eq.1 e5]
            exact hp
        · exact Lv.fail h _
theorem Lv.readA (h : OkL cap op ac zs) (i : Nat) : Lv cap op ac zs c (readP zs i c) := by
  unfold readP
  refine Lv.same h _ fun he => ⟨?_, rfl⟩
  have he : errOf (readB (atI zs i) c.off c.n) ≠ 0 := he
  show readL (atI zs i) c.off c.n = []
  unfold readL
  rcases e : readB (atI zs i) c.off c.n
  · rfl
  · rw [e] at he; exact absurd rfl he
theorem Lv.reset (h : OkL cap op ac zs) {i : Nat} {z : Zn} (hi : c.zone = (i : Int)) (hz : zs[i]? = some z) (hd : c.d = 3) : Lv cap op ac zs c (resetP zs i) := by
  unfold resetP
  rw [atI_eq hz]
  exact Lv.one_ hi hz (h.less hz (ok_new (h.at_ hz)) (Nat.zero_le _) (Nat.zero_le _)) (Int.le_refl _) (by rw [hd]; decide) _ rfl
theorem Lv.finish (h : OkL cap op ac zs) {i : Nat} {z : Zn} (hi : c.zone = (i : Int)) (hz : zs[i]? = some z) (hd : c.d = 4) : Lv cap op ac zs c (finishP zs i) := by
  unfold finishP
  rw [atI_eq hz]
  exact Lv.one_ hi hz (h.less hz (ok_full (h.at_ hz)) (Nat.zero_le _) (Nat.zero_le _)) (Int.le_refl _) (by rw [hd]; decide) _ rfl
theorem open_okB {z : Zn} (h : okB z cap = true) (he : openErr z cap = 0) : okB (openZ z cap) cap = true ∧ (openZ z cap).fc = z.fc := by
  have h4 : z.st ≠ 4 := by
    intro e
    unfold openErr at he
    rw [h, e] at he
    cases he
  unfold openZ
  rw [he]
  obtain ⟨p1, -, -, hm, -⟩ := ok_parts h
  exact ⟨in_ok h (may2 (may_less p1 hm h4)), rfl⟩
theorem Lv.open_ (h : OkL cap op ac zs) {i : Nat} {z : Zn} (hi : c.zone = (i : Int)) (hz : zs[i]? = some z) (hd : c.d = 5) : Lv cap op ac zs c (openP cap op ac zs i) := by
  unfold openP
  rw [atI_eq hz]
  rcases e : (openErr z cap == 0)
  · exact Lv.fail h _
  · obtain ⟨k1, k2⟩ := open_okB (h.at_ hz) (beq_iff_eq.1 e)
    have hp := Lv.put h hi hz k1 (by rw [k2]; exact Int.le_refl _) (by rw [hd]; decide) 0
    rcases e5 : ((putO op ac zs i (openZ z cap)).2 == 0)
    · rw [e5] at hp
      exact hp
    · rw [e5] at hp
      simp only [cond_true]
      rw [beq_iff_eq.1 e5]
      exact hp
theorem Lv.close (h : OkL cap op ac zs) {i : Nat} {z : Zn} (hi : c.zone = (i : Int)) (hz : zs[i]? = some z) (hd : c.d = 6) : Lv cap op ac zs c (closeP zs i) := by
  unfold closeP
  rw [atI_eq hz]
  rcases e : (closeErr z == 0)
  · exact Lv.fail h _
  · obtain ⟨k1, k2, k3, k4⟩ := close_ok (h.at_ hz) (beq_iff_eq.1 e)
    exact Lv.one_ hi hz (h.less hz k1 (by rw [k2]; exact Nat.zero_le _) k3) (by rw [k4]; exact Int.le_refl _) (by rw [hd]; decide) _ rfl
theorem Lv.fence (h : OkL cap op ac zs) {i : Nat} {z : Zn} (hi : c.zone = (i : Int)) (hz : zs[i]? = some z) (hd : c.d = 7) : Lv cap op ac zs c (fenceP zs i c) := by
  unfold fenceP
  rw [atI_eq hz]
  rcases e : decide (c.epoch ≤ z.fc)
  · have e' := of_decide_eq_false e
    obtain ⟨p1, p2, p3, p4, -⟩ := ok_parts (h.at_ hz)
    refine Lv.one_ (z' := ⟨z.st, c.epoch, z.data⟩) hi hz (h.less hz ?_ (Nat.le_refl _) (Nat.le_refl _)) (show z.fc ≤ c.epoch by omega) (by rw [hd]; decide) _ rfl
    rw [ok_iff p1 p2 (show 0 ≤ c.epoch by omega)]
    exact p4
  · exact Lv.fail h _
/-- Whatever the command. -/
theorem step_left (h : OkL cap op ac zs) (c : Cm) : Lv cap op ac zs c (stepP cap op ac zs c) := by
  unfold stepP
  rcases e0 : (!knownB c.d || (decide (c.zone < 0) || decide ((zs.length : Int) ≤ c.zone)))
  · simp only [Bool.or_eq_false_iff, decide_eq_false_iff_not, Bool.not_eq_false'] at e0
    obtain ⟨k0, k1, k2⟩ := e0
    obtain ⟨i, hi⟩ : ∃ i : Nat, c.zone = (i : Int) := ⟨c.zone.toNat, by omega⟩
    have hz : zs[i]? = some zs[i] := List.getElem?_eq_getElem (by omega)
    generalize zs[i]'(by omega) = z at *
    have hti : c.zone.toNat = i := by omega
    simp only [cond_false]
    rw [hti]
    rcases e1 : (!(c.d == 7) && !(c.epoch == (atI zs i).fc))
    · simp only [cond_false]
      rcases known_of k0 with e | e | e | e | e | e | e | e
      · have : actP cap op ac zs i c = addP cap op ac zs i c := by unfold actP; rw [e]; rfl
        rw [this]; exact Lv.add h hi hz e
      · have : actP cap op ac zs i c = tearP cap op ac zs i c := by unfold actP; rw [e]; rfl
        rw [this]; exact Lv.tear h hi hz e
      · have : actP cap op ac zs i c = readP zs i c := by unfold actP; rw [e]; rfl
        rw [this]; exact Lv.readA h i
      · have : actP cap op ac zs i c = resetP zs i := by unfold actP; rw [e]; rfl
        rw [this]; exact Lv.reset h hi hz e
      · have : actP cap op ac zs i c = finishP zs i := by unfold actP; rw [e]; rfl
        rw [this]; exact Lv.finish h hi hz e
      · have : actP cap op ac zs i c = openP cap op ac zs i := by unfold actP; rw [e]; rfl
        rw [this]; exact Lv.open_ h hi hz e
      · have : actP cap op ac zs i c = closeP zs i := by unfold actP; rw [e]; rfl
        rw [this]; exact Lv.close h hi hz e
      · have : actP cap op ac zs i c = fenceP zs i c := by unfold actP; rw [e]; rfl
        rw [this]; exact Lv.fence h hi hz e
    · exact Lv.fail h 42
  · exact Lv.fail h 1
/-- Fences: what FenceC says, and a command of another epoch. -/
theorem step_fence (cap op ac : Int) (c : Cm) {i : Nat} {z : Zn} (hi : c.zone = (i : Int)) (hz : zs[i]? = some z) :
    (c.d = 7 → (((stepP cap op ac zs c).2.e = 0) ↔ z.fc < c.epoch) ∧ ((stepP cap op ac zs c).2.e = 0 → ∃ z', (stepP cap op ac zs c).1[i]? = some z' ∧ z'.fc = c.epoch)) ∧
    (c.d ≠ 7 → c.epoch ≠ z.fc → (stepP cap op ac zs c).2.e ≠ 0) := by
  have hil := (List.getElem?_eq_some_iff.1 hz).1
  have hti : c.zone.toNat = i := by omega
  have hb1 : decide (c.zone < 0) = false := decide_eq_false (by omega)
  have hb2 : decide ((zs.length : Int) ≤ c.zone) = false := decide_eq_false (by omega)
  constructor
  · intro hd
    have hst : stepP cap op ac zs c = fenceP zs i c := by
      unfold stepP actP
      rw [hd, hb1, hb2, hti]; rfl
    rw [hst]
    unfold fenceP
    rw [atI_eq hz]
    rcases e : decide (c.epoch ≤ z.fc)
    · have e' := of_decide_eq_false e
      refine ⟨⟨fun _ => by omega, fun _ => rfl⟩, fun _ => ⟨⟨z.st, c.epoch, z.data⟩, ?_, rfl⟩⟩
      show (zs.set i _)[i]? = _
      rw [List.getElem?_set, if_pos rfl, if_pos hil]
    · have e' := of_decide_eq_true e
      refine ⟨⟨fun h => (by cases h), fun h => (by omega)⟩, fun h => (by cases h)⟩
  · intro hd hep
    unfold stepP
    rw [hb1, hb2, hti, atI_eq hz, beq_eq_false_iff_ne.2 hd, beq_eq_false_iff_ne.2 hep]
    rcases knownB c.d
    · intro e; cases e
    · intro e; cases e
/-- A device that may be stays one. -/
theorem do_left {d : Dv} (h : okD d = true) (c : Cm) : okD (doP d c).1 = true ∧ (doP d c).1.cap = d.cap ∧ (doP d c).1.op = d.op ∧ (doP d c).1.ac = d.ac ∧ (doP d c).1.zs = (stepP d.cap d.op d.ac d.zs c).1 ∧ (doP d c).2 = (stepP d.cap d.op d.ac d.zs c).2 ∧ Lv d.cap d.op d.ac d.zs c (stepP d.cap d.op d.ac d.zs c) := by
  have hl := step_left (okL_iff.1 h) c
  unfold doP
  rw [h]
  exact ⟨okL_iff.2 hl.ok, rfl, rfl, rfl, rfl, rfl, hl⟩
end
end Zns
end Go.Proofs.Ytbmblgjilmgkeaa
