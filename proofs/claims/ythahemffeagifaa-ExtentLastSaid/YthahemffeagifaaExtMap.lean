/-
  A MAP OF ints TO WHAT IS KEPT OF BLOCKS, IN MEMORY: made, written, deleted from, asked, counted. (Written by gen_extmap.py.)
-/
import Derived.Test.YthahemffeagifaaExtLaw
import Derived.Maps.OwnOps
namespace Go.Proofs.Ythahemffeagifaa
open Go.ChangeShapes Go.RowKit Go.MapKept Mem
namespace Ext
abbrev T3 := Int × Int × Int
def getB : List (Int × T3) → Int → Option T3
  | [], _ => none
  | k :: r, n => if k.1 = n then some k.2 else getB r n
def setB : List (Int × T3) → Int → T3 → List (Int × T3)
  | [], n, v => [(n, v)]
  | k :: r, n, v => if k.1 = n then (n, v) :: r else k :: setB r n v
def delB : List (Int × T3) → Int → List (Int × T3)
  | [], _ => []
  | k :: r, n => if k.1 = n then r else k :: delB r n
/-- No key twice. -/
def KN : List (Int × T3) → Prop
  | [] => True
  | k :: r => getB r k.1 = none ∧ KN r
theorem get_set (ks : List (Int × T3)) (n : Int) (v : T3) (m : Int) : getB (setB ks n v) m = if m = n then some v else getB ks m := by
  induction ks with
  | nil =>
    simp only [setB, getB]
    by_cases h : m = n
    · rw [if_pos h, if_pos h.symm]
    · rw [if_neg h, if_neg (Ne.symm h)]
  | cons k r ih =>
    unfold setB
    by_cases h : k.1 = n
    · rw [if_pos h]
      simp only [getB]
      by_cases h2 : m = n
      · simp [h2]
      · simp only [h, if_neg (Ne.symm h2), if_neg h2]
    · rw [if_neg h]
      simp only [getB, ih]
      by_cases h2 : k.1 = m
      · rw [if_pos h2, if_pos h2, if_neg (by omega)]
      · rw [if_neg h2, if_neg h2]
theorem kn_set {ks : List (Int × T3)} (h : KN ks) (n : Int) (v : T3) : KN (setB ks n v) := by
  induction ks with
  | nil => exact ⟨rfl, trivial⟩
  | cons k r ih =>
    unfold setB
    by_cases hk : k.1 = n
    · rw [if_pos hk]
      exact ⟨by rw [← hk]; exact h.1, h.2⟩
    · rw [if_neg hk]
      exact ⟨by rw [get_set, if_neg hk]; exact h.1, ih h.2⟩
theorem get_del {ks : List (Int × T3)} (h : KN ks) (n m : Int) : getB (delB ks n) m = if m = n then none else getB ks m := by
  induction ks with
  | nil => simp [delB, getB]
  | cons k r ih =>
    unfold delB
    by_cases hk : k.1 = n
    · rw [if_pos hk, getB]
      by_cases hm : m = n
      · rw [if_pos hm, hm, ← hk]; exact h.1
      · rw [if_neg hm, if_neg (by omega)]
    · rw [if_neg hk, getB, getB, ih h.2]
      by_cases hm : m = n
      · rw [if_pos hm, if_neg (by omega), if_pos hm]
      · rw [if_neg hm, if_neg hm]
theorem kn_del {ks : List (Int × T3)} (h : KN ks) (n : Int) : KN (delB ks n) := by
  induction ks with
  | nil => trivial
  | cons k r ih =>
    unfold delB
    by_cases hk : k.1 = n
    · rw [if_pos hk]; exact h.2
    · rw [if_neg hk]
      refine ⟨?_, ih h.2⟩
      rw [get_del h.2, h.1]
      split <;> rfl
theorem kn_cnt {ks : List (Int × T3)} (h : KN ks) {N : Nat} (hN : ∀ k v, getB ks k = some v → 0 ≤ k ∧ k < N) : ks.length = cnt (fun k => (getB ks k).isSome) N := by
  induction ks with
  | nil => show 0 = cnt (fun _ => false) N; rw [cnt_zero]
  | cons k r ih =>
    have hk := hN k.1 k.2 (by rw [getB, if_pos rfl])
    have hr : ∀ j v, getB r j = some v → 0 ≤ j ∧ j < N := fun j v hj => hN j v (by
      rw [getB, if_neg (fun e => by rw [← e, h.1] at hj; cases hj)]; exact hj)
    have e1 : cnt (fun j => (getB (k :: r) j).isSome) N = cnt (fun j => decide (k.1 ≤ j ∧ j < k.1 + 1) || (getB r j).isSome) N := cnt_congr fun j _ => by
      rw [getB]
      by_cases hj : k.1 = (j : Int)
      · rw [if_pos hj, decide_eq_true (by omega)]; rfl
      · rw [if_neg hj, decide_eq_false (by omega)]; rfl
    rw [e1, cnt_or fun j _ => ?_, ← ih h.2 hr, List.length_cons]
    · have := cnt_range (a := k.1) (b := k.1 + 1) (N := N) hk.1 (by omega) (by omega)
      omega
    · by_cases hj : k.1 = (j : Int)
      · rw [← hj, h.1]; simp
      · rw [decide_eq_false (by omega)]; rfl
def bt (v : T3) : Value := .agg #[.bool true, .int .i64 v.1, .int .i64 v.2.1, .int .i64 v.2.2]
theorem bt_bv (v : T3) : bv (some v) = bt v := rfl
def Ents (es : List MapEntry) (ks : List (Int × T3)) : Prop := es.map (fun x => (x.key, x.val)) = ks.map (fun k => (Value.int .i64 k.1, bt k.2))
def FMap (w : World) (r : Nat) (ks : List (Int × T3)) : Prop := ∃ es clock, w.heap[r]? = some (.map es clock) ∧ Ents es.toList ks
theorem FMap.lt {w : World} {r : Nat} {ks : List (Int × T3)} (h : FMap w r ks) : r < w.heap.size := by obtain ⟨es, c, h1, -⟩ := h; exact (Array.getElem?_eq_some_iff.1 h1).1
theorem FMap.below {w w' : World} {r : Nat} {ks : List (Int × T3)} (h : FMap w r ks) (hb : Below w.heap.size w w') : FMap w' r ks := by
  have hlt := h.lt
  obtain ⟨es, c, h1, h2⟩ := h
  exact ⟨es, c, (hb.block r hlt).trans h1, h2⟩
theorem FMap.drew {w : World} {r : Nat} {ks : List (Int × T3)} (h : FMap w r ks) : FMap w.drew r ks := h
theorem FMap.but {w w' : World} {r b : Nat} {ks : List (Int × T3)} (h : FMap w r ks) (hb : But b w w') (hn : r ≠ b) : FMap w' r ks := by
  have hlt := h.lt
  obtain ⟨es, c, h1, h2⟩ := h
  exact ⟨es, c, (hb.block hlt hn).trans h1, h2⟩
theorem FMap.made (w : World) : FMap (w.alloc (.map #[] 0)) w.heap.size [] := ⟨#[], 0, heap_alloc_new w _, rfl⟩
/-- A block of cells is no map. -/
theorem map_ne {w : World} {r g : Nat} {ks : List (Int × T3)} {t : TypeId} {cs : Array Value} (h : FMap w r ks) (hc : Cells w g t cs) : g ≠ r := by
  rintro rfl
  obtain ⟨es, c, h1, -⟩ := h
  have h2 : w.heap[g]? = some (.cells cs t) := hc
  rw [h1] at h2
  cases h2
/-- A row lies in no map. -/
theorem row_but {w w' : World} {r : Nat} {ks : List (Int × T3)} {A : Option Addr} {n c : Nat} {l : List Ex} (h : RowL w A n c l) (hm : FMap w r ks) (hb : But r w w') : RowL w' A n c l := by
  refine RowS.keepBut h (fun q o e h0 he => ?_) hb
  subst he
  obtain ⟨es, cl, h1, -⟩ := hm
  obtain ⟨x, hx⟩ := h.get h0
  obtain ⟨b, o', hA, hc, -⟩ := RowS.ext_at h hx
  rw [e] at hA
  injection hA with hA
  injection hA with h2 h3
  subst h2
  simp [World.cell?, h1] at hc
theorem find_ents (n : Int) : ∀ (l : List MapEntry) (ks : List (Int × T3)) (i : Nat), Ents l ks →
    (∃ j e v, Instr.findNow (.int .i64) (.int .i64 n) l i = some (some (i + j, bt v)) ∧ getB ks n = some v ∧ l[j]? = some e ∧ e.key = .int .i64 n ∧ (∀ u, Ents (l.modify j (fun e => { e with key := .int .i64 n, val := bt u })) (setB ks n u)) ∧ Ents (l.eraseIdx j) (delB ks n)) ∨
    (Instr.findNow (.int .i64) (.int .i64 n) l i = some none ∧ getB ks n = none ∧ (∀ u, setB ks n u = ks ++ [(n, u)]) ∧ delB ks n = ks)
  | [], [], i, _ => .inr ⟨by simp [Instr.findNow], rfl, fun _ => rfl, rfl⟩
  | [], k :: ks, i, h => by simp [Ents] at h
  | e :: l, [], i, h => by simp [Ents] at h
  | e :: l, k :: ks, i, h => by
    simp only [Ents, List.map_cons, List.cons.injEq, Prod.mk.injEq] at h
    obtain ⟨⟨h1, h2⟩, h3⟩ := h
    have ih := find_ents n l ks (i + 1) h3
    have hs : Instr.sameNow (.int .i64) (.int .i64 n) e.key = some (n == k.1) := by rw [h1]; simp [Instr.sameNow]
    by_cases hk : n = k.1
    · have hs2 : (n == k.1) = true := by simpa using hk
      refine .inl ⟨0, e, k.2, ?_, by rw [getB, if_pos hk.symm], rfl, by rw [h1, hk], fun u => ?_, ?_⟩
      · simp only [Instr.findNow, hs, hs2, h2, Nat.add_zero]
      · simp only [setB, if_pos hk.symm, Ents, List.modify_zero_cons, List.map_cons]
        rw [show l.map (fun x => (x.key, x.val)) = _ from h3]
      · simp only [delB, if_pos hk.symm, List.eraseIdx_cons_zero]
        exact h3
    · have hf : (n == k.1) = false := by simpa using hk
      rcases ih with ⟨j, e', v, g1, g2, g3, g4, g5, g6⟩ | ⟨g1, g2, g3, g4⟩
      · refine .inl ⟨j + 1, e', v, ?_, by rw [getB, if_neg (Ne.symm hk)]; exact g2, by simpa using g3, g4, fun u => ?_, ?_⟩
        · simp only [Instr.findNow, hs, hf]
          rw [g1, show i + 1 + j = i + (j + 1) by omega]
        · simp only [setB, if_neg (Ne.symm hk), Ents, List.modify_succ_cons, List.map_cons, h1, h2]
          rw [show (List.modify l j _).map (fun x => (x.key, x.val)) = _ from g5 u]
        · simp only [delB, if_neg (Ne.symm hk), Ents, List.eraseIdx_cons_succ, List.map_cons, h1, h2]
          rw [show (List.eraseIdx l j).map (fun x => (x.key, x.val)) = _ from g6]
      · refine .inr ⟨?_, by rw [getB, if_neg (Ne.symm hk)]; exact g2, fun u => ?_, ?_⟩
        · simp only [Instr.findNow, hs, hf]; exact g1
        · simp only [setB, if_neg (Ne.symm hk), g3, List.cons_append]
        · simp only [delB, if_neg (Ne.symm hk), g4]
theorem run_put {w : World} {r : Nat} {ks : List (Int × T3)} (h : FMap w r ks) (n : Int) (v : T3) : ∃ w', (Instr.mapUpdate 26 (.map (some r)) (.int .i64 n) (bt v)).run Try.prog w = .ok () w' ∧ FMap w' r (setB ks n v) ∧ But r w w' := by
  obtain ⟨es, clock, hb, he⟩ := h
  have hkey : IsKey (.int .i64) (.int .i64 n) := rfl
  have hbut : ∀ o, But r w { w with heap := w.heap.setIfInBounds r o } := fun o => ⟨⟨rfl, rfl, rfl, by simp, fun k hk hn => (MapKept.heap_set hb (o' := o)).2 k (fun e => hn (by rw [e]))⟩⟩
  rcases find_ents n es.toList ks 0 he with ⟨j, e, v0, g1, g2, g3, g4, g5, -⟩ | ⟨g1, -, g3, -⟩
  · rw [Nat.zero_add] at g1
    have ge : es[j]? = some e := by simpa using g3
    refine ⟨{ w with heap := w.heap.setIfInBounds r (.map (es.modify j fun e => { e with key := .int .i64 n, val := bt v }) clock) }, ?_, ⟨_, clock, (MapKept.heap_set hb (o' := _)).1, ?_⟩, hbut _⟩
    · have hst : (Instr.keyThatStays (((es[j]?).map (·.key)).getD (.int .i64 n)) (.int .i64 n)).run Try.prog w = .ok (.int .i64 n) w := by
        rw [ge]; simp only [Option.map_some, Option.getD_some, g4]
        exact MapKept.run_keyThatStays hkey
      simp only [Option.map] at hst
      simp [Instr.mapUpdate, run_underlying Try.underlying26, MapKept.run_getObj_map (P := Try.prog) hb, MapKept.run_checkKey (P := Try.prog) (w := w) Try.underlying3 hkey, MapKept.run_findKey (P := Try.prog) (w := w) Try.underlying3 g1, MapKept.run_setObj_map (P := Try.prog) _ hb, Result.andThen, ge, g4, MapKept.run_keyThatStays (P := Try.prog) (w := w) hkey]
    · rw [Array.toList_modify]; exact g5 v
  · refine ⟨{ w with heap := w.heap.setIfInBounds r (.map (es.push ⟨.int .i64 n, bt v, clock⟩) (clock + 1)) }, ?_, ⟨_, clock + 1, (MapKept.heap_set hb (o' := _)).1, ?_⟩, hbut _⟩
    · simp [Instr.mapUpdate, run_underlying Try.underlying26, MapKept.run_getObj_map (P := Try.prog) hb, MapKept.run_checkKey (P := Try.prog) (w := w) Try.underlying3 hkey, MapKept.run_findKey (P := Try.prog) (w := w) Try.underlying3 g1, MapKept.run_setObj_map (P := Try.prog) _ hb, Result.andThen]
    · rw [g3]
      unfold Ents at he ⊢
      simp [he]
theorem run_del {w : World} {r : Nat} {ks : List (Int × T3)} (h : FMap w r ks) (n : Int) (ty : TypeId) : ∃ w', (Builtin.delete_ #[26, 3] ty #[.map (some r), .int .i64 n]).run Try.prog w = .ok (.tuple #[]) w' ∧ FMap w' r (delB ks n) ∧ But r w w' := by
  obtain ⟨es, clock, hb, he⟩ := h
  have hkey : IsKey (.int .i64) (.int .i64 n) := rfl
  have hbut : ∀ o, But r w { w with heap := w.heap.setIfInBounds r o } := fun o => ⟨⟨rfl, rfl, rfl, by simp, fun k hk hn => (MapKept.heap_set hb (o' := o)).2 k (fun e => hn (by rw [e]))⟩⟩
  rcases find_ents n es.toList ks 0 he with ⟨j, e, v0, g1, g2, g3, g4, -, g6⟩ | ⟨g1, -, -, g4⟩
  · rw [Nat.zero_add] at g1
    have hjs : j < es.size := by have := (List.getElem?_eq_some_iff.1 g3).1; simpa using this
    have hsub : (es.eraseIdxIfInBounds j).toList = es.toList.eraseIdx j := by
      unfold Array.eraseIdxIfInBounds
      rw [dif_pos hjs]
      simp
    refine ⟨{ w with heap := w.heap.setIfInBounds r (.map (es.eraseIdxIfInBounds j) clock) }, ?_, ⟨_, clock, (MapKept.heap_set hb (o' := _)).1, ?_⟩, hbut _⟩
    · simp [Builtin.delete_, run_underlying Try.underlying26, MapKept.run_getObj_map (P := Try.prog) hb, MapKept.run_checkKey (P := Try.prog) (w := w) Try.underlying3 hkey, MapKept.run_findKey (P := Try.prog) (w := w) Try.underlying3 g1, MapKept.run_setObj_map (P := Try.prog) _ hb, Result.andThen]
    · rw [hsub]; exact g6
  · refine ⟨{ w with heap := w.heap.setIfInBounds r (.map es clock) }, ?_, ⟨es, clock, (MapKept.heap_set hb (o' := _)).1, by rw [g4]; exact he⟩, hbut _⟩
    simp [Builtin.delete_, run_underlying Try.underlying26, MapKept.run_getObj_map (P := Try.prog) hb, MapKept.run_checkKey (P := Try.prog) (w := w) Try.underlying3 hkey, MapKept.run_findKey (P := Try.prog) (w := w) Try.underlying3 g1, MapKept.run_setObj_map (P := Try.prog) _ hb, Result.andThen]
theorem run_get {w : World} {r : Nat} {ks : List (Int × T3)} (h : FMap w r ks) (n : Int) : (Instr.lookup 26 (.map (some r)) (.int .i64 n) false).run Try.prog w = .ok (bv (getB ks n)) w := by
  obtain ⟨es, clock, hb, he⟩ := h
  have hkey : IsKey (.int .i64) (.int .i64 n) := rfl
  have hz : (zeroValue 34).run Try.prog w = .ok (bv none) w := by
    obtain ⟨i, hi, hz0, hz1, hz2⟩ := info_parts (show (Try.prog.info? 34).map (fun i => (i.zero, i.size, i.bytes)) = some (some (.agg #[.bool false, .int .i64 0, .int .i64 0, .int .i64 0]), 4, 32) by kernel_rfl)
    simp [zeroValue, typeInfo, hi, hz0, bv]
  rcases find_ents n es.toList ks 0 he with ⟨j, e, v0, g1, g2, -⟩ | ⟨g1, g2, -⟩
  · rw [g2]
    simp [Instr.lookup, run_underlying Try.underlying26, MapKept.run_getObj_map (P := Try.prog) hb, MapKept.run_checkKey (P := Try.prog) (w := w) Try.underlying3 hkey, MapKept.run_findKey (P := Try.prog) (w := w) Try.underlying3 g1, Result.andThen, bt_bv]
  · rw [g2]
    simp [Instr.lookup, run_underlying Try.underlying26, MapKept.run_getObj_map (P := Try.prog) hb, MapKept.run_checkKey (P := Try.prog) (w := w) Try.underlying3 hkey, MapKept.run_findKey (P := Try.prog) (w := w) Try.underlying3 g1, Result.andThen, hz]
theorem run_len {w : World} {r : Nat} {ks : List (Int × T3)} (h : FMap w r ks) (ty : TypeId) : (Builtin.len_ #[26] ty #[.map (some r)]).run Try.prog w = .ok (.int .i64 (ks.length : Int)) w := by
  obtain ⟨es, clock, hb, he⟩ := h
  have hl : es.size = ks.length := by
    have := congrArg List.length he
    simpa using this
  simp [Builtin.len_, run_underlying Try.underlying26, MapKept.run_getObj_map (P := Try.prog) hb, goInt, Result.andThen, hl]
theorem wpList_put {w : World} {ops : Array Oper} {rest : List Oper} {o : Oper} {a : Act} {Q : Exit → Act → World → Prop}
    (hg : o.guard = none) (m x y : Operand) (hop : o.op = Op.mapUpdate 26 m x y) {r : Nat} {ks : List (Int × T3)} {n : Int} {v : T3} (h : FMap w r ks)
    (hm : a.eval m = .map (some r)) (hx : a.eval x = .int .i64 n) (hv : a.eval y = bt v)
    (hK : ∀ w', FMap w' r (setB ks n v) → But r w w' → wpList Try.prog ops Q rest (a.put o.dst undef) w') :
    wpList Try.prog ops Q (o :: rest) a w := by
  refine wpList_plain hg fun K' hK' => ?_
  obtain ⟨w', hrun, r1, r2⟩ := run_put h n v
  unfold Oper.wp
  simp [execOp, hop, hm, hx, hv, hrun, Result.andThen]
  exact hK' _ _ (hK w' r1 r2)
theorem wpList_del {w : World} {ops : Array Oper} {rest : List Oper} {o : Oper} {a : Act} {Q : Exit → Act → World → Prop}
    (hg : o.guard = none) (m x : Operand) (hop : o.op = Op.call { callee := Callee.builtin Builtin.delete, args := #[m, x], argTypes := #[26, 3] }) {r : Nat} {ks : List (Int × T3)} {n : Int} (h : FMap w r ks)
    (hm : a.eval m = .map (some r)) (hx : a.eval x = .int .i64 n)
    (hK : ∀ w', FMap w' r (delB ks n) → But r w w' → wpList Try.prog ops Q rest (a.put o.dst (.tuple #[])) w') :
    wpList Try.prog ops Q (o :: rest) a w := by
  refine wpList_plain hg fun K' hK' => ?_
  obtain ⟨w', hrun, r1, r2⟩ := run_del h n o.type
  unfold Oper.wp
  simp [execOp, hop, resolve, invoke, builtin, hm, hx, hrun, Result.andThen]
  exact hK' _ _ (hK w' r1 r2)
end Ext
end Go.Proofs.Ythahemffeagifaa
