/-
  SEVERAL TEXTS IN ONE FILE: CooMap, CooOnceP, LeaRefChk, LeaRefA.
-/
import Derived.Test.YtcpkgcckjphbfaaGreatJ05
import Derived.Maps.OwnOps
import Derived.Test.YtcpkgcckjphbfaaGreatJ07
import Derived.Test.YtcpkgcckjphbfaaGreatJ12
import Derived.Test.YtcpkgcckjphbfaaGreatJ27
import Derived.Laws.StructEq
/-
  A MAP OF ints TO ints IN MEMORY: made, written, asked. (Written by gen_cooonce.py, out of the text on marks.)
-/
namespace Go.Proofs.YtcpkgcckjphbfaaGreat
open Go.ChangeShapes Go.RowKit Go.MapKept Mem
namespace Coo
open Lea (Cells But)
def getF : List (Int × Int) → Int → Int
  | [], _ => 0
  | k :: r, n => if k.1 = n then k.2 else getF r n
def setF : List (Int × Int) → Int → Int → List (Int × Int)
  | [], n, v => [(n, v)]
  | k :: r, n, v => if k.1 = n then (n, v) :: r else k :: setF r n v
theorem get_set (ks : List (Int × Int)) (n v m : Int) : getF (setF ks n v) m = if m = n then v else getF ks m := by
  induction ks with
  | nil =>
    simp only [setF, getF]
    by_cases h : m = n
    · rw [if_pos h, if_pos h.symm]
    · rw [if_neg h, if_neg (Ne.symm h)]
  | cons k r ih =>
    unfold setF
    by_cases h : k.1 = n
    · rw [if_pos h]
      simp only [getF]
      by_cases h2 : m = n
      · simp [h2]
      · simp only [h, if_neg (Ne.symm h2), if_neg h2]
    · rw [if_neg h]
      simp only [getF, ih]
      by_cases h2 : k.1 = m
      · rw [if_pos h2, if_pos h2, if_neg (by omega)]
      · rw [if_neg h2, if_neg h2]
def Ents (es : List MapEntry) (ks : List (Int × Int)) : Prop := es.map (fun x => (x.key, x.val)) = ks.map (fun k => (Value.int .i64 k.1, Value.int .i64 k.2))
def FMap (w : World) (r : Nat) (ks : List (Int × Int)) : Prop := ∃ es clock, w.heap[r]? = some (.map es clock) ∧ Ents es.toList ks
theorem FMap.lt {w : World} {r : Nat} {ks : List (Int × Int)} (h : FMap w r ks) : r < w.heap.size := by obtain ⟨es, c, h1, -⟩ := h; exact (Array.getElem?_eq_some_iff.1 h1).1
theorem FMap.below {w w' : World} {r : Nat} {ks : List (Int × Int)} (h : FMap w r ks) (hb : Below w.heap.size w w') : FMap w' r ks := by
  have hlt := h.lt
  obtain ⟨es, c, h1, h2⟩ := h
  exact ⟨es, c, (hb.block r hlt).trans h1, h2⟩
theorem FMap.but {w w' : World} {r b : Nat} {ks : List (Int × Int)} (h : FMap w r ks) (hb : But b w w') (hn : r ≠ b) : FMap w' r ks := by
  have hlt := h.lt
  obtain ⟨es, c, h1, h2⟩ := h
  exact ⟨es, c, (hb.block hlt hn).trans h1, h2⟩
theorem FMap.made (w : World) : FMap (w.alloc (.map #[] 0)) w.heap.size [] := ⟨#[], 0, heap_alloc_new w _, rfl⟩
/-- A block of cells is no map. -/
theorem map_ne {w : World} {r g : Nat} {ks : List (Int × Int)} {t : TypeId} {cs : Array Value} (h : FMap w r ks) (hc : Cells w g t cs) : r ≠ g := by
  rintro rfl
  obtain ⟨es, c, h1, -⟩ := h
  have h2 : w.heap[r]? = some (.cells cs t) := hc
  rw [h1] at h2
  cases h2
theorem find_ents (n v : Int) : ∀ (l : List MapEntry) (ks : List (Int × Int)) (i : Nat), Ents l ks →
    (∃ j e, Instr.findNow (.int .i64) (.int .i64 n) l i = some (some (i + j, .int .i64 (getF ks n))) ∧ l[j]? = some e ∧ e.key = .int .i64 n ∧ Ents (l.modify j (fun e => { e with key := .int .i64 n, val := .int .i64 v })) (setF ks n v)) ∨ (Instr.findNow (.int .i64) (.int .i64 n) l i = some none ∧ setF ks n v = ks ++ [(n, v)] ∧ getF ks n = 0)
  | [], [], i, _ => .inr ⟨by simp [Instr.findNow], rfl, rfl⟩
  | [], k :: ks, i, h => by simp [Ents] at h
  | e :: l, [], i, h => by simp [Ents] at h
  | e :: l, k :: ks, i, h => by
    simp only [Ents, List.map_cons, List.cons.injEq, Prod.mk.injEq] at h
    obtain ⟨⟨h1, h2⟩, h3⟩ := h
    have ih := find_ents n v l ks (i + 1) h3
    have hs : Instr.sameNow (.int .i64) (.int .i64 n) e.key = some (n == k.1) := by rw [h1]; simp [Instr.sameNow]
    by_cases hk : n = k.1
    · have hs2 : (n == k.1) = true := by simpa using hk
      refine .inl ⟨0, e, ?_, rfl, by rw [h1, hk], ?_⟩
      · simp only [Instr.findNow, hs, hs2, getF, if_pos hk.symm, h2, Nat.add_zero]
      · simp only [setF, if_pos hk.symm, Ents, List.modify_zero_cons, List.map_cons]
        rw [show l.map (fun x => (x.key, x.val)) = _ from h3]
    · have hf : (n == k.1) = false := by simpa using hk
      rcases ih with ⟨j, e', g1, g2, g3, g4⟩ | ⟨g1, g2, g3⟩
      · refine .inl ⟨j + 1, e', ?_, by simpa using g2, g3, ?_⟩
        · simp only [Instr.findNow, hs, hf, getF, if_neg (Ne.symm hk)]
          rw [g1, show i + 1 + j = i + (j + 1) by omega]
        · simp only [setF, if_neg (Ne.symm hk), Ents, List.modify_succ_cons, List.map_cons, h1, h2]
          rw [show (List.modify l j _).map (fun x => (x.key, x.val)) = _ from g4]
      · refine .inr ⟨?_, ?_, ?_⟩
        · simp only [Instr.findNow, hs, hf]; exact g1
        · simp only [setF, if_neg (Ne.symm hk), g2, List.cons_append]
        · simp only [getF, if_neg (Ne.symm hk), g3]
theorem run_put {w : World} {r : Nat} {ks : List (Int × Int)} (h : FMap w r ks) (n v : Int) : ∃ w', (Instr.mapUpdate 34 (.map (some r)) (.int .i64 n) (.int .i64 v)).run Tryz.prog w = .ok () w' ∧ FMap w' r (setF ks n v) ∧ But r w w' := by
  obtain ⟨es, clock, hb, he⟩ := h
  have hkey : IsKey (.int .i64) (.int .i64 n) := rfl
  have hbut : ∀ o, But r w { w with heap := w.heap.setIfInBounds r o } := fun o => ⟨⟨rfl, rfl, rfl, by simp, fun k hk hn => (MapKept.heap_set hb (o' := o)).2 k (fun e => hn (by rw [e]))⟩⟩
  rcases find_ents n v es.toList ks 0 he with ⟨j, e, g1, g2, g3, g4⟩ | ⟨g1, g2, -⟩
  · rw [Nat.zero_add] at g1
    have ge : es[j]? = some e := by simpa using g2
    refine ⟨{ w with heap := w.heap.setIfInBounds r (.map (es.modify j fun e => { e with key := .int .i64 n, val := .int .i64 v }) clock) }, ?_, ⟨_, clock, (MapKept.heap_set hb (o' := _)).1, ?_⟩, hbut _⟩
    · have hst : (Instr.keyThatStays (((es[j]?).map (·.key)).getD (.int .i64 n)) (.int .i64 n)).run Tryz.prog w = .ok (.int .i64 n) w := by
        rw [ge]; simp only [Option.map_some, Option.getD_some, g3]
        exact MapKept.run_keyThatStays hkey
      simp only [Option.map] at hst
      simp [Instr.mapUpdate, run_underlying Tryz.underlying34, MapKept.run_getObj_map (P := Tryz.prog) hb, MapKept.run_checkKey (P := Tryz.prog) (w := w) Tryz.underlying3 hkey, MapKept.run_findKey (P := Tryz.prog) (w := w) Tryz.underlying3 g1, MapKept.run_setObj_map (P := Tryz.prog) _ hb, Result.andThen, ge, g3, MapKept.run_keyThatStays (P := Tryz.prog) (w := w) hkey]
    · rw [Array.toList_modify]; exact g4
  · refine ⟨{ w with heap := w.heap.setIfInBounds r (.map (es.push ⟨.int .i64 n, .int .i64 v, clock⟩) (clock + 1)) }, ?_, ⟨_, clock + 1, (MapKept.heap_set hb (o' := _)).1, ?_⟩, hbut _⟩
    · simp [Instr.mapUpdate, run_underlying Tryz.underlying34, MapKept.run_getObj_map (P := Tryz.prog) hb, MapKept.run_checkKey (P := Tryz.prog) (w := w) Tryz.underlying3 hkey, MapKept.run_findKey (P := Tryz.prog) (w := w) Tryz.underlying3 g1, MapKept.run_setObj_map (P := Tryz.prog) _ hb, Result.andThen]
    · rw [g2]
      unfold Ents at he ⊢
      simp [he]
theorem wpList_put {w : World} {ops : Array Oper} {rest : List Oper} {o : Oper} {a : Act} {Q : Exit → Act → World → Prop}
    (hg : o.guard = none) (m x y : Operand) (hop : o.op = Op.mapUpdate 34 m x y) {r : Nat} {ks : List (Int × Int)} {n v : Int} (h : FMap w r ks)
    (hm : a.eval m = .map (some r)) (hx : a.eval x = .int .i64 n) (hv : a.eval y = .int .i64 v)
    (hK : ∀ w', FMap w' r (setF ks n v) → But r w w' → wpList Tryz.prog ops Q rest (a.put o.dst undef) w') :
    wpList Tryz.prog ops Q (o :: rest) a w := by
  refine wpList_plain hg fun K' hK' => ?_
  obtain ⟨w', hrun, r1, r2⟩ := run_put h n v
  unfold Oper.wp
  simp [execOp, hop, hm, hx, hv, hrun, Result.andThen]
  exact hK' _ _ (hK w' r1 r2)
theorem run_get {w : World} {r : Nat} {ks : List (Int × Int)} (h : FMap w r ks) {n : Int} (hn : getF ks n ≠ 0) : (Instr.lookup 34 (.map (some r)) (.int .i64 n) false).run Tryz.prog w = .ok (.int .i64 (getF ks n)) w := by
  obtain ⟨es, clock, hb, he⟩ := h
  have hkey : IsKey (.int .i64) (.int .i64 n) := rfl
  rcases find_ents n 0 es.toList ks 0 he with ⟨j, e, g1, -⟩ | ⟨-, -, g3⟩
  · simp [Instr.lookup, run_underlying Tryz.underlying34, MapKept.run_getObj_map (P := Tryz.prog) hb, MapKept.run_checkKey (P := Tryz.prog) (w := w) Tryz.underlying3 hkey, MapKept.run_findKey (P := Tryz.prog) (w := w) Tryz.underlying3 g1, Result.andThen]
  · exact absurd g3 hn
end Coo
end Go.Proofs.YtcpkgcckjphbfaaGreat
/-
  PLAIN FACTS of the epochs that are told, and of the fences' epochs. (No program is named here; written by gen_cooonce.py.)
-/
namespace Go.Proofs.YtcpkgcckjphbfaaGreat
namespace Coo
open Lea (Lv Tv)
open Spa (Sp)
def FenL (l : List Lv) (z : Int) (ks : List (Int × Int)) : Prop := ∀ x ∈ l, x.key < z → x.epoch = getF ks x.key
def FenOk (c : Cv) (ks : List (Int × Int)) : Prop := FenL c.t.l c.zones ks
def newF (ks : List (Int × Int)) (e : Ev) (a : An) : List (Int × Int) := bif a.e == 0 && e.d == 3 then setF ks e.zone a.epoch else ks
theorem newF_not {ks : List (Int × Int)} {e : Ev} (a : An) (h : e.d ≠ 3) : newF ks e a = ks := by
  unfold newF
  rw [show (e.d == 3) = false by simpa using h, Bool.and_false]; rfl
theorem fen_grant {c : Cv} (hi : Inv c) {ks : List (Int × Int)} (hf : FenOk c ks) {key host : Int} (hk : 64 ≤ key) : FenOk (grantC c key host).1 ks := by
  unfold grantC
  rcases e : Lea.heldB c.t.l key
  · intro x hx hz
    have h2 := hi.z2
    rcases (Lea.putL_mem (Lea.okT_rises hi.tok) e).1 hx with rfl | h
    · exact absurd (show key < c.zones from hz) (by omega)
    · exact hf x h hz
  · exact hf
theorem fen_do {c : Cv} (hi : Inv c) {ks : List (Int × Int)} (hf : FenOk c ks) (e : Ev) : FenOk (doC c e).1 (newF ks e (doC c e).2) := by
  refine do_cases c e (fun r => FenOk r.1 (newF ks e r.2)) (fun _ => ?_) (fun h1 hh => ?_) (fun h1 _ => ?_) (fun h1 _ => ?_) (fun h1 hh => ?_) (fun h1 _ => ?_) (fun h1 => ?_) (fun h1 _ => ?_) (fun h1 _ => ?_)
  · exact hf
  · rw [newF_not _ (by omega)]
    have := hostB_iff.1 hh
    exact fen_grant hi hf (by omega)
  · rw [newF_not _ (by omega)]
    unfold askC
    rcases zoneB c e.zone
    · exact hf
    rcases memB c e.host
    · exact hf
    rcases awayB c e.zone <;> exact hf
  · unfold ackC
    rcases hg : c.wt.findIdx? (isF e.zone e.epoch) with _ | i
    · exact hf
    · simp only
      rcases e1 : ((c.wt.getD i zF).host == e.host)
      · exact hf
      · obtain ⟨f, hff, f1, f2, f3⟩ := ack_find hg
        have hw := (hi.wait f (List.mem_of_getElem? hff)).2.2.2.2.1
        rw [f1] at hw
        have hn : newF ks e ⟨0, e.epoch, []⟩ = setF ks e.zone e.epoch := by unfold newF; rw [h1]; rfl
        show FenOk (ackTo c e i) (newF ks e ⟨0, e.epoch, []⟩)
        rw [hn]
        intro x hx hz
        rw [get_set]
        rcases (Lea.putL_mem (Lea.okT_rises hi.tok) hw).1 (show x ∈ Lea.putL c.t.l e.zone (ackV c e) from hx) with rfl | h
        · rw [if_pos (show (ackV c e).key = e.zone from rfl)]; rfl
        · rw [if_neg (Lea.held_false.1 hw x h)]; exact hf x h hz
  · rw [newF_not _ (by omega)]
    unfold giveC
    rcases memB c e.host
    · exact hf
    rcases Spa.rangeB c.s e.fr e.to
    · exact hf
    rcases (Spa.partsS c.s e.fr e.to).any (other e.host) <;> exact hf
  · rw [newF_not _ (by omega)]
    unfold electC
    rcases memB c e.host
    · exact hf
    · exact fen_grant hi hf (by omega)
  · rw [newF_not _ (by omega)]
    unfold tickC
    rcases decide (e.now < c.t.now)
    · show FenOk (endsC (setT c (tickT c e.now)) (overL c e.now)) ks
      unfold FenOk
      rw [(endsC_t _ _).1, (endsC_t _ _).2.2]
      exact fun x hx hz => hf x (List.mem_filter.1 hx).1 hz
    · exact hf
  · rw [newF_not _ (by omega)]
    unfold renewC
    rcases Lea.heldB c.t.l e.key
    · exact hf
    rcases hasNot c e
    · intro x hx hz
      obtain ⟨y, hy, rfl⟩ := List.mem_map.1 (show x ∈ List.map _ _ from hx)
      rcases h2 : (y.key == e.key)
      · rw [h2] at hz; exact hf y hy hz
      · rw [h2] at hz; exact hf y hy hz
    · exact hf
  · rw [newF_not _ (by omega)]
    unfold leaveC
    rcases Lea.heldB c.t.l e.key
    · exact hf
    rcases hasNot c e
    · show FenOk (endC (setT c ⟨c.t.last, c.t.now, Lea.butK c.t.l e.key⟩) e.key) ks
      unfold FenOk
      rw [(endC_t _ _).1, (endC_t _ _).2.2]
      exact fun x hx hz => hf x (List.mem_filter.1 hx).1 hz
    · exact hf
/-- A zone's owner: none, or under its fence's epoch. -/
theorem owner_fen {c : Cv} (hi : Inv c) {ks : List (Int × Int)} (hf : FenOk c ks) {z : Int} (hz : 0 ≤ z ∧ z < c.zones) : ownerC c z = (-1, 0) ∨ ((0 ≤ (ownerC c z).1) ∧ (ownerC c z).2 = getF ks z ∧ getF ks z ≠ 0) := by
  unfold ownerC ownL
  rw [zoneB_iff.2 hz]
  show (bif Lea.heldB c.t.l z then _ else _ : Int × Int) = _ ∨ _
  rcases e : Lea.heldB c.t.l z
  · exact .inl rfl
  · have hh : Lea.getL c.t.l z ∈ c.t.l ∧ (Lea.getL c.t.l z).key = z := by
      rw [Lea.find_held] at e
      obtain ⟨x, hx⟩ := Option.isSome_iff_exists.1 e
      have h1 := Lea.find_some hx
      unfold Lea.getL
      rw [hx]
      exact h1
    have h1 := hosts hi hh.1
    have h2 := epochs hi hh.1
    have h3 := hf _ hh.1 (by rw [hh.2]; exact hz.2)
    rw [hh.2] at h3
    exact .inr ⟨h1.1, h3, by omega⟩
theorem span_mem {c : Cv} (hi : Inv c) {s : Sp} (hs : s ∈ c.s) : s.own < 0 ∨ (0 ≤ s.own ∧ memB c s.own = true ∧ s.ep ≤ c.t.last) := by
  have hc := Spa.ok_ch hi.sok
  have hm := hc.mem hs
  rcases hi.own _ _ _ (Spa.who_mem hc hs ⟨Int.le_refl _, hm.2.1⟩) with h | h
  · exact .inl (by omega)
  · have := (memL_iff.1 h.1).1
    exact .inr ⟨this.1, h⟩
theorem wait_owner {c : Cv} (hi : Inv c) {f : Fv} (hf : f ∈ c.wt) : ownerC c f.zone = (-1, 0) := by
  obtain ⟨-, -, -, h4, h5, -⟩ := hi.wait f hf
  unfold ownerC ownL
  rw [h4, h5]; rfl
theorem wait_apart {c : Cv} (hi : Inv c) {i j : Nat} {f g : Fv} (hj : c.wt[j]? = some g) (hf : c.wt[i]? = some f) (hij : j < i) : g.zone ≠ f.zone := by
  obtain ⟨h1, rfl⟩ := List.getElem?_eq_some_iff.1 hj
  obtain ⟨h2, rfl⟩ := List.getElem?_eq_some_iff.1 hf
  exact (List.pairwise_iff_getElem.1 hi.apart j i h1 h2 hij).1
end Coo
end Go.Proofs.YtcpkgcckjphbfaaGreat
/-
  A WALK: the document's Check.
-/
namespace Go.Proofs.YtcpkgcckjphbfaaGreat
open Go.RowKit Mem
namespace Lea

theorem may_not {last now : Int} {x : Lv} : mayB last now x = (!decide (x.key < 0) && (!decide (x.host < 0) && (!decide (8 ≤ x.host) && (!decide (x.epoch < 1) && (!decide (last < x.epoch) && !decide (x.til ≤ now)))))) := by
  rw [Bool.eq_iff_iff, mayB_iff]
  simp only [Bool.and_eq_true, Bool.not_eq_true', decide_eq_false_iff_not]
  omega
/-- What the document's Check has seen of the first k. -/
def seen (last now : Int) (l : List Lv) (k : Nat) : Prop := ∀ i x, i < k → l[i]? = some x → mayB last now x = true ∧ ∀ j y, j < i → l[j]? = some y → y.key < x.key ∧ y.epoch ≠ x.epoch
theorem okT_seen {last now : Int} {l : List Lv} : okT ⟨last, now, l⟩ = true ↔ 0 ≤ last ∧ 0 ≤ now ∧ seen last now l l.length := by
  rw [okT_iff]
  simp only
  constructor
  · rintro ⟨h1, h2, h3, h4, h5⟩
    refine ⟨h1, h2, fun i x hi hx => ⟨h5 x (List.mem_of_getElem? hx), fun j y hj hy => ⟨rises_lt h3 hj hy hx, fun e => ?_⟩⟩⟩
    unfold Differ at h4
    rw [List.nodup_iff_pairwise_ne, List.pairwise_iff_getElem] at h4
    obtain ⟨hi', rfl⟩ := List.getElem?_eq_some_iff.1 hx
    obtain ⟨hj', rfl⟩ := List.getElem?_eq_some_iff.1 hy
    have := h4 j i (by simpa using hj') (by simpa using hi') hj
    simp only [List.getElem_map] at this
    exact this e
  · rintro ⟨h1, h2, h3⟩
    refine ⟨h1, h2, ?_, ?_, fun x hx => ?_⟩
    · unfold Rises
      rw [List.pairwise_iff_getElem]
      intro i j hi hj hij
      exact ((h3 j _ hj (List.getElem?_eq_getElem hj)).2 i _ hij (List.getElem?_eq_getElem hi)).1
    · unfold Differ
      rw [List.nodup_iff_pairwise_ne, List.pairwise_iff_getElem]
      intro i j hi hj hij
      simp only [List.length_map] at hi hj
      simp only [List.getElem_map]
      exact ((h3 j _ hj (List.getElem?_eq_getElem hj)).2 i _ hij (List.getElem?_eq_getElem hi)).2
    · obtain ⟨i, hi⟩ := List.mem_iff_getElem?.1 hx
      exact (h3 i x (List.getElem?_eq_some_iff.1 hi).1 hi).1
theorem ok_false {last now : Int} {l : List Lv} (h : ¬ (0 ≤ last ∧ 0 ≤ now ∧ seen last now l l.length)) : okT ⟨last, now, l⟩ = false := by
  rcases e : okT ⟨last, now, l⟩
  · rfl
  · exact absurd (okT_seen.1 e) h

set_option maxRecDepth 100000 in
set_option maxHeartbeats 6400000 in
theorem refCheck_any {last now : Int} {A : Option Addr} {n c : Nat} {l : List Lv} {w : World} (h : RowL w A n c l) (hn : n ≤ 1000000) :
    Calls Tryz.prog 12 #[tv last now A n c] w fun e w' => e = .returned (.int .i64 (errOf (okT ⟨last, now, l⟩))) ∧ Below w.heap.size w w' := by
  have HR := Lib.hid h
  have hbig := h.big
  have hcap := h.cap
  have hlen := Lib.hid h.len
  have L1 : Hid (Below w.heap.size w (w.alloc (.cells #[.int .i64 last, .int .i64 now, .slice A n c] 27))) := (Below.refl w.heap.size w).alloc (Nat.le_refl _) _
  have B1 : Hid (TBox (w.alloc (.cells #[.int .i64 last, .int .i64 now, .slice A n c] 27)) w.heap.size last now A n c) := Cells.new w _ _
  have HN := Lib.hid (fun hh => ok_false (last := last) (now := now) (l := l) hh)
  have HY := Lib.hid (okT_seen (last := last) (now := now) (l := l)).2
  clear h
  generalize okT ⟨last, now, l⟩ = ok at *
  rcases e1 : decide (last < 0)
  · rcases e2 : decide (now < 0)
    · have E1 := Lib.hid (of_decide_eq_false e1)
      have E2 := Lib.hid (of_decide_eq_false e2)
      go_enter Tryz.func12, Tryz.ntmps12
      go_upto_region 1 with fail
      generalize w.alloc (.cells #[.int .i64 last, .int .i64 now, .slice A n c] 27) = w1 at *
      obtain ⟨m0, m1, m2⟩ := TBox.cells B1.out
      go_wp2_with fail
      clear m0 m1 m2 e1 e2
      go_loopw [3, 4, 18] (fun _ _ i wr => ∃ k : Nat, i = .int .i64 k ∧ k ≤ n ∧ Hid (Below w1.heap.size w1 wr ∧ seen last now l k)) (fun _ _ i _ => n - (intOf i).toNat)
      case atStart => exact ⟨0, rfl, by omega, Below.refl _ _, fun i x hi => by omega⟩
      case round =>
        obtain ⟨k, rfl, hk, hH⟩ := hrel
        by_cases hlt : k < n
        · obtain ⟨x, hx⟩ := HR.out.get hlt
          obtain ⟨b, o, hA, hb, hcells⟩ := RowS.lease HR.out hx
          subst hA
          have HCE := Lib.hid hcells
          have HBB := Lib.hid hb
          have HX := Lib.hid hx
          have hk0 : (0 : Int) ≤ (k : Int) := by omega
          have hkn : (k : Int) < (n : Int) := by omega
          have LW := Lib.hid (L1.out.trans (hH.out.1.mono L1.out.size))
          obtain ⟨c0, c1, c2, c3⟩ := hcells wr (LW.out.block b hb)
          clear hcells hb hx
          have A1 : Hid (Below w1.heap.size w1 (wr.alloc (.cells #[.int .i64 x.key, .int .i64 x.host, .int .i64 x.epoch, .int .i64 x.til] 65))) := hH.out.1.alloc hH.out.1.size _
          have X1 : Hid (LBox (wr.alloc (.cells #[.int .i64 x.key, .int .i64 x.host, .int .i64 x.epoch, .int .i64 x.til] 65)) wr.heap.size x) := Cells.new _ _ _
          go_upto_region 6 with fail
          clear c0 c1 c2 c3
          have L2 := Lib.hid (L1.out.trans (A1.out.mono L1.out.size))
          have B2 := Lib.hid (Cells.below B1.out A1.out)
          generalize wr.alloc (.cells #[.int .i64 x.key, .int .i64 x.host, .int .i64 x.epoch, .int .i64 x.til] 65) = w2 at *
          obtain ⟨m0, m1, m2⟩ := TBox.cells B2.out
          obtain ⟨n0, n1, n2, n3⟩ := LBox.cells X1.out
          have BAD : Hid (mayB last now x = false → ok = false) := by
            show _ → _
            intro hf
            exact HN.out (fun h => by have := (h.2.2 k x (by have := hlen.out; omega) HX.out).1; rw [hf] at this; cases this)
          have HMN := Lib.hid (may_not (last := last) (now := now) (x := x))
          rcases f1 : decide (x.key < 0)
          · skip
            rcases f2 : decide (x.host < 0)
            · skip
              rcases f3 : decide (8 ≤ x.host)
              · skip
                rcases f4 : decide (x.epoch < 1)
                · skip
                  rcases f5 : decide (last < x.epoch)
                  · skip
                    rcases f6 : decide (x.til ≤ now)
                    · skip
                      have HMY : Hid (mayB last now x = true) := by show _ = _; rw [HMN.out, f1, f2, f3, f4, f5, f6]; rfl
                      have hsl : ∀ w, (Instr.slice 25 (.slice (some ⟨b, o, none⟩) n c) none (some (.int .i64 (k : Int))) none).run Tryz.prog w = .ok (.slice (some ⟨b, o, none⟩) k c) w := fun w => run_headL _ n c k (by omega) w
                      go_upto_region 8 with fail
                      clear f1 f2 f3 f4 f5 f6
                      go_wp2_with fail
                      clear m0 m1 m2 n0 n1 n2 n3 hsl
                      go_loopw [6, 60] (fun _ i wq => ∃ q : Nat, i = .int .i64 q ∧ q ≤ k ∧ Hid (Below w2.heap.size w2 wq ∧ ∀ j y, j < q → l[j]? = some y → y.key < x.key ∧ y.epoch ≠ x.epoch)) (fun _ i _ => k - (intOf i).toNat)
                      case atStart => exact ⟨0, rfl, by omega, Below.refl _ _, fun j y hj => by omega⟩
                      case round =>
                        obtain ⟨q, rfl, hq, hQ⟩ := hrel
                        by_cases hqk : q < k
                        · obtain ⟨y, hy⟩ := HR.out.get (show q < n by omega)
                          obtain ⟨b', o', hA, hb', hcy⟩ := RowS.lease HR.out hy
                          injection hA with hA
                          injection hA with g1 g2
                          subst g1 g2
                          have hq0 : (0 : Int) ≤ (q : Int) := by omega
                          have hqn : (q : Int) < (k : Int) := by omega
                          have HYY := Lib.hid hy
                          obtain ⟨d0, d1, d2, d3⟩ := hcy wr ((L2.out.trans (hQ.out.1.mono L2.out.size)).block b HBB.out)
                          clear hy hcy hb'
                          have A3 : Hid (Below w2.heap.size w2 (wr.alloc (.cells #[.int .i64 y.key, .int .i64 y.host, .int .i64 y.epoch, .int .i64 y.til] 65))) := hQ.out.1.alloc hQ.out.1.size _
                          have Y3 : Hid (LBox (wr.alloc (.cells #[.int .i64 y.key, .int .i64 y.host, .int .i64 y.epoch, .int .i64 y.til] 65)) wr.heap.size y) := Cells.new _ _ _
                          go_upto_region 11 with fail
                          clear d0 d1 d2 d3
                          have X3 := Lib.hid (Cells.below X1.out A3.out)
                          have BAD2 : Hid (¬ (y.key < x.key ∧ y.epoch ≠ x.epoch) → ok = false) := by
                            show _ → _
                            intro hf
                            exact HN.out (fun h => hf ((h.2.2 k x (by have := hlen.out; omega) HX.out).2 q y hqk HYY.out))
                          generalize wr.alloc (.cells #[.int .i64 y.key, .int .i64 y.host, .int .i64 y.epoch, .int .i64 y.til] 65) = w3 at *
                          obtain ⟨n0, n1, n2, n3⟩ := LBox.cells X3.out
                          obtain ⟨p0, p1, p2, p3⟩ := LBox.cells Y3.out
                          rcases g1 : decide (x.key ≤ y.key)
                          · rcases g2 : (y.epoch == x.epoch)
                            · go_wp2_with fail
                              go_roundw
                              case rel =>
                                refine ⟨q + 1, by go_num, by omega, A3.out, fun j z hj hz => ?_⟩
                                by_cases h1 : j = q
                                · subst h1
                                  have := HYY.out.symm.trans hz
                                  injection this with this; subst this
                                  exact ⟨by have := of_decide_eq_false g1; omega, by simpa using g2⟩
                                · exact hQ.out.2 j z (by omega) hz
                              case measure => simp [intOf]; omega
                            · go_wp2_with fail
                              go_ret
                              exact ⟨by rw [BAD2.out (fun h => h.2 (by simpa using g2))]; rfl, L2.out.trans (A3.out.mono L2.out.size)⟩
                          · go_wp2_with fail
                            go_ret
                            exact ⟨by rw [BAD2.out (fun h => by have := of_decide_eq_true g1; omega)]; rfl, L2.out.trans (A3.out.mono L2.out.size)⟩
                        · have hqk2 : q = k := by omega
                          subst hqk2
                          go_wp2_with fail
                          go_roundw
                          case rel =>
                            refine ⟨q + 1, by go_num, by omega, A1.out.trans (hQ.out.1.mono A1.out.size), fun i z hi hz => ?_⟩
                            by_cases h1 : i = q
                            · subst h1
                              have := HX.out.symm.trans hz
                              injection this with this; subst this
                              exact ⟨HMY.out, hQ.out.2⟩
                            · exact hH.out.2 i z (by omega) hz
                          case measure => simp [intOf]; omega
                    · go_wp2_with fail
                      go_ret
                      exact ⟨by rw [BAD.out (by rw [HMN.out, f1, f2, f3, f4, f5, f6]; simp)]; rfl, L2.out⟩
                  · go_wp2_with fail
                    go_ret
                    exact ⟨by rw [BAD.out (by rw [HMN.out, f1, f2, f3, f4, f5]; simp)]; rfl, L2.out⟩
                · go_wp2_with fail
                  go_ret
                  exact ⟨by rw [BAD.out (by rw [HMN.out, f1, f2, f3, f4]; simp)]; rfl, L2.out⟩
              · go_wp2_with fail
                go_ret
                exact ⟨by rw [BAD.out (by rw [HMN.out, f1, f2, f3]; simp)]; rfl, L2.out⟩
            · go_wp2_with fail
              go_ret
              exact ⟨by rw [BAD.out (by rw [HMN.out, f1, f2]; simp)]; rfl, L2.out⟩
          · go_wp2_with fail
            go_ret
            exact ⟨by rw [BAD.out (by rw [HMN.out, f1]; simp)]; rfl, L2.out⟩
        · have hkn : k = n := by omega
          subst hkn
          have HOK := Lib.hid (HY.out ⟨by have := E1.out; omega, by have := E2.out; omega, by rw [hlen.out]; exact hH.out.2⟩)
          go_wp2_with fail
          go_ret
          exact ⟨by rw [HOK.out]; rfl, L1.out.trans (hH.out.1.mono L1.out.size)⟩
    · go_enter Tryz.func12, Tryz.ntmps12
      go_upto_region 1 with fail
      generalize w.alloc (.cells #[.int .i64 last, .int .i64 now, .slice A n c] 27) = w1 at *
      obtain ⟨m0, m1, m2⟩ := TBox.cells B1.out
      go_wp2_with fail
      go_ret
      exact ⟨by rw [HN.out (fun h => by have := of_decide_eq_true e2; omega)]; rfl, L1.out⟩
  · go_enter Tryz.func12, Tryz.ntmps12
    go_upto_region 1 with fail
    generalize w.alloc (.cells #[.int .i64 last, .int .i64 now, .slice A n c] 27) = w1 at *
    obtain ⟨m0, m1, m2⟩ := TBox.cells B1.out
    go_wp2_with fail
    go_ret
    exact ⟨by rw [HN.out (fun h => by have := of_decide_eq_true e1; omega)]; rfl, L1.out⟩
end Lea
end Go.Proofs.YtcpkgcckjphbfaaGreat
/-
  WALKS: what the document's own functions tell of a table: Holder, Of, Next; which leases, ints and tables are the same; copies; few. (Written by gen_leareft.py.)
-/
namespace Go.Proofs.YtcpkgcckjphbfaaGreat
open Go.RowKit Mem
namespace Lea

theorem lease_guard : Tryz.prog.eqGuardType Tryz.prog.depth 65 = false := by kernel_rfl
theorem lease_equal (x : Lv) (w : World) : (Op.equalIn 10000 65 (lv x) (lv x)).run Tryz.prog w = .ok true w := by
  have u3 := Tryz.underlying3
  have a3 := Tryz.isAgg3
  have z3 := Tryz.sizeOf3
  have hS : Tryz.prog.underlying 65 = some (.struct (Tryz.prog.fieldsOf 65)) := by kernel_rfl
  have hp : Tryz.prog.stoodInHeld 65 = false := by kernel_rfl
  rw [show (10000 : Nat) = 9999 + 1 from rfl, run_equalIn_agg w 9999 65 _ _ hS hp]
  simp only [Program.fieldsOf, Tryz.underlying65]
  go_simp
  try simp
theorem lease_eql (x : Lv) (w : World) : (binOp .eql 65 (lv x) (lv x)).run Tryz.prog w = .ok (.bool true) w := by
  rw [run_eql_struct, lease_equal]; rfl
theorem lease_neq (x : Lv) (w : World) : (binOp .neq 65 (lv x) (lv x)).run Tryz.prog w = .ok (.bool false) w := by
  rw [run_neq_struct, lease_equal]; rfl

theorem find_first {l : List Lv} {key : Int} {k : Nat} {x : Lv} (h : ∀ j y, j < k → l[j]? = some y → y.key ≠ key) (hx : l[k]? = some x) (hk : x.key = key) : findL l key = some x := by
  induction l generalizing k with
  | nil => simp at hx
  | cons a l ih =>
    unfold findL
    rcases k with _ | k
    · simp at hx; subst hx
      rw [List.find?_cons_of_pos (by simpa using hk)]
    · rw [List.find?_cons_of_neg (by simpa using h 0 a (by omega) rfl)]
      exact ih (k := k) (fun j y hj hy => h (j + 1) y (by omega) (by simpa using hy)) (by simpa using hx)
theorem held_none {l : List Lv} {key : Int} {n : Nat} (hl : l.length = n) (h : ∀ j y, j < n → l[j]? = some y → y.key ≠ key) : heldB l key = false := by
  rw [held_false]
  intro x hx
  obtain ⟨i, hi⟩ := List.mem_iff_getElem?.1 hx
  exact h i x (by have := (List.getElem?_eq_some_iff.1 hi).1; omega) hi

set_option maxRecDepth 100000 in
set_option maxHeartbeats 6400000 in
theorem refHolder_any {last now : Int} {A : Option Addr} {n c : Nat} {l : List Lv} {w : World} (key : Int) (h : RowL w A n c l) (hn : n ≤ 1000000) :
    Calls Tryz.prog 19 #[tv last now A n c, .int .i64 key] w fun e w' => e = .returned (.tuple #[lv (holdP ⟨last, now, l⟩ key).1, .bool (holdP ⟨last, now, l⟩ key).2]) ∧ Below w.heap.size w w' := by
  have HR := Lib.hid h
  have hbig := h.big
  have hlen := Lib.hid h.len
  have HC := fun w (h : RowL w A n c l) => Lib.hid (refCheck_any (last := last) (now := now) h hn)
  unfold errOf at HC
  have L1 : Hid (Below w.heap.size w ((w.alloc (.cells #[.int .i64 last, .int .i64 now, .slice A n c] 27)).alloc (.cells #[.int .i64 0, .int .i64 0, .int .i64 0, .int .i64 0] 65))) := ((Below.refl w.heap.size w).alloc (Nat.le_refl _) _).alloc (by simp) _
  have B1 : Hid (TBox ((w.alloc (.cells #[.int .i64 last, .int .i64 now, .slice A n c] 27)).alloc (.cells #[.int .i64 0, .int .i64 0, .int .i64 0, .int .i64 0] 65)) w.heap.size last now A n c) := heap_alloc2_old w _ _
  have N1 : Hid (LBox ((w.alloc (.cells #[.int .i64 last, .int .i64 now, .slice A n c] 27)).alloc (.cells #[.int .i64 0, .int .i64 0, .int .i64 0, .int .i64 0] 65)) (w.heap.size + 1) zL) := heap_alloc2_new w _ _
  clear h
  unfold holdP
  simp only
  have HN := Lib.hid (fun h => held_none (key := key) hlen.out h)
  have HY := fun k x => Lib.hid (fun h1 h2 h3 => find_first (l := l) (key := key) (k := k) (x := x) h1 h2 h3)
  rcases hok : okT ⟨last, now, l⟩
  · rw [hok] at HC
    simp only [cond_false] at HC
    go_enter Tryz.func19, Tryz.ntmps19
    go_upto_region 1 with fail
    generalize (w.alloc (.cells #[.int .i64 last, .int .i64 now, .slice A n c] 27)).alloc (.cells #[.int .i64 0, .int .i64 0, .int .i64 0, .int .i64 0] 65) = w1 at *
    obtain ⟨m0, m1, m2⟩ := TBox.cells B1.out
    go_wp2_with fail
    refine (HC w1 (HR.out.below L1.out)).out.mono ?_
    rintro e w2 ⟨rfl, hb⟩
    have L2 := Lib.hid (L1.out.trans (hb.mono L1.out.size))
    have B2 := Lib.hid (Cells.below B1.out hb)
    have N2 := Lib.hid (Cells.below N1.out hb)
    clear hb m0 m1 m2
    obtain ⟨z0, z1, z2, z3⟩ := LBox.cells (x := zL) N2.out
    obtain ⟨f0, f1, f2, f3⟩ := LBox.frozen (x := zL) N2.out
    go_wp2_with fail
    refine bodyPost_ret_by (results_c1 rfl _ _ (w.heap.size + 1) _ _ _ _ rfl (Cells.set4 N2.out (.int .i64 0) (.int .i64 0) (.int .i64 0) (.int .i64 0)) Tryz.underlying65 rfl (by kernel_rfl)) rfl ?_
    exact ⟨rfl, below4 L2.out (by omega) _ _ _ _⟩
  · rw [hok] at HC
    simp only [cond_true] at HC
    go_enter Tryz.func19, Tryz.ntmps19
    go_upto_region 1 with fail
    generalize (w.alloc (.cells #[.int .i64 last, .int .i64 now, .slice A n c] 27)).alloc (.cells #[.int .i64 0, .int .i64 0, .int .i64 0, .int .i64 0] 65) = w1 at *
    obtain ⟨m0, m1, m2⟩ := TBox.cells B1.out
    go_wp2_with fail
    refine (HC w1 (HR.out.below L1.out)).out.mono ?_
    rintro e w2 ⟨rfl, hb⟩
    have L2 := Lib.hid (L1.out.trans (hb.mono L1.out.size))
    have B2 := Lib.hid (Cells.below B1.out hb)
    have N2 := Lib.hid (Cells.below N1.out hb)
    clear hb m0 m1 m2
    obtain ⟨m0, m1, m2⟩ := TBox.cells B2.out
    go_wp2_with fail
    clear m0 m1 m2 B1 N1 L1 HC
    go_loopw [7, 15] (fun _ i wr => ∃ k : Nat, i = .int .i64 k ∧ k ≤ n ∧ Hid (Below w2.heap.size w2 wr ∧ ∀ j y, j < k → l[j]? = some y → y.key ≠ key)) (fun _ i _ => n - (intOf i).toNat)
    case atStart => exact ⟨0, rfl, by omega, Below.refl _ _, fun j y hj => by omega⟩
    case round =>
      obtain ⟨k, rfl, hk, hH⟩ := hrel
      by_cases hlt : k < n
      · obtain ⟨x, hx⟩ := HR.out.get hlt
        obtain ⟨b, o, hA, c0, c1, c2, c3⟩ := RowS.lease_at (HR.out.below (L2.out.trans (hH.out.1.mono L2.out.size))) hx
        subst hA
        have HX := Lib.hid hx
        have hk0 : (0 : Int) ≤ (k : Int) := by omega
        have hkn : (k : Int) < (n : Int) := by omega
        clear hx
        have A1 : Hid (Below w2.heap.size w2 (wr.alloc (.cells #[.int .i64 x.key, .int .i64 x.host, .int .i64 x.epoch, .int .i64 x.til] 65))) := hH.out.1.alloc hH.out.1.size _
        have X1 : Hid (LBox (wr.alloc (.cells #[.int .i64 x.key, .int .i64 x.host, .int .i64 x.epoch, .int .i64 x.til] 65)) wr.heap.size x) := Cells.new _ _ _
        go_upto_region 6 with fail
        clear c0 c1 c2 c3
        have N3 := Lib.hid (Cells.below N2.out A1.out)
        generalize wr.alloc (.cells #[.int .i64 x.key, .int .i64 x.host, .int .i64 x.epoch, .int .i64 x.til] 65) = w3 at *
        obtain ⟨n0, n1, n2, n3⟩ := LBox.cells X1.out
        rcases e : (x.key == key)
        · have HE : Hid (¬ x.key = key) := by show ¬ _; simpa using e
          go_wp2_with fail
          go_roundw
          case rel =>
            refine ⟨k + 1, by go_num, by omega, A1.out, fun j y hj hy => ?_⟩
            by_cases h1 : j = k
            · subst h1
              have := HX.out.symm.trans hy
              injection this with this; subst this
              exact HE.out
            · exact hH.out.2 j y (by omega) hy
          case measure => simp [intOf]; omega
        · have hkk : x.key = key := by simpa using e
          have HF := Lib.hid ((HY k x).out hH.out.2 HX.out hkk)
          have HHB : Hid (heldB l key = true) := by show _ = _; rw [find_held, HF.out]; rfl
          have HG : Hid (getL l key = x) := by show _ = _; unfold getL; rw [HF.out]; rfl
          clear hkk
          obtain ⟨z0, z1, z2, z3⟩ := LBox.cells (x := zL) N3.out
          obtain ⟨f0, f1, f2, f3⟩ := LBox.frozen (x := zL) N3.out
          go_wp2_with fail
          refine bodyPost_ret_by (results_c1 rfl _ _ (w.heap.size + 1) _ _ _ _ rfl (Cells.set4 N3.out (.int .i64 x.key) (.int .i64 x.host) (.int .i64 x.epoch) (.int .i64 x.til)) Tryz.underlying65 rfl (by kernel_rfl)) rfl ?_
          exact ⟨by rw [HHB.out, HG.out]; rfl, below4 (L2.out.trans (A1.out.mono L2.out.size)) (by omega) _ _ _ _⟩
      · have hkn : k = n := by omega
        subst hkn
        have HHB := Lib.hid (HN.out hH.out.2)
        have N3 := Lib.hid (Cells.below N2.out hH.out.1)
        obtain ⟨z0, z1, z2, z3⟩ := LBox.cells (x := zL) N3.out
        obtain ⟨f0, f1, f2, f3⟩ := LBox.frozen (x := zL) N3.out
        go_wp2_with fail
        refine bodyPost_ret_by (results_c1 rfl _ _ (w.heap.size + 1) _ _ _ _ rfl (Cells.set4 N3.out (.int .i64 0) (.int .i64 0) (.int .i64 0) (.int .i64 0)) Tryz.underlying65 rfl (by kernel_rfl)) rfl ?_
        exact ⟨by rw [HHB.out]; rfl, below4 (L2.out.trans (hH.out.1.mono L2.out.size)) (by omega) _ _ _ _⟩


end Lea
end Go.Proofs.YtcpkgcckjphbfaaGreat
