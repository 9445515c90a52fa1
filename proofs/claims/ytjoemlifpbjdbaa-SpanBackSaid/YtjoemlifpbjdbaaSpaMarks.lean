/-
  A SET OF ints IN MEMORY (a map to true): made, marked, asked, counted. An array of three ints as an argument's element.
-/
import Derived.Test.YtjoemlifpbjdbaaSpaMem
import Derived.Test.YtjoemlifpbjdbaaSpaBackP
import Derived.Maps.OwnOps
import Derived.Laws.IdiomArrays
namespace Go.Proofs.Ytjoemlifpbjdbaa
open Go.ChangeShapes Go.RowKit Go.MapKept Mem
namespace Spa

def Ents (es : List MapEntry) (ks : List Int) : Prop := es.map (fun x => (x.key, x.val)) = ks.map (fun k => (Value.int .i64 k, Value.bool true))
def Marks (w : World) (r : Nat) (ks : List Int) : Prop := ∃ es clock, w.heap[r]? = some (.map es clock) ∧ Ents es.toList ks
theorem Marks.lt {w : World} {r : Nat} {ks : List Int} (h : Marks w r ks) : r < w.heap.size := by obtain ⟨es, c, h1, -⟩ := h; exact (Array.getElem?_eq_some_iff.1 h1).1
theorem Marks.below {w w' : World} {r : Nat} {ks : List Int} (h : Marks w r ks) (hb : Below w.heap.size w w') : Marks w' r ks := by
  have hlt := h.lt
  obtain ⟨es, c, h1, h2⟩ := h
  exact ⟨es, c, (hb.block r hlt).trans h1, h2⟩
theorem Marks.made (w : World) : Marks (w.alloc (.map #[] 0)) w.heap.size [] := ⟨#[], 0, heap_alloc_new w _, rfl⟩
theorem find_marks (n : Int) : ∀ (l : List MapEntry) (ks : List Int) (i : Nat), Ents l ks →
    (n ∈ ks → ∃ j e, Instr.findNow (.int .i64) (.int .i64 n) l i = some (some (i + j, .bool true)) ∧ l[j]? = some e ∧ e.key = .int .i64 n ∧ e.val = .bool true) ∧ (n ∉ ks → Instr.findNow (.int .i64) (.int .i64 n) l i = some none)
  | [], [], i, _ => ⟨by simp, by simp [Instr.findNow]⟩
  | [], k :: ks, i, h => by simp [Ents] at h
  | e :: l, [], i, h => by simp [Ents] at h
  | e :: l, k :: ks, i, h => by
    simp only [Ents, List.map_cons, List.cons.injEq, Prod.mk.injEq] at h
    obtain ⟨⟨h1, h2⟩, h3⟩ := h
    have ih := find_marks n l ks (i + 1) h3
    have hs : Instr.sameNow (.int .i64) (.int .i64 n) e.key = some (n == k) := by rw [h1]; simp [Instr.sameNow]
    by_cases hk : n = k
    · subst hk
      refine ⟨fun _ => ⟨0, e, ?_, rfl, h1, h2⟩, fun hn => absurd (by simp) hn⟩
      simp [Instr.findNow, hs, h2]
    · have hf : (n == k) = false := by simpa using hk
      constructor
      · intro hm
        obtain ⟨j, e', g1, g2, g3, g4⟩ := ih.1 (by simpa [hk] using hm)
        refine ⟨j + 1, e', ?_, by simpa using g2, g3, g4⟩
        simp only [Instr.findNow, hs, hf]
        rw [g1, show i + 1 + j = i + (j + 1) by omega]
      · intro hm
        simp only [Instr.findNow, hs, hf]
        exact ih.2 (by simp at hm; exact hm.2)
theorem run_mark {w : World} {r : Nat} {ks : List Int} (h : Marks w r ks) (n : Int) : ∃ w', (Instr.mapUpdate 46 (.map (some r)) (.int .i64 n) (.bool true)).run Try.prog w = .ok () w' ∧ Marks w' r (mark ks n) ∧ But r w w' := by
  obtain ⟨es, clock, hb, he⟩ := h
  have hkey : IsKey (.int .i64) (.int .i64 n) := rfl
  have hf := find_marks n es.toList ks 0 he
  have hbut : ∀ o, But r w { w with heap := w.heap.setIfInBounds r o } := fun o => ⟨⟨rfl, rfl, rfl, by simp, fun k hk hn => (MapKept.heap_set hb (o' := o)).2 k (fun e => hn (by rw [e]))⟩⟩
  by_cases hm : n ∈ ks
  · obtain ⟨j, e, g1, g2, g3, g4⟩ := hf.1 hm
    rw [Nat.zero_add] at g1
    have ge : es[j]? = some e := by simpa using g2
    refine ⟨{ w with heap := w.heap.setIfInBounds r (.map (es.modify j fun e => { e with key := .int .i64 n, val := .bool true }) clock) }, ?_, ⟨_, clock, (MapKept.heap_set hb (o' := _)).1, ?_⟩, hbut _⟩
    · have hst : (Instr.keyThatStays (((es[j]?).map (·.key)).getD (.int .i64 n)) (.int .i64 n)).run Try.prog w = .ok (.int .i64 n) w := by
        rw [ge]; simp only [Option.map_some, Option.getD_some, g3]
        exact MapKept.run_keyThatStays hkey
      simp only [Option.map] at hst
      simp [Instr.mapUpdate, run_underlying Try.underlying46, MapKept.run_getObj_map (P := Try.prog) hb, MapKept.run_checkKey (P := Try.prog) (w := w) Try.underlying3 hkey, MapKept.run_findKey (P := Try.prog) (w := w) Try.underlying3 g1, MapKept.run_setObj_map (P := Try.prog) _ hb, Result.andThen, ge, g3, MapKept.run_keyThatStays (P := Try.prog) (w := w) hkey]
    · unfold mark
      rw [if_pos hm]
      unfold Ents at he ⊢
      rw [← he]
      apply List.ext_getElem?
      intro i
      rw [List.getElem?_map, List.getElem?_map, Array.toList_modify, List.getElem?_modify]
      by_cases hij : j = i
      · subst hij
        rw [g2]; simp [g3, g4]
      · rcases hx : es.toList[i]? with _ | x
        · simp
        · simp [hij]
  · have g1 := hf.2 hm
    refine ⟨{ w with heap := w.heap.setIfInBounds r (.map (es.push ⟨.int .i64 n, .bool true, clock⟩) (clock + 1)) }, ?_, ⟨_, clock + 1, (MapKept.heap_set hb (o' := _)).1, ?_⟩, hbut _⟩
    · simp [Instr.mapUpdate, run_underlying Try.underlying46, MapKept.run_getObj_map (P := Try.prog) hb, MapKept.run_checkKey (P := Try.prog) (w := w) Try.underlying3 hkey, MapKept.run_findKey (P := Try.prog) (w := w) Try.underlying3 g1, MapKept.run_setObj_map (P := Try.prog) _ hb, Result.andThen]
    · unfold mark
      rw [if_neg hm]
      unfold Ents at he ⊢
      simp [he]
theorem wpList_mark {w : World} {ops : Array Oper} {rest : List Oper} {o : Oper} {a : Act} {Q : Exit → Act → World → Prop}
    (hg : o.guard = none) (m x v : Operand) (hop : o.op = Op.mapUpdate 46 m x v) {r : Nat} {ks : List Int} {n : Int} (h : Marks w r ks)
    (hm : a.eval m = .map (some r)) (hx : a.eval x = .int .i64 n) (hv : a.eval v = .bool true)
    (hK : ∀ w', Marks w' r (mark ks n) → But r w w' → wpList Try.prog ops Q rest (a.put o.dst undef) w') :
    wpList Try.prog ops Q (o :: rest) a w := by
  refine wpList_plain hg fun K' hK' => ?_
  obtain ⟨w', hrun, r1, r2⟩ := run_mark h n
  unfold Oper.wp
  simp [execOp, hop, hm, hx, hv, hrun, Result.andThen]
  exact hK' _ _ (hK w' r1 r2)
theorem run_asked {w : World} {r : Nat} {ks : List Int} (h : Marks w r ks) {n : Int} (hn : n ∈ ks) : (Instr.lookup 46 (.map (some r)) (.int .i64 n) false).run Try.prog w = .ok (.bool true) w := by
  obtain ⟨es, clock, hb, he⟩ := h
  have hkey : IsKey (.int .i64) (.int .i64 n) := rfl
  obtain ⟨j, e, g1, -⟩ := (find_marks n es.toList ks 0 he).1 hn
  simp [Instr.lookup, run_underlying Try.underlying46, MapKept.run_getObj_map (P := Try.prog) hb, MapKept.run_checkKey (P := Try.prog) (w := w) Try.underlying3 hkey, MapKept.run_findKey (P := Try.prog) (w := w) Try.underlying3 g1, Result.andThen]
theorem run_counted {w : World} {r : Nat} {ks : List Int} (h : Marks w r ks) (ty : TypeId) : (Builtin.len_ #[46] ty #[.map (some r)]).run Try.prog w = .ok (.int .i64 (ks.length : Int)) w := by
  obtain ⟨es, clock, hb, he⟩ := h
  have : es.size = ks.length := by
    have := congrArg List.length he
    simpa using this
  simp [Builtin.len_, run_underlying Try.underlying46, MapKept.run_getObj_map (P := Try.prog) hb, goInt, Result.andThen, this]

/-! ### Three ints -/
structure Tri where
  x : Int
  y : Int
  z : Int
def cellsT (t : Tri) : List Value := [.int .i64 t.x, .int .i64 t.y, .int .i64 t.z]
theorem RowS.tri_at {w : World} {A : Option Addr} {n c : Nat} {l : List Tri} (h : RowS cellsT 3 w A n c l) {i : Nat} {t : Tri} (hx : l[i]? = some t) :
    ∃ b o, A = some ⟨b, o, none⟩ ∧ w.cell? ⟨b, o + i * 3, none⟩ = some (.int .i64 t.x) ∧ w.cell? ⟨b, o + i * 3 + 1, none⟩ = some (.int .i64 t.y) ∧ w.cell? ⟨b, o + i * 3 + 2, none⟩ = some (.int .i64 t.z) := by
  obtain ⟨b, o, e, -, hc⟩ := h.elem hx
  exact ⟨b, o, e, hc w rfl 0 _ rfl, hc w rfl 1 _ rfl, hc w rfl 2 _ rfl⟩
end Spa
namespace Args
open Spa
variable {H : Type} {enc : TypeId × Value → H} {W : World}
set_option maxRecDepth 100000 in
theorem raw_tri {fuel : Nat} {cs : List Value} {x : DataW H × List MemPlace} (hf : DataW.trod enc Try.prog W 0 (fun _ => true) true fuel 47 cs = some x) (hl : cs.length = 3) :
    ∃ v : Tri, cs = cellsT v ∧ True := by
  match cs, hl with
  | [c0, c1, c2], _ =>
    obtain ⟨y0, y1, y2, n, -, g0, g1, g2⟩ := trod_array3 Try.underlying47 (by kernel_rfl) hf
    obtain ⟨z0, h0, -, w0⟩ := DataW.trod_int Try.underlying3 g0
    obtain ⟨z1, h1, -, w1⟩ := DataW.trod_int Try.underlying3 g1
    obtain ⟨z2, h2, -, w2⟩ := DataW.trod_int Try.underlying3 g2
    simp only [List.cons.injEq, and_true] at h0 h1 h2
    subst h0 h1 h2
    exact ⟨⟨z0, z1, z2⟩, rfl, trivial⟩
set_option maxRecDepth 100000 in
theorem open_tris {v : Value} {d : DataW H} {p : List MemPlace} {base : Nat} (hok : Value.okWide Try.prog W .any base 45 v) (h : DataW.Trod enc Try.prog W 0 (fun _ => true) true 45 v d p)
    (hs : ∀ q ∈ d.weights Try.prog 45, q ≤ reachBytes) : ∃ A n c xs, v = .slice A n c ∧ RowS cellsT 3 W A n c xs := by
  obtain ⟨A, n, c, xs, h1, h2, -⟩ := open_rowS (cells := cellsT) (k := 3) (bytes := 24) (p := fun _ => True) Try.underlying45 (by kernel_rfl) (by kernel_rfl) (by omega) (by omega) (fun fuel cs x hf hl _ => raw_tri hf hl) hok h hs
  exact ⟨A, n, c, xs, h1, h2⟩
end Args
end Go.Proofs.Ytjoemlifpbjdbaa
