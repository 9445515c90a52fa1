/-
  WALKS: the map of acts (acts), and what is looked up there.
-/
import Derived.Test.YtbmblgjilmgkeaaZnsMem
import Derived.Maps.OwnOps
namespace Go.Proofs.Ytbmblgjilmgkeaa
open Go.RowKit Go.MapKept Mem Zon
namespace Zns

def ent (g : Nat) (k : Int) (f born : Nat) : MapEntry := ⟨.int .i64 k, .func (.func f) #[.pointer (some ⟨g, 0, none⟩)] #[], born⟩
def actEs (g : Nat) : Array MapEntry :=
  #[ent g 1 39 0, ent g 8 40 1, ent g 2 41 2, ent g 3 42 3,
    ent g 4 43 4, ent g 5 44 5, ent g 6 45 6, ent g 7 46 7]
def Acts (w : World) (r g : Nat) : Prop := w.heap[r]? = some (.map (actEs g) 8)
theorem Acts.below {w w' : World} {r g : Nat} (h : Acts w r g) (hb : Below w.heap.size w w') : Acts w' r g := (hb.block r (Array.getElem?_eq_some_iff.1 h).1).trans h
theorem Acts.but {w w' : World} {r g q : Nat} (h : Acts w r g) (hb : But q w w') (hn : r ≠ q) : Acts w' r g := (hb.block (Array.getElem?_eq_some_iff.1 h).1 hn).trans h

/-- A new key is laid into a map of the call's own. -/
theorem wpList_insert_new {P : Program} {w : World} {ops : Array Oper} {rest : List Oper} {o : Oper} {a : Act} {Q : Exit → Act → World → Prop}
    (hg : o.guard = none) (m x v : Operand) (t : TypeId) (hop : o.op = Op.insert t m x v)
    {k e : TypeId} (ht : P.underlying t = some (.map k e)) (hk : P.underlying k = some (.int .i64)) {b B : Nat} (hB : B ≤ b) {es : Array MapEntry} {clock : Nat}
    (hm : a.eval m = .map (some b)) (hb : w.heap[b]? = some (.map es clock)) {n : Int} (hx : a.eval x = .int .i64 n) (hnew : Instr.findNow (.int .i64) (.int .i64 n) es.toList 0 = some none)
    (hK : ∀ w', w'.heap[b]? = some (.map (es.push ⟨.int .i64 n, a.eval v, clock⟩) (clock + 1)) → Below B w w' → wpList P ops Q rest (a.put o.dst undef) w') :
    wpList P ops Q (o :: rest) a w := by
  refine wpList_plain hg fun K' hK' => ?_
  have hkey : IsKey (.int .i64) (.int .i64 n) := rfl
  have hr : (Instr.mapUpdate t (.map (some b)) (.int .i64 n) (a.eval v)).run P w = .ok () { w with heap := w.heap.setIfInBounds b (.map (es.push ⟨.int .i64 n, a.eval v, clock⟩) (clock + 1)) } := by
    simp [Instr.mapUpdate, run_underlying ht, MapKept.run_getObj_map (P := P) hb, MapKept.run_checkKey (P := P) (w := w) hk hkey, MapKept.run_findKey (P := P) (w := w) hk hnew, MapKept.run_setObj_map (P := P) _ hb, Result.andThen]
  unfold Oper.wp
  simp [execOp, hop, hm, hx, hr, Result.andThen]
  have h2 := heap_set hb (o' := .map (es.push ⟨.int .i64 n, a.eval v, clock⟩) (clock + 1))
  exact hK' _ _ (hK _ h2.1 ⟨rfl, rfl, rfl, by simp, fun i hi => h2.2 i (by omega)⟩)

set_option maxRecDepth 100000 in
set_option maxHeartbeats 3200000 in
theorem acts_any (g : Nat) (w : World) :
    Calls Try.prog 33 #[.pointer (some ⟨g, 0, none⟩)] w fun e w' => e = .returned (.map (some w.heap.size)) ∧ Acts w' w.heap.size g ∧ Below w.heap.size w w' := by
  have hmm := @run_makeMap Try.prog
  have hmf : ∀ (fn : Fn) (first cap : Array Value) (w : World), (Instr.makeFunc fn first cap).run Try.prog w = .ok (.func fn first cap) w := fun _ _ _ _ => rfl
  have h0 : (w.alloc (.map #[] 0)).heap[w.heap.size]? = some (.map #[] 0) := heap_alloc_new w _
  have hb0 : Below w.heap.size w (w.alloc (.map #[] 0)) := (Below.refl _ w).alloc (Nat.le_refl _) _
  go_enter Try.func33, Try.ntmps33
  go_wp2_with (refine wpList_insert_new rfl _ _ _ 62 rfl Try.underlying62 Try.underlying3 (Nat.le_refl w.heap.size) rfl (by assumption) rfl (by rfl) ?_
               intro w' h1 h2
               have hb0 := hb0.trans h2
               clear h2)
  go_ret
  refine ⟨rfl, ?_, by assumption⟩
  show _ = _
  assumption

/-- The act of a kind of commands. -/
def actF (d : Int) : Nat :=
  bif d == 1 then 39 else bif d == 8 then 40 else bif d == 2 then 41 else bif d == 3 then 42
  else bif d == 4 then 43 else bif d == 5 then 44 else bif d == 6 then 45 else 46
theorem known_of {d : Int} (h : knownB d = true) : d = 1 ∨ d = 8 ∨ d = 2 ∨ d = 3 ∨ d = 4 ∨ d = 5 ∨ d = 6 ∨ d = 7 := by
  unfold knownB at h
  simp only [Bool.and_eq_true, decide_eq_true_eq] at h
  omega
theorem run_lookup_new {w : World} {r g : Nat} {d : Int} (h : Acts w r g) (hk : knownB d = false) : (Instr.lookup 62 (.map (some r)) (.int .i64 d) true).run Try.prog w = .ok (.tuple #[.nilFunc, .bool false]) w := by
  have hkey : IsKey (.int .i64) (.int .i64 d) := rfl
  have hf : Instr.findNow (.int .i64) (.int .i64 d) (actEs g).toList 0 = some none := by
    unfold knownB at hk
    simp only [Bool.and_eq_false_iff, decide_eq_false_iff_not] at hk
    have h1 : (d == 1) = false := beq_eq_false_iff_ne.2 (by omega)
    have h2 : (d == 2) = false := beq_eq_false_iff_ne.2 (by omega)
    have h3 : (d == 3) = false := beq_eq_false_iff_ne.2 (by omega)
    have h4 : (d == 4) = false := beq_eq_false_iff_ne.2 (by omega)
    have h5 : (d == 5) = false := beq_eq_false_iff_ne.2 (by omega)
    have h6 : (d == 6) = false := beq_eq_false_iff_ne.2 (by omega)
    have h7 : (d == 7) = false := beq_eq_false_iff_ne.2 (by omega)
    have h8 : (d == 8) = false := beq_eq_false_iff_ne.2 (by omega)
    simp [actEs, ent, Instr.findNow, Instr.sameNow, h1, h2, h3, h4, h5, h6, h7, h8]
  have hz : (zeroValue 70).run Try.prog w = .ok .nilFunc w := by kernel_rfl
  simp [Instr.lookup, run_underlying Try.underlying62, MapKept.run_getObj_map (P := Try.prog) h, MapKept.run_checkKey (P := Try.prog) (w := w) Try.underlying3 hkey, MapKept.run_findKey (P := Try.prog) (w := w) Try.underlying3 hf, hz, Result.andThen]
theorem run_lookup_act {w : World} {r g : Nat} {d : Int} (h : Acts w r g) (hk : knownB d = true) : (Instr.lookup 62 (.map (some r)) (.int .i64 d) true).run Try.prog w = .ok (.tuple #[.func (.func (actF d)) #[.pointer (some ⟨g, 0, none⟩)] #[], .bool true]) w := by
  have hkey : IsKey (.int .i64) (.int .i64 d) := rfl
  have hf : ∃ j, Instr.findNow (.int .i64) (.int .i64 d) (actEs g).toList 0 = some (some (j, .func (.func (actF d)) #[.pointer (some ⟨g, 0, none⟩)] #[])) := by
    rcases known_of hk with rfl | rfl | rfl | rfl | rfl | rfl | rfl | rfl
    all_goals exact ⟨_, rfl⟩
  obtain ⟨j, hf⟩ := hf
  simp [Instr.lookup, run_underlying Try.underlying62, MapKept.run_getObj_map (P := Try.prog) h, MapKept.run_checkKey (P := Try.prog) (w := w) Try.underlying3 hkey, MapKept.run_findKey (P := Try.prog) (w := w) Try.underlying3 hf, Result.andThen]
end Zns
end Go.Proofs.Ytbmblgjilmgkeaa
