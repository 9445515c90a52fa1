/-
  STRUCTS IN BLOCKS OF THEIR OWN: written whole; as results. (Program-free.)
-/
import Derived.Test.YtedandbkdjmfhaaBox
import Derived.WalkKit
import Derived.Deep.DeepCutAuto
import Derived.Lib.LazyBuf
namespace Go.Proofs.Ytedandbkdjmfhaa
open Go.RowKit Mem
namespace Box
theorem results_c1 {P : Program} {fn : Func} {p u : Tmp} {ty : TypeId} (h : fn.results = #[.cell p ty, .tmp u]) (tmps : Array Value) (w : World) (g : Nat) (t : TypeId) (cs : Array Value) (fr : Nat × Nat) (d : TypeDesc)
    (hp : tmps.getD p undef = .pointer (some ⟨g, 0, none⟩)) (hg : w.heap[g]? = some (.cells cs t fr))
    (hu : P.underlying ty = some d) (hd : (match d with | .struct _ | .array _ _ => true | _ => false) = true) (hi : (P.info? ty).map (·.size) = some cs.size) :
    (results fn tmps).run P w = .ok (.tuple #[.agg cs, tmps.getD u undef]) w := by
  have hp' : tmps[p]?.getD undef = .pointer (some ⟨g, 0, none⟩) := by simpa using hp
  simp [results, h, hp', asAddr, Result.andThen, run_loadVar_row w g t ty cs fr d hg hu hd hi]
theorem results_c0 {P : Program} {fn : Func} {p : Tmp} {ty : TypeId} (h : fn.results = #[.cell p ty]) (tmps : Array Value) (w : World) (g : Nat) (t : TypeId) (cs : Array Value) (fr : Nat × Nat) (d : TypeDesc)
    (hp : tmps.getD p undef = .pointer (some ⟨g, 0, none⟩)) (hg : w.heap[g]? = some (.cells cs t fr))
    (hu : P.underlying ty = some d) (hd : (match d with | .struct _ | .array _ _ => true | _ => false) = true) (hi : (P.info? ty).map (·.size) = some cs.size) :
    (results fn tmps).run P w = .ok (.agg cs) w := by
  have hp' : tmps[p]?.getD undef = .pointer (some ⟨g, 0, none⟩) := by simpa using hp
  simp [results, h, hp', asAddr, run_loadVar_row w g t ty cs fr d hg hu hd hi]
theorem results_c2 {P : Program} {fn : Func} {p u v : Tmp} {ty : TypeId} (h : fn.results = #[.cell p ty, .tmp u, .tmp v]) (tmps : Array Value) (w : World) (g : Nat) (t : TypeId) (cs : Array Value) (fr : Nat × Nat) (d : TypeDesc)
    (hp : tmps.getD p undef = .pointer (some ⟨g, 0, none⟩)) (hg : w.heap[g]? = some (.cells cs t fr))
    (hu : P.underlying ty = some d) (hd : (match d with | .struct _ | .array _ _ => true | _ => false) = true) (hi : (P.info? ty).map (·.size) = some cs.size) :
    (results fn tmps).run P w = .ok (.tuple #[.agg cs, tmps.getD u undef, tmps.getD v undef]) w := by
  have hp' : tmps[p]?.getD undef = .pointer (some ⟨g, 0, none⟩) := by simpa using hp
  simp [results, h, hp', asAddr, Result.andThen, run_loadVar_row w g t ty cs fr d hg hu hd hi]
theorem results_cc1 {P : Program} {fn : Func} {p u v : Tmp} {ty ty2 : TypeId} (h : fn.results = #[.cell p ty, .cell u ty2, .tmp v]) (tmps : Array Value) (w : World) (g g2 : Nat) (t t2 : TypeId) (cs cs2 : Array Value) (fr fr2 : Nat × Nat) (d d2 : TypeDesc)
    (hp : tmps.getD p undef = .pointer (some ⟨g, 0, none⟩)) (hg : w.heap[g]? = some (.cells cs t fr))
    (hu : P.underlying ty = some d) (hd : (match d with | .struct _ | .array _ _ => true | _ => false) = true) (hi : (P.info? ty).map (·.size) = some cs.size)
    (hp2 : tmps.getD u undef = .pointer (some ⟨g2, 0, none⟩)) (hg2 : w.heap[g2]? = some (.cells cs2 t2 fr2))
    (hu2 : P.underlying ty2 = some d2) (hd2 : (match d2 with | .struct _ | .array _ _ => true | _ => false) = true) (hi2 : (P.info? ty2).map (·.size) = some cs2.size) :
    (results fn tmps).run P w = .ok (.tuple #[.agg cs, .agg cs2, tmps.getD v undef]) w := by
  have hp' : tmps[p]?.getD undef = .pointer (some ⟨g, 0, none⟩) := by simpa using hp
  have hp2' : tmps[u]?.getD undef = .pointer (some ⟨g2, 0, none⟩) := by simpa using hp2
  simp [results, h, hp', hp2', asAddr, Result.andThen, run_loadVar_row w g t ty cs fr d hg hu hd hi, run_loadVar_row w g2 t2 ty2 cs2 fr2 d2 hg2 hu2 hd2 hi2]

theorem Cells.set2 {w : World} {g : Nat} {t : TypeId} {a b : Value} (h : Cells w g t #[a, b]) (x y : Value) : Cells ((w.setCell ⟨g, 0, none⟩ x).setCell ⟨g, 1, none⟩ y) g t #[x, y] := by
  simpa using (h.set_ 0 x).set_ 1 y
theorem Cells.set6 {w : World} {g : Nat} {t : TypeId} {a b c d e f : Value} (h : Cells w g t #[a, b, c, d, e, f]) (x y z u v q : Value) :
    Cells ((((((w.setCell ⟨g, 0, none⟩ x).setCell ⟨g, 1, none⟩ y).setCell ⟨g, 2, none⟩ z).setCell ⟨g, 3, none⟩ u).setCell ⟨g, 4, none⟩ v).setCell ⟨g, 5, none⟩ q) g t #[x, y, z, u, v, q] := by
  have h1 : Cells (w.setCell ⟨g, 0, none⟩ x) g t #[x, b, c, d, e, f] := by simpa using h.set_ 0 x
  have h2 : Cells ((w.setCell ⟨g, 0, none⟩ x).setCell ⟨g, 1, none⟩ y) g t #[x, y, c, d, e, f] := by simpa using h1.set_ 1 y
  have h3 : Cells (((w.setCell ⟨g, 0, none⟩ x).setCell ⟨g, 1, none⟩ y).setCell ⟨g, 2, none⟩ z) g t #[x, y, z, d, e, f] := by simpa using h2.set_ 2 z
  have h4 : Cells ((((w.setCell ⟨g, 0, none⟩ x).setCell ⟨g, 1, none⟩ y).setCell ⟨g, 2, none⟩ z).setCell ⟨g, 3, none⟩ u) g t #[x, y, z, u, e, f] := by simpa using h3.set_ 3 u
  have h5 : Cells (((((w.setCell ⟨g, 0, none⟩ x).setCell ⟨g, 1, none⟩ y).setCell ⟨g, 2, none⟩ z).setCell ⟨g, 3, none⟩ u).setCell ⟨g, 4, none⟩ v) g t #[x, y, z, u, v, f] := by simpa using h4.set_ 4 v
  simpa using h5.set_ 5 q
/-- Six cells that are written one behind the other: each may be. -/
theorem six_steps {w : World} {g : Nat} {t : TypeId} {a b c d e f : Value} (h : Cells w g t #[a, b, c, d, e, f]) (x y z u v : Value) :
    w.cell? ⟨g, 0, none⟩ = some a ∧ w.frozen? ⟨g, 0, none⟩ = false ∧ (w.setCell ⟨g, 0, none⟩ x).cell? ⟨g, 1, none⟩ = some b ∧ (w.setCell ⟨g, 0, none⟩ x).frozen? ⟨g, 1, none⟩ = false ∧ ((w.setCell ⟨g, 0, none⟩ x).setCell ⟨g, 1, none⟩ y).cell? ⟨g, 2, none⟩ = some c ∧ ((w.setCell ⟨g, 0, none⟩ x).setCell ⟨g, 1, none⟩ y).frozen? ⟨g, 2, none⟩ = false ∧ (((w.setCell ⟨g, 0, none⟩ x).setCell ⟨g, 1, none⟩ y).setCell ⟨g, 2, none⟩ z).cell? ⟨g, 3, none⟩ = some d ∧ (((w.setCell ⟨g, 0, none⟩ x).setCell ⟨g, 1, none⟩ y).setCell ⟨g, 2, none⟩ z).frozen? ⟨g, 3, none⟩ = false ∧ ((((w.setCell ⟨g, 0, none⟩ x).setCell ⟨g, 1, none⟩ y).setCell ⟨g, 2, none⟩ z).setCell ⟨g, 3, none⟩ u).cell? ⟨g, 4, none⟩ = some e ∧ ((((w.setCell ⟨g, 0, none⟩ x).setCell ⟨g, 1, none⟩ y).setCell ⟨g, 2, none⟩ z).setCell ⟨g, 3, none⟩ u).frozen? ⟨g, 4, none⟩ = false ∧ (((((w.setCell ⟨g, 0, none⟩ x).setCell ⟨g, 1, none⟩ y).setCell ⟨g, 2, none⟩ z).setCell ⟨g, 3, none⟩ u).setCell ⟨g, 4, none⟩ v).cell? ⟨g, 5, none⟩ = some f ∧ (((((w.setCell ⟨g, 0, none⟩ x).setCell ⟨g, 1, none⟩ y).setCell ⟨g, 2, none⟩ z).setCell ⟨g, 3, none⟩ u).setCell ⟨g, 4, none⟩ v).frozen? ⟨g, 5, none⟩ = false := by
  have h1 : Cells (w.setCell ⟨g, 0, none⟩ x) g t #[x, b, c, d, e, f] := by simpa using h.set_ 0 x
  have h2 : Cells ((w.setCell ⟨g, 0, none⟩ x).setCell ⟨g, 1, none⟩ y) g t #[x, y, c, d, e, f] := by simpa using h1.set_ 1 y
  have h3 : Cells (((w.setCell ⟨g, 0, none⟩ x).setCell ⟨g, 1, none⟩ y).setCell ⟨g, 2, none⟩ z) g t #[x, y, z, d, e, f] := by simpa using h2.set_ 2 z
  have h4 : Cells ((((w.setCell ⟨g, 0, none⟩ x).setCell ⟨g, 1, none⟩ y).setCell ⟨g, 2, none⟩ z).setCell ⟨g, 3, none⟩ u) g t #[x, y, z, u, e, f] := by simpa using h3.set_ 3 u
  have h5 : Cells (((((w.setCell ⟨g, 0, none⟩ x).setCell ⟨g, 1, none⟩ y).setCell ⟨g, 2, none⟩ z).setCell ⟨g, 3, none⟩ u).setCell ⟨g, 4, none⟩ v) g t #[x, y, z, u, v, f] := by simpa using h4.set_ 4 v
  exact ⟨h.cell 0, h.frozen 0, h1.cell 1, h1.frozen 1, h2.cell 2, h2.frozen 2, h3.cell 3, h3.frozen 3, h4.cell 4, h4.frozen 4, h5.cell 5, h5.frozen 5⟩
theorem Mov.set2 (w : World) (g : Nat) (x y : Value) : Mov [g] w ((w.setCell ⟨g, 0, none⟩ x).setCell ⟨g, 1, none⟩ y) :=
  (Mov.set1 w (by simp) 0 x).trans (Mov.set1 _ (by simp) 1 y) (fun _ h => .inl h)
theorem Mov.set6 (w : World) (g : Nat) (x y z u v q : Value) : Mov [g] w ((((((w.setCell ⟨g, 0, none⟩ x).setCell ⟨g, 1, none⟩ y).setCell ⟨g, 2, none⟩ z).setCell ⟨g, 3, none⟩ u).setCell ⟨g, 4, none⟩ v).setCell ⟨g, 5, none⟩ q) :=
  (((((Mov.set1 w (by simp) 0 x).trans (Mov.set1 _ (by simp) 1 y) (fun _ h => .inl h)).trans (Mov.set1 _ (by simp) 2 z) (fun _ h => .inl h)).trans (Mov.set1 _ (by simp) 3 u) (fun _ h => .inl h)).trans (Mov.set1 _ (by simp) 4 v) (fun _ h => .inl h)).trans (Mov.set1 _ (by simp) 5 q) (fun _ h => .inl h)
/-- Behind writes into a block beyond base. -/
theorem Mov.up {w w' : World} {g b : Nat} (h : Mov [g] w w') (hb : b ≤ w.heap.size) (hg : b ≤ g) : Below b w w' := h.below hb (by simpa using hg)
/-- Two structs written one behind the other, beside a third. -/
theorem two_six {w : World} {g q z : Nat} {t : TypeId} {a b c d : Value} (hx : Cells w g t #[a, b]) (hz : Cells w z t #[c, d]) (hgq : g ≠ q) (hzg : z ≠ g) (hzq : z ≠ q) (v0 v1 m0 m1 m2 m3 m4 m5 : Value) {base : Nat} (hb : base ≤ w.heap.size) (h1 : base ≤ g) (h2 : base ≤ q) :
    ∃ w1, Mov [g] w w1 ∧ Mov [q] w1 ((((((((w.setCell ⟨g, 0, none⟩ v0).setCell ⟨g, 1, none⟩ v1).setCell ⟨q, 0, none⟩ m0).setCell ⟨q, 1, none⟩ m1).setCell ⟨q, 2, none⟩ m2).setCell ⟨q, 3, none⟩ m3).setCell ⟨q, 4, none⟩ m4).setCell ⟨q, 5, none⟩ m5) ∧ Cells ((((((((w.setCell ⟨g, 0, none⟩ v0).setCell ⟨g, 1, none⟩ v1).setCell ⟨q, 0, none⟩ m0).setCell ⟨q, 1, none⟩ m1).setCell ⟨q, 2, none⟩ m2).setCell ⟨q, 3, none⟩ m3).setCell ⟨q, 4, none⟩ m4).setCell ⟨q, 5, none⟩ m5) g t #[v0, v1] ∧ Cells ((((((((w.setCell ⟨g, 0, none⟩ v0).setCell ⟨g, 1, none⟩ v1).setCell ⟨q, 0, none⟩ m0).setCell ⟨q, 1, none⟩ m1).setCell ⟨q, 2, none⟩ m2).setCell ⟨q, 3, none⟩ m3).setCell ⟨q, 4, none⟩ m4).setCell ⟨q, 5, none⟩ m5) z t #[c, d] ∧ Below base w ((((((((w.setCell ⟨g, 0, none⟩ v0).setCell ⟨g, 1, none⟩ v1).setCell ⟨q, 0, none⟩ m0).setCell ⟨q, 1, none⟩ m1).setCell ⟨q, 2, none⟩ m2).setCell ⟨q, 3, none⟩ m3).setCell ⟨q, 4, none⟩ m4).setCell ⟨q, 5, none⟩ m5) := by
  have b1 : Mov [g] w ((w.setCell ⟨g, 0, none⟩ v0).setCell ⟨g, 1, none⟩ v1) := Mov.set2 w g v0 v1
  have x1 : Cells ((w.setCell ⟨g, 0, none⟩ v0).setCell ⟨g, 1, none⟩ v1) g t #[v0, v1] := Cells.set2 hx v0 v1
  have z1 : Cells ((w.setCell ⟨g, 0, none⟩ v0).setCell ⟨g, 1, none⟩ v1) z t #[c, d] := Cells.mov hz b1 (by simpa using hzg)
  have l1 := b1.up hb h1
  generalize ((w.setCell ⟨g, 0, none⟩ v0).setCell ⟨g, 1, none⟩ v1) = w1 at *
  have b2 : Mov [q] w1 _ := Mov.set6 w1 q m0 m1 m2 m3 m4 m5
  exact ⟨w1, b1, b2, Cells.mov x1 b2 (by simpa using hgq), Cells.mov z1 b2 (by simpa using hzq), l1.trans (b2.up (Nat.le_trans hb b1.size) h2)⟩
end Box
end Go.Proofs.Ytedandbkdjmfhaa
