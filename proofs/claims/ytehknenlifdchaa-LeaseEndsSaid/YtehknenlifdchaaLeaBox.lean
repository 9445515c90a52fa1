/-
  BOXES AND ROWS: a row of leases does not lie in a table's box; something that is done, as a value.
-/
import Derived.Test.YtehknenlifdchaaLeaRefW
import Derived.Test.YtehknenlifdchaaLeaRefG
import Derived.Test.YtehknenlifdchaaLeaRefS
import Derived.Test.YtehknenlifdchaaLeaRefN
import Derived.Test.YtehknenlifdchaaLeaRefChk
import Derived.Test.YtehknenlifdchaaLeaOf
import Derived.Test.YtehknenlifdchaaLeaNext
import Derived.Test.YtehknenlifdchaaLeaRenew
import Derived.Test.YtehknenlifdchaaLeaCat
namespace Go.Proofs.Ytehknenlifdchaa
open Go.RowKit Mem
namespace Lea
theorem RowS.ne3 {w : World} {A : Option Addr} {n c g : Nat} {l : List Lv} {t : TypeId} {cs : Array Value} (h : RowL w A n c l) (hc : Cells w g t cs) (h3 : cs.size ≤ 3) : ∀ q o, A = some ⟨q, o, none⟩ → 0 < n → q ≠ g := by
  intro q o e hn hq
  subst hq
  obtain ⟨x, hx⟩ := RowS.get h hn
  obtain ⟨b, o', e', -, -, -, h4⟩ := RowS.lease_at h hx
  rw [e] at e'
  injection e' with e'
  injection e' with e1 e2
  subst e1 e2
  rw [Cells.cell hc] at h4
  have := (Array.getElem?_eq_some_iff.1 h4).1
  omega
theorem RowS.keep3 {w : World} {A : Option Addr} {n c g : Nat} {l : List Lv} {t : TypeId} {a b d : Value} (h : RowL w A n c l) (hc : Cells w g t #[a, b, d]) (x y z : Value) : RowL (((w.setCell ⟨g, 0, none⟩ x).setCell ⟨g, 1, none⟩ y).setCell ⟨g, 2, none⟩ z) A n c l :=
  RowS.keepBut h (RowS.ne3 h hc (by simp)) (But.set3 _ _ _ _ _)
theorem RowS.old3 {w : World} {A : Option Addr} {n c g : Nat} {l : List Lv} {a b d : Value} {t : TypeId} (h : RowL w A n c l) (hc : Cells w g t #[a, b, d]) {w' : World} (hb : But g w w') : RowL w' A n c l :=
  RowS.keepBut h (RowS.ne3 h hc (by simp)) hb
abbrev ov (o : Ov) : Value := .agg #[.int .i64 o.d, .int .i64 o.a, .int .i64 o.b, .int .i64 o.c, .int .i64 o.e]
def cellsO (o : Ov) : List Value := [.int .i64 o.d, .int .i64 o.a, .int .i64 o.b, .int .i64 o.c, .int .i64 o.e]
abbrev OBox (w : World) (g : Nat) (o : Ov) : Prop := Cells w g 30 #[.int .i64 o.d, .int .i64 o.a, .int .i64 o.b, .int .i64 o.c, .int .i64 o.e]
theorem OBox.cells {w : World} {g : Nat} {o : Ov} (h : OBox w g o) : w.cell? ⟨g, 0, none⟩ = some (.int .i64 o.d) ∧ w.cell? ⟨g, 1, none⟩ = some (.int .i64 o.a) ∧ w.cell? ⟨g, 2, none⟩ = some (.int .i64 o.b) ∧ w.cell? ⟨g, 3, none⟩ = some (.int .i64 o.c) ∧ w.cell? ⟨g, 4, none⟩ = some (.int .i64 o.e) :=
  ⟨Cells.cell h 0, Cells.cell h 1, Cells.cell h 2, Cells.cell h 3, Cells.cell h 4⟩
end Lea
end Go.Proofs.Ytehknenlifdchaa
