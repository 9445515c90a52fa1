/-
  WHAT THE LAWS' LOOPS CARRY: a table in a box.
-/
import Derived.Test.YtehknenlifdchaaLeaLive
import Derived.Test.YtehknenlifdchaaLeaFacts
import Derived.Test.YtehknenlifdchaaLeaBody
import Derived.Test.YtehknenlifdchaaLeaModel
import Derived.BigQuiet
import Derived.Deep.LoopGhost
import Derived.Deep.DeepCutAuto
namespace Go.Proofs.Ytehknenlifdchaa
open Go.ChangeShapes Go.WideShapes Go.ChangeAt Go.RowKit Mem
namespace Lea
structure TI (w wr : World) (g : Nat) (t : Tv) (A : Option Addr) (c : Nat) (j : Nat) : Prop where
  below : Below w.heap.size w wr
  box : TBox wr g t.last t.now A t.l.length c
  row : RowL wr A t.l.length c t.l
  bd : Bd t j
  ge : w.heap.size ≤ g
section
variable {w wr wx : World} {g : Nat} {t t' : Tv} {A A' : Option Addr} {c c' j : Nat}
theorem TI.to (h : TI w wr g t A c j) (hb : Below wr.heap.size wr wx) : TI w wx g t A c j := ⟨h.below.trans (hb.mono h.below.size), Cells.below h.box hb, RowS.below h.row hb, h.bd, h.ge⟩
theorem TI.up (h : TI w wr g t A c j) : TI w wr g t A c (j + 1) := ⟨h.below, h.box, h.row, h.bd.up, h.ge⟩
theorem TI.store (h : TI w wr g t A c j) (hr : RowL wr A' t'.l.length c' t'.l) (hb : Bd t' (j + 1)) :
    TI w (((wr.setCell ⟨g, 0, none⟩ (.int .i64 t'.last)).setCell ⟨g, 1, none⟩ (.int .i64 t'.now)).setCell ⟨g, 2, none⟩ (.slice A' t'.l.length c')) g t' A' c' (j + 1) :=
  ⟨below3 h.below h.ge _ _ _, Cells.set3 h.box _ _ _, RowS.keep3 hr h.box _ _ _, hb, h.ge⟩
end
theorem RowS.op_at {w : World} {A : Option Addr} {n c : Nat} {l : List Ov} (h : RowS cellsO 5 w A n c l) {i : Nat} {x : Ov} (hx : l[i]? = some x) :
    ∃ b o, A = some ⟨b, o, none⟩ ∧ w.cell? ⟨b, o + i * 5, none⟩ = some (.int .i64 x.d) ∧ w.cell? ⟨b, o + i * 5 + 1, none⟩ = some (.int .i64 x.a) ∧ w.cell? ⟨b, o + i * 5 + 2, none⟩ = some (.int .i64 x.b) ∧ w.cell? ⟨b, o + i * 5 + 3, none⟩ = some (.int .i64 x.c) ∧ w.cell? ⟨b, o + i * 5 + 4, none⟩ = some (.int .i64 x.e) := by
  obtain ⟨b, o, e, -, hc⟩ := h.elem hx
  exact ⟨b, o, e, hc w rfl 0 _ rfl, hc w rfl 1 _ rfl, hc w rfl 2 _ rfl, hc w rfl 3 _ rfl, hc w rfl 4 _ rfl⟩
theorem body_lens (t : Tv) (o : Ov) : (bodyP t o).1.l.length ≤ t.l.length + 1 ∧ (bodyP t o).2.1.length ≤ t.l.length + 1 := by
  constructor
  · rcases body_cases t o with ⟨h0, h1, h2, h3⟩ | ⟨-, h1, h2, h3⟩ | ⟨-, h1, h3⟩ | ⟨-, h1, h3⟩ | ⟨-, -, -, -, h1, -⟩ | ⟨-, h1⟩
    · rw [h3]; have := List.length_filter_le (fun x : Lv => !decide (x.til ≤ o.a)) t.l; show (List.filter _ t.l).length ≤ _; omega
    · rw [h3]; show (putL t.l o.a _).length ≤ _; rw [putL_len (okT_rises (grantOk_ok h1)) h2]; omega
    · rw [h3]; show (setK t.l o.a _).length ≤ _; unfold setK; rw [List.length_map]; omega
    · rw [h3]; have := List.length_filter_le (fun x : Lv => !(x.key == o.a)) t.l; show (butK t.l o.a).length ≤ _; unfold butK; omega
    · rw [h1]; omega
    · rw [h1]; simp [zT]
  · unfold bodyP
    rcases (o.d == 0)
    · rcases (o.d == 1)
      · rcases (o.d == 2)
        · rcases (o.d == 3)
          · rcases (holdP t o.a).2 <;> simp
          · simp
        · simp
      · simp
    · simp only [cond_true]
      unfold tickP
      rcases (okT t && !decide (o.a < t.now))
      · simp
      · have := List.length_filter_le (fun x : Lv => decide (x.til ≤ o.a)) t.l
        simp only [cond_true]
        omega
theorem of_len (t : Tv) (host : Int) : (ofP t host).length ≤ t.l.length := by
  unfold ofP
  rcases okT t
  · simp
  · simp only [cond_true, List.length_map]
    exact List.length_filter_le _ _
end Lea
end Go.Proofs.Ytehknenlifdchaa
