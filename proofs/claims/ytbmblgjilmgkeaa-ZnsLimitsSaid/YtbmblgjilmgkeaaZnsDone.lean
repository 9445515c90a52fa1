/-
  ANSWERS, A ROW OF THEM OF ONE'S OWN; what is made anew (zones, answers).
-/
import Derived.Test.YtbmblgjilmgkeaaZnsPut
import Derived.Test.YtbmblgjilmgkeaaZnsActs
import Derived.Test.YtbmblgjilmgkeaaZnsClone
import Derived.Laws.MakeOwn
namespace Go.Proofs.Ytbmblgjilmgkeaa
open Go.RowKit Mem Zon
namespace Zns

def OwnE (w : World) (q o : Nat) (es : List Ex) : Prop := ∃ cs, Cells w q 38 cs ∧ ∀ i x, es[i]? = some x → ∀ j u, (cellsE x)[j]? = some u → cs[o + i * 3 + j]? = some u
section
variable {w w' : World} {q o : Nat} {es : List Ex}
theorem OwnE.lt (h : OwnE w q o es) : q < w.heap.size := by obtain ⟨cs, h, -⟩ := h; exact Cells.lt h
theorem OwnE.heap (h : OwnE w q o es) (e : w'.heap[q]? = w.heap[q]?) : OwnE w' q o es := by obtain ⟨cs, h1, h2⟩ := h; exact ⟨cs, e.trans h1, h2⟩
theorem OwnE.below (h : OwnE w q o es) (hb : Below w.heap.size w w') : OwnE w' q o es := h.heap (hb.block q h.lt)
theorem OwnE.but {p : Nat} (h : OwnE w q o es) (hb : But p w w') (hn : q ≠ p) : OwnE w' q o es := h.heap (hb.block h.lt hn)
theorem OwnE.frozen (h : OwnE w q o es) (i : Nat) : w.frozen? ⟨q, i, none⟩ = false := by obtain ⟨cs, h1, -⟩ := h; exact Cells.frozen h1 i
theorem OwnE.cell (h : OwnE w q o es) {i : Nat} {x : Ex} (hx : es[i]? = some x) {j : Nat} {u : Value} (hu : (cellsE x)[j]? = some u) : w.cell? ⟨q, o + i * 3 + j, none⟩ = some u := by
  obtain ⟨cs, h1, h2⟩ := h
  rw [Cells.cell h1]
  exact h2 i x hx j u hu
theorem OwnE.set1 (h : OwnE w q o es) {i j : Nat} {x x' : Ex} {v : Value} (hx : es[i]? = some x) (hj : j < 3) (hc : cellsE x' = (cellsE x).set j v) : OwnE (w.setCell ⟨q, o + i * 3 + j, none⟩ v) q o (es.set i x') := by
  obtain ⟨cs, h1, h2⟩ := h
  refine ⟨_, heap_set h1 _ _, fun i2 y hy j2 u hu => ?_⟩
  have hj2 : j2 < 3 := by have := (List.getElem?_eq_some_iff.1 hu).1; simpa [cellsE] using this
  rw [List.getElem?_set] at hy
  by_cases hi : i = i2
  · subst hi
    have hil : i < es.length := (List.getElem?_eq_some_iff.1 hx).1
    rw [if_pos rfl, if_pos hil] at hy
    injection hy with hy
    subst hy
    rw [hc, List.getElem?_set] at hu
    by_cases hjj : j = j2
    · subst hjj
      rw [if_pos rfl, if_pos (by simpa [cellsE] using hj)] at hu
      injection hu with hu
      subst hu
      obtain ⟨u0, hu0⟩ : ∃ u, (cellsE x)[j]? = some u := ⟨_, List.getElem?_eq_getElem (by simpa [cellsE] using hj)⟩
      have hb := (Array.getElem?_eq_some_iff.1 (h2 i x hx j u0 hu0)).1
      simp [hb]
    · rw [if_neg hjj] at hu
      rw [Array.getElem?_setIfInBounds, if_neg (by omega)]
      exact h2 i x hx j2 u hu
  · rw [if_neg hi] at hy
    rw [Array.getElem?_setIfInBounds, if_neg (by omega)]
    exact h2 i2 y hy j2 u hu
theorem OwnE.row (h : OwnE w q o es) {n c : Nat} (hl : es.length = n) (hn : n ≤ c) (hb : n ≤ 1000) : RowS cellsE 3 w (some ⟨q, o, none⟩) n c es :=
  ⟨hl, hn, by omega, fun _ => ⟨_, _, rfl, h.lt, fun _ _ hx _ _ hu => h.cell hx hu⟩⟩
/-- One answer is written; bytes elsewhere stay. -/
theorem OwnE.store (h : OwnE w q o es) {i : Nat} {x : Ex} (x' : Ex) (hx : es[i]? = some x) :
    OwnE (((w.setCell ⟨q, o + i * 3, none⟩ (.int .i64 x'.p.e)).setCell ⟨q, o + i * 3 + 1, none⟩ (.int .i64 x'.p.at_)).setCell ⟨q, o + i * 3 + 2, none⟩ (.slice x'.B x'.p.b.length x'.k)) q o (es.set i x') := by
  have hil : i < es.length := (List.getElem?_eq_some_iff.1 hx).1
  have s1 := h.set1 (x' := ⟨⟨x'.p.e, x.p.at_, x.p.b⟩, x.B, x.k⟩) (v := .int .i64 x'.p.e) hx (j := 0) (by omega) rfl
  have g1 : (es.set i (⟨⟨x'.p.e, x.p.at_, x.p.b⟩, x.B, x.k⟩ : Ex))[i]? = some (⟨⟨x'.p.e, x.p.at_, x.p.b⟩, x.B, x.k⟩ : Ex) := by simp [hil]
  have s2 := s1.set1 (x' := ⟨⟨x'.p.e, x'.p.at_, x.p.b⟩, x.B, x.k⟩) (v := .int .i64 x'.p.at_) g1 (j := 1) (by omega) rfl
  rw [List.set_set] at s2
  have g2 : (es.set i (⟨⟨x'.p.e, x'.p.at_, x.p.b⟩, x.B, x.k⟩ : Ex))[i]? = some (⟨⟨x'.p.e, x'.p.at_, x.p.b⟩, x.B, x.k⟩ : Ex) := by simp [hil]
  have s3 := s2.set1 (x' := x') (v := .slice x'.B x'.p.b.length x'.k) g2 (j := 2) (by omega) rfl
  rw [List.set_set] at s3
  exact s3
theorem OwnE.row3 (h : OwnE w q o es) {i : Nat} {x : Ex} (hx : es[i]? = some x) {A : Option Addr} {m c : Nat} {l : List B8} (hr : Row cb w A m c l) (a b : Int) (B' : Option Addr) (n' d' : Nat) :
    Row cb (((w.setCell ⟨q, o + i * 3, none⟩ (.int .i64 a)).setCell ⟨q, o + i * 3 + 1, none⟩ (.int .i64 b)).setCell ⟨q, o + i * 3 + 2, none⟩ (.slice B' n' d')) A m c l := by
  have h0 : w.cell? ⟨q, o + i * 3, none⟩ = some (.int .i64 x.p.e) := h.cell hx (j := 0) rfl
  have h1 : w.cell? ⟨q, o + i * 3 + 1, none⟩ = some (.int .i64 x.p.at_) := h.cell hx (j := 1) rfl
  have h2 : w.cell? ⟨q, o + i * 3 + 2, none⟩ = some (.slice x.B x.p.b.length x.k) := h.cell hx (j := 2) rfl
  exact Row.setNot (Row.setNot (Row.setNot hr h0 (int_not _) _) ((World.cell?_setCell_other _ _ _ _ (by simp)).trans h1) (int_not _) _) ((World.cell?_setCell_other _ _ _ _ (by simp)).trans ((World.cell?_setCell_other _ _ _ _ (by simp)).trans h2)) (slice_not _ _ _) _
theorem heap3 (w : World) (q a b c : Nat) (x y z : Value) (k : Nat) (hk : k ≠ q) : (((w.setCell ⟨q, a, none⟩ x).setCell ⟨q, b, none⟩ y).setCell ⟨q, c, none⟩ z).heap[k]? = w.heap[k]? :=
  ((Below.heap_setCell _ _ _ _ hk).trans (Below.heap_setCell _ _ _ _ hk)).trans (Below.heap_setCell _ _ _ _ hk)
theorem OwnE.desk (h : OwnE w q o es) {i : Nat} {x : Ex} (hx : es[i]? = some x) {k : Dk} {xs : List Zv} (hd : Desk k xs w) (hg : q ≠ k.g) (hq : q ≠ k.q) (a b : Int) (B' : Option Addr) (n' d' : Nat) :
    Desk k xs (((w.setCell ⟨q, o + i * 3, none⟩ (.int .i64 a)).setCell ⟨q, o + i * 3 + 1, none⟩ (.int .i64 b)).setCell ⟨q, o + i * 3 + 2, none⟩ (.slice B' n' d')) :=
  ⟨(heap3 _ _ _ _ _ _ _ _ _ (Ne.symm hg)).trans hd.box, hd.own.heap (heap3 _ _ _ _ _ _ _ _ _ (Ne.symm hq)), hd.len, hd.cap, hd.big, fun y hy => h.row3 hx (hd.data y hy) a b B' n' d', hd.ne⟩
end

theorem info_done : (Try.prog.info? 38).map (fun i => (i.zero, i.size, i.bytes)) = some (some (.agg #[.int .i64 0, .int .i64 0, .slice none 0 0]), 3, 40) := by kernel_rfl
def zeroE : Ex := ⟨⟨0, 0, []⟩, none, 0⟩
def zeroV : Zv := ⟨nilZ, none, 0⟩
theorem made_get (v0 v1 v2 : Value) (n i j : Nat) (hi : i < n) (hj : j < 3) : (madeCells #[v0, v1, v2] (n * 3))[i * 3 + j]? = #[v0, v1, v2][j]? := by
  have hp : i * 3 + j < n * 3 := by omega
  have hm : (i * 3 + j) % 3 = j := by omega
  unfold madeCells
  rw [Array.getElem?_map, Array.getElem?_range, if_pos hp]
  show some _ = _
  match j, hj with
  | 0, _ => simp
  | 1, _ => simp [hm]
  | 2, _ => simp [hm]
theorem made_done {w : World} (n : Nat) : OwnE (w.alloc (.cells (madeCells #[.int .i64 0, .int .i64 0, .slice none 0 0] (n * 3)) 38)) w.heap.size 0 (List.replicate n zeroE) := by
  refine ⟨_, Cells.new w _ _, fun i x hx j u hu => ?_⟩
  have hj : j < 3 := by have := (List.getElem?_eq_some_iff.1 hu).1; simpa [cellsE] using this
  rw [List.getElem?_replicate] at hx
  split at hx
  · rename_i hi
    injection hx with hx
    subst hx
    rw [Nat.zero_add, made_get _ _ _ _ _ _ hi hj]
    simpa [cellsE, zeroE] using hu
  · cases hx
theorem made_zone {w : World} (n : Nat) : OwnZ (w.alloc (.cells (madeCells #[.int .i64 0, .int .i64 0, .slice none 0 0] (n * 3)) 42)) w.heap.size 0 (List.replicate n zeroV) := by
  refine ⟨_, Cells.new w _ _, fun i x hx j u hu => ?_⟩
  have hj : j < 3 := by have := (List.getElem?_eq_some_iff.1 hu).1; simpa [cellsZ] using this
  rw [List.getElem?_replicate] at hx
  split at hx
  · rename_i hi
    injection hx with hx
    subst hx
    rw [Nat.zero_add, made_get _ _ _ _ _ _ hi hj]
    simpa [cellsZ, zeroV, nilZ] using hu
  · cases hx
theorem run_make_done (w : World) (n : Nat) (hn : n ≤ 1000) : (Instr.makeSlice 52 (.int .i64 (n : Int)) (.int .i64 (n : Int))).run Try.prog w = .ok (.slice (some ⟨w.heap.size, 0, none⟩) n n) (w.alloc (.cells (madeCells #[.int .i64 0, .int .i64 0, .slice none 0 0] (n * 3)) 38)) := by
  obtain ⟨i, hi, hz0, hz1, hz2⟩ := info_parts info_done
  have h := run_make (P := Try.prog) w 52 38 i _ Try.underlying52 hi hz0 .i64 .i64 (n : Int) (n : Int) (by omega) (by omega) (by rw [hz2]; omega) (by omega)
  rw [hz1] at h
  exact h
theorem run_make_zone (w : World) (n : Nat) (hn : n ≤ 1000) : (Instr.makeSlice 23 (.int .i64 (n : Int)) (.int .i64 (n : Int))).run Try.prog w = .ok (.slice (some ⟨w.heap.size, 0, none⟩) n n) (w.alloc (.cells (madeCells #[.int .i64 0, .int .i64 0, .slice none 0 0] (n * 3)) 42)) := by
  obtain ⟨i, hi, hz0, hz1, hz2⟩ := info_parts info_zone
  have h := run_make (P := Try.prog) w 23 42 i _ Try.underlying23 hi hz0 .i64 .i64 (n : Int) (n : Int) (by omega) (by omega) (by rw [hz2]; omega) (by omega)
  rw [hz1] at h
  exact h
end Zns
end Go.Proofs.Ytbmblgjilmgkeaa
