/-
  SEVERAL TEXTS IN ONE FILE: SegTakeR, SegRows.
-/
import Derived.Test.YtedandbkdjmfhaaGreatJ14
set_option linter.unusedSimpArgs false
set_option linter.unusedVariables false
/-
  WALKS OVER seg'S READING: takeRec.
-/
namespace Go.Proofs.YtedandbkdjmfhaaGreat
open Go.RowKit Mem
namespace Seg
open Wire

def zeroRec : Value := .agg #[.int .i64 0, .int .i64 0, .int .i64 0, .int .i64 0, .int .i64 0, .int .i64 0, .slice none 0 0]
/-- What takeRec tells. -/
def TookR (w : World) (o : Option Rc) (en : Ending) (w' : World) : Prop :=
  (match o with
   | none => en = .returned (.tuple #[zeroRec, .bool false])
   | some r => ∃ D n c, en = .returned (.tuple #[recV r D n c, .bool true]) ∧ Owns cb 5 w.heap.size w' (.slice D n c) n r.data) ∧ Below w.heap.size w w'

theorem Owns.setCell {α : Type} {f : α → Value} {e : TypeId} {base : Nat} {w : World} {s : Value} {n : Nat} {l : List α} (h : Owns f e base w s n l) {p : Addr} (hp : p.block < base) (v : Value) : Owns f e base (w.setCell p v) s n l := by
  refine ⟨h.1, ?_⟩
  rcases h.2 with hn | ⟨q, cap, cur, e', hbg, hq, r⟩
  · exact .inl hn
  · exact .inr ⟨q, cap, cur, e', hbg, (Below.heap_setCell _ _ _ _ (by omega)).trans hq, r⟩
theorem Cells.set7 {w : World} {g : Nat} {t : TypeId} {a0 a1 a2 a3 a4 a5 a6 : Value} (h : Cells w g t #[a0, a1, a2, a3, a4, a5, a6]) (v0 v1 v2 v3 v4 v5 v6 : Value) : Cells (((((((w.setCell ⟨g, 0, none⟩ v0).setCell ⟨g, 1, none⟩ v1).setCell ⟨g, 2, none⟩ v2).setCell ⟨g, 3, none⟩ v3).setCell ⟨g, 4, none⟩ v4).setCell ⟨g, 5, none⟩ v5).setCell ⟨g, 6, none⟩ v6) g t #[v0, v1, v2, v3, v4, v5, v6] := by
  have := ((((((h.set_ 0 v0).set_ 1 v1).set_ 2 v2).set_ 3 v3).set_ 4 v4).set_ 5 v5).set_ 6 v6
  simp only [List.setIfInBounds_toArray, List.set_cons_zero, List.set_cons_succ] at this
  exact this
theorem below7 {w0 w : World} {g : Nat} (h : Below g w0 w) (v0 v1 v2 v3 v4 v5 v6 : Value) : Below g w0 (((((((w.setCell ⟨g, 0, none⟩ v0).setCell ⟨g, 1, none⟩ v1).setCell ⟨g, 2, none⟩ v2).setCell ⟨g, 3, none⟩ v3).setCell ⟨g, 4, none⟩ v4).setCell ⟨g, 5, none⟩ v5).setCell ⟨g, 6, none⟩ v6) :=
  ((((((h.setCell (p := ⟨g, 0, none⟩) (Nat.le_refl _) v0).setCell (p := ⟨g, 1, none⟩) (Nat.le_refl _) v1).setCell (p := ⟨g, 2, none⟩) (Nat.le_refl _) v2).setCell (p := ⟨g, 3, none⟩) (Nat.le_refl _) v3).setCell (p := ⟨g, 4, none⟩) (Nat.le_refl _) v4).setCell (p := ⟨g, 5, none⟩) (Nat.le_refl _) v5).setCell (p := ⟨g, 6, none⟩) (Nat.le_refl _) v6
theorem owns7 {α : Type} {f : α → Value} {e : TypeId} {base : Nat} {w : World} {s : Value} {n : Nat} {l : List α} {g : Nat} (h : Owns f e base w s n l) (hp : g < base) (v0 v1 v2 v3 v4 v5 v6 : Value) : Owns f e base (((((((w.setCell ⟨g, 0, none⟩ v0).setCell ⟨g, 1, none⟩ v1).setCell ⟨g, 2, none⟩ v2).setCell ⟨g, 3, none⟩ v3).setCell ⟨g, 4, none⟩ v4).setCell ⟨g, 5, none⟩ v5).setCell ⟨g, 6, none⟩ v6) s n l :=
  Owns.setCell (Owns.setCell (Owns.setCell (Owns.setCell (Owns.setCell (Owns.setCell (Owns.setCell h hp v0) hp v1) hp v2) hp v3) hp v4) hp v5) hp v6
/-- What a store into a record's cells asks. -/
theorem Cells.seven {w : World} {g : Nat} {t : TypeId} {a0 a1 a2 a3 a4 a5 a6 : Value} (h : Cells w g t #[a0, a1, a2, a3, a4, a5, a6]) :
    (w.cell? ⟨g, 0, none⟩ = some a0 ∧ w.cell? ⟨g, 1, none⟩ = some a1 ∧ w.cell? ⟨g, 2, none⟩ = some a2 ∧ w.cell? ⟨g, 3, none⟩ = some a3 ∧ w.cell? ⟨g, 4, none⟩ = some a4 ∧ w.cell? ⟨g, 5, none⟩ = some a5 ∧ w.cell? ⟨g, 6, none⟩ = some a6) ∧
    (w.frozen? ⟨g, 0, none⟩ = false ∧ w.frozen? ⟨g, 1, none⟩ = false ∧ w.frozen? ⟨g, 2, none⟩ = false ∧ w.frozen? ⟨g, 3, none⟩ = false ∧ w.frozen? ⟨g, 4, none⟩ = false ∧ w.frozen? ⟨g, 5, none⟩ = false ∧ w.frozen? ⟨g, 6, none⟩ = false) :=
  ⟨⟨h.cell 0, h.cell 1, h.cell 2, h.cell 3, h.cell 4, h.cell 5, h.cell 6⟩, h.frozen 0, h.frozen 1, h.frozen 2, h.frozen 3, h.frozen 4, h.frozen 5, h.frozen 6⟩

set_option maxRecDepth 100000 in
set_option maxHeartbeats 1600000 in
/-- The numbers may not be read. -/
theorem takeRec_nums {A : Option Addr} {n c : Nat} {x : List B8} {w : World} (h : Row cb w A n c x) (hn : n ≤ 1000000) {l : List Nat} {k1 e1 : Nat} (hi : ints 6 x = (l, k1, e1)) (he : e1 ≠ 0) :
    Calls Tryz.prog 27 #[.slice A n c] w (TookR w none) := by
  have HR := Lib.hid h
  have HI := fun w (h : Row cb w A n c x) => Lib.hid (takeNums_at h (Nat.le_trans hn (by omega)) 6 (by omega) hi)
  have L1 := Lib.hid ((Below.refl w.heap.size w).alloc (Nat.le_refl _) (.cells #[.int .i64 0, .int .i64 0, .int .i64 0, .int .i64 0, .int .i64 0, .int .i64 0, .slice none 0 0] 57))
  have C1 : Hid (Cells (w.alloc (.cells #[.int .i64 0, .int .i64 0, .int .i64 0, .int .i64 0, .int .i64 0, .int .i64 0, .slice none 0 0] 57)) w.heap.size 57 #[.int .i64 0, .int .i64 0, .int .i64 0, .int .i64 0, .int .i64 0, .int .i64 0, .slice none 0 0]) := heap_alloc_new w _
  obtain ⟨rfl, rfl, h3⟩ := ints_bad _ _ _ _ _ hi he
  clear h he hi
  rcases h3 with rfl | rfl
  all_goals
    go_enter Tryz.func27, Tryz.ntmps27
    go_wp2_with fail
    generalize w.alloc (.cells #[.int .i64 0, .int .i64 0, .int .i64 0, .int .i64 0, .int .i64 0, .int .i64 0, .slice none 0 0] 57) = w1 at *
    refine (HI w1 (HR.out.below L1.out)).out.mono ?_
    rintro e w2 ⟨X, j, d, rfl, hX, hb2⟩
    have L2 := Lib.hid (L1.out.trans (hb2.mono L1.out.size))
    have C2 := Lib.hid (C1.out.below hb2)
    obtain ⟨⟨c0, c1, c2, c3, c4, c5, c6⟩, f0, f1, f2, f3, f4, f5, f6⟩ := C2.out.seven
    clear hX hb2 C1 L1 HI
    go_wp2_with fail
    (try simp only [Exit.inBlock, Exit.then])
    refine bodyPost_ret_by (results_cell_row_tmp rfl _ _ w.heap.size _ _ _ _ rfl (C2.out.set7 _ _ _ _ _ _ _) Tryz.underlying57 rfl (by kernel_rfl)) rfl ?_
    exact ⟨rfl, below7 L2.out _ _ _ _ _ _ _⟩

set_option maxRecDepth 100000 in
set_option maxHeartbeats 1600000 in
/-- The vector may not be read, or something stands behind it. -/
theorem takeRec_vec {A : Option Addr} {n c : Nat} {x : List B8} {w : World} (h : Row cb w A n c x) (hn : n ≤ 1000000) {l : List Nat} {k1 : Nat} (hi : ints 6 x = (l, k1, 0)) {v : List B8} {k2 e2 : Nat} (hv : vec1 (x.drop k1) = (v, k2, e2)) (he : ¬ (e2 = 0 ∧ k1 + k2 = n)) :
    Calls Tryz.prog 27 #[.slice A n c] w (TookR w none) := by
  have HR := Lib.hid h
  have hlen := h.len
  have hcap := h.cap
  obtain ⟨a1, a2, a3, a4⟩ := ints_one _ _ _ _ hi
  have hk1 : k1 ≤ n := by omega
  have hsl := run_tail A n c k1 hk1
  have HI := fun w (h : Row cb w A n c x) => Lib.hid (takeNums_at h (Nat.le_trans hn (by omega)) 6 (by omega) hi)
  have HV := fun w (h : Row cb w (tailA A c k1) (n - k1) (c - k1) (x.drop k1)) => Lib.hid (takeVec_at h (by omega) hv)
  have L1 := Lib.hid ((Below.refl w.heap.size w).alloc (Nat.le_refl _) (.cells #[.int .i64 0, .int .i64 0, .int .i64 0, .int .i64 0, .int .i64 0, .int .i64 0, .slice none 0 0] 57))
  have C1 : Hid (Cells (w.alloc (.cells #[.int .i64 0, .int .i64 0, .int .i64 0, .int .i64 0, .int .i64 0, .int .i64 0, .slice none 0 0] 57)) w.heap.size 57 #[.int .i64 0, .int .i64 0, .int .i64 0, .int .i64 0, .int .i64 0, .int .i64 0, .slice none 0 0]) := heap_alloc_new w _
  have hcase : (e2 = 0 ∧ (((k1 : Int) + (k2 : Int)) != (n : Int)) = true ∧ k2 ≤ n) ∨ (k2 = 0 ∧ (e2 = 2 ∨ e2 = 20 ∨ e2 = 21)) := by
    by_cases h0 : e2 = 0
    · subst h0
      obtain ⟨v1, v2, v3, v4⟩ := vec1_one hv
      rw [List.length_drop] at v2
      refine .inl ⟨rfl, ?_, by omega⟩
      have : ¬ (k1 + k2 = n) := fun h => he ⟨rfl, h⟩
      simp; omega
    · obtain ⟨-, h2, h3⟩ := vec1_bad hv h0
      exact .inr ⟨h2, h3⟩
  clear h he hi hv a1 a2 a3 a4 hlen
  rcases hcase with ⟨rfl, hk, hk2⟩ | ⟨rfl, rfl | rfl | rfl⟩
  all_goals
    go_enter Tryz.func27, Tryz.ntmps27
    go_wp2_with fail
    generalize w.alloc (.cells #[.int .i64 0, .int .i64 0, .int .i64 0, .int .i64 0, .int .i64 0, .int .i64 0, .slice none 0 0] 57) = w1 at *
    refine (HI w1 (HR.out.below L1.out)).out.mono ?_
    rintro e w2 ⟨X, j, d, rfl, hX, hb2⟩
    have L2 := Lib.hid (L1.out.trans (hb2.mono L1.out.size))
    have C2 := Lib.hid (C1.out.below hb2)
    clear hX hb2 C1 L1 HI
    go_wp2_with fail
    refine (HV w2 ((HR.out.below L2.out).tail hk1)).out.mono ?_
    rintro e w3 ⟨Y, j3, d3, rfl, hY, hb3⟩
    have L3 := Lib.hid (L2.out.trans (hb3.mono L2.out.size))
    have C3 := Lib.hid (C2.out.below hb3)
    obtain ⟨⟨c0, c1, c2, c3, c4, c5, c6⟩, f0, f1, f2, f3, f4, f5, f6⟩ := Cells.seven C3.out
    clear hY hb3 C2 L2 HV
    go_wp2_with fail
    (try simp only [Exit.inBlock, Exit.then])
    refine bodyPost_ret_by (results_cell_row_tmp rfl _ _ w.heap.size _ _ _ _ rfl (Cells.set7 C3.out _ _ _ _ _ _ _) Tryz.underlying57 rfl (by kernel_rfl)) rfl ?_
    exact ⟨rfl, below7 L3.out _ _ _ _ _ _ _⟩

set_option maxRecDepth 100000 in
set_option maxHeartbeats 3200000 in
/-- All can be read: it is Check that tells. -/
theorem takeRec_read {A : Option Addr} {n c : Nat} {x : List B8} {w : World} (h : Row cb w A n c x) (hn : n ≤ 1000000) {p0 p1 p2 p3 p4 p5 : Nat} {k1 : Nat} (hi : ints 6 x = ([p0, p1, p2, p3, p4, p5], k1, 0)) {v : List B8} {k2 : Nat} (hv : vec1 (x.drop k1) = (v, k2, 0)) (he : k1 + k2 = n) :
    Calls Tryz.prog 27 #[.slice A n c] w (TookR w (if check ⟨p0, p1, p2, p3, p4, p5, v⟩ = 0 then some ⟨p0, p1, p2, p3, p4, p5, v⟩ else none)) := by
  have HR := Lib.hid h
  have hlen := h.len
  have hcap := h.cap
  obtain ⟨a1, a2, a3, a4⟩ := ints_one _ _ _ _ hi
  obtain ⟨v1, v2, v3, v4⟩ := vec1_one hv
  have hk1 : k1 ≤ n := by omega
  have hkn : (((k1 : Int) + (k2 : Int)) != (n : Int)) = false := by simp; omega
  have hk2 : k2 ≤ n := by omega
  have hsl := run_tail A n c k1 hk1
  have HI := fun w (h : Row cb w A n c x) => Lib.hid (takeNums_at h (Nat.le_trans hn (by omega)) 6 (by omega) hi)
  have HV := fun w (h : Row cb w (tailA A c k1) (n - k1) (c - k1) (x.drop k1)) => Lib.hid (takeVec_at h (by omega) hv)
  have hfit : fits (nums ⟨p0, p1, p2, p3, p4, p5, v⟩) := by
    intro z hz
    have b0 := a4 p0 (by simp)
    have b1 := a4 p1 (by simp)
    have b2 := a4 p2 (by simp)
    have b3 := a4 p3 (by simp)
    have b4 := a4 p4 (by simp)
    have b5 := a4 p5 (by simp)
    simp [nums] at hz
    omega
  have HC := fun (e : Nat) (hc : check ⟨p0, p1, p2, p3, p4, p5, v⟩ = e) D m d (hm : v.length = m) w => Lib.hid (check_at hc hfit D m d hm (by omega) w)
  have hce := Lib.hid (check_le ⟨p0, p1, p2, p3, p4, p5, v⟩)
  have L1 := Lib.hid ((Below.refl w.heap.size w).alloc (Nat.le_refl _) (.cells #[.int .i64 0, .int .i64 0, .int .i64 0, .int .i64 0, .int .i64 0, .int .i64 0, .slice none 0 0] 57))
  have C1 : Hid (Cells (w.alloc (.cells #[.int .i64 0, .int .i64 0, .int .i64 0, .int .i64 0, .int .i64 0, .int .i64 0, .slice none 0 0] 57)) w.heap.size 57 #[.int .i64 0, .int .i64 0, .int .i64 0, .int .i64 0, .int .i64 0, .int .i64 0, .slice none 0 0]) := heap_alloc_new w _
  clear h he hi hv a1 a2 a3 a4 hlen v1 v2 v4 hfit
  unfold recV at HC
  simp only at HC
  generalize ho : (if check ⟨(p0 : Int), p1, p2, p3, p4, p5, v⟩ = 0 then some (⟨p0, p1, p2, p3, p4, p5, v⟩ : Rc) else none) = res
  have HO := Lib.hid ho
  clear ho
  go_enter Tryz.func27, Tryz.ntmps27
  go_wp2_with fail
  generalize w.alloc (.cells #[.int .i64 0, .int .i64 0, .int .i64 0, .int .i64 0, .int .i64 0, .int .i64 0, .slice none 0 0] 57) = w1 at *
  refine (HI w1 (HR.out.below L1.out)).out.mono ?_
  rintro e w2 ⟨X, j, d, rfl, hX, hb2⟩
  have L2 := Lib.hid (L1.out.trans (hb2.mono L1.out.size))
  have C2 := Lib.hid (C1.out.below hb2)
  have S1 : Hid (w.heap.size < w1.heap.size) := Cells.lt C1.out
  have OX := Lib.hid hX
  clear hX C1 L1 HI
  go_wp2_with fail
  refine (HV w2 ((HR.out.below L2.out).tail hk1)).out.mono ?_
  rintro e w3 ⟨Y, j3, d3, rfl, hY, hb3⟩
  have L3 := Lib.hid (L2.out.trans (hb3.mono L2.out.size))
  have C3 := Lib.hid (C2.out.below hb3)
  have OX3 := OX.out.below hb3
  have OY := Lib.hid (hY.mono (base' := w.heap.size + 1) (by have := S1.out; have := hb2.size; omega))
  have hj : j = 6 := by have := OX3.len; simp [asInts] at this; exact this.symm
  subst hj
  obtain ⟨X', d', e5, hrow⟩ := OX3.row (by omega)
  obtain ⟨rfl, -, rfl⟩ : X = X' ∧ 6 = 6 ∧ d = d' := by simpa using e5
  obtain ⟨b, o, rfl, hbl, hc⟩ := hrow.at_ (by omega)
  have hbn : w.heap.size < b := by have := own_block OX3; have := S1.out; omega
  have r0 : w3.cell? ⟨b, o, none⟩ = some (.int .i64 (p0 : Int)) := hc 0 p0 rfl
  have r1 : w3.cell? ⟨b, o + 1, none⟩ = some (.int .i64 (p1 : Int)) := hc 1 p1 rfl
  have r2 : w3.cell? ⟨b, o + 2, none⟩ = some (.int .i64 (p2 : Int)) := hc 2 p2 rfl
  have r3 : w3.cell? ⟨b, o + 3, none⟩ = some (.int .i64 (p3 : Int)) := hc 3 p3 rfl
  have r4 : w3.cell? ⟨b, o + 4, none⟩ = some (.int .i64 (p4 : Int)) := hc 4 p4 rfl
  have r5 : w3.cell? ⟨b, o + 5, none⟩ = some (.int .i64 (p5 : Int)) := hc 5 p5 rfl
  have hS : Hid (∀ W : World, W.heap[b]? = w3.heap[b]? → W.cell? ⟨b, o, none⟩ = some (.int .i64 (p0 : Int)) ∧ W.cell? ⟨b, o + 1, none⟩ = some (.int .i64 (p1 : Int)) ∧ W.cell? ⟨b, o + 2, none⟩ = some (.int .i64 (p2 : Int)) ∧ W.cell? ⟨b, o + 3, none⟩ = some (.int .i64 (p3 : Int)) ∧ W.cell? ⟨b, o + 4, none⟩ = some (.int .i64 (p4 : Int)) ∧ W.cell? ⟨b, o + 5, none⟩ = some (.int .i64 (p5 : Int))) :=
    fun W hW => ⟨(World.cell?_of_block hW).trans r0, (World.cell?_of_block hW).trans r1, (World.cell?_of_block hW).trans r2, (World.cell?_of_block hW).trans r3, (World.cell?_of_block hW).trans r4, (World.cell?_of_block hW).trans r5⟩
  clear hY hb3 hb2 C2 L2 HV OX OX3 e5 hrow hc S1
  go_wp2_with fail
  refine wp_region_held_drew (S := fun W => W.cell? ⟨b, o, none⟩ = some (.int .i64 (p0 : Int)) ∧ W.cell? ⟨b, o + 1, none⟩ = some (.int .i64 (p1 : Int)) ∧ W.cell? ⟨b, o + 2, none⟩ = some (.int .i64 (p2 : Int)) ∧ W.cell? ⟨b, o + 3, none⟩ = some (.int .i64 (p3 : Int)) ∧ W.cell? ⟨b, o + 4, none⟩ = some (.int .i64 (p4 : Int)) ∧ W.cell? ⟨b, o + 5, none⟩ = some (.int .i64 (p5 : Int)))
    (by kernel_rfl) ⟨r0, r1, r2, r3, r4, r5⟩ (fun hHeld => ?_)
  refine Reg.tk 0 rfl ?_
  refine Reg.tk 1 rfl ?_
  refine Reg.tk 2 rfl ?_
  refine Reg.tk 3 rfl ?_
  refine Reg.tk 4 rfl ?_
  refine Reg.tk 5 rfl ?_
  refine Reg.tk 6 rfl ?_
  refine Reg.tk 7 rfl ?_
  refine Reg.tk 8 rfl ?_
  refine Reg.tk 9 rfl ?_
  refine Reg.tk 10 rfl ?_
  refine Reg.tk 11 rfl ?_
  refine Reg.tk 12 rfl ?_
  refine Reg.tk 13 rfl ?_
  refine Reg.tk 14 rfl ?_
  refine Reg.tk 15 rfl ?_
  refine Reg.tk 16 rfl ?_
  refine Reg.tk 17 rfl ?_
  refine Reg.tk 18 rfl ?_
  refine Reg.tk 19 rfl ?_
  refine Reg.step 20 rfl (by kernel_rfl) (by rfl) (fun K hK => ?_)
  go_simp
  refine hK.out _ _ (hS.out _ (Below.heap_alloc w3 _ b hbl)) (fun hHeld3 => ?_)
  clear hK K hHeld
  (try simp only [Act.put, List.setIfInBounds_toArray, List.set_cons_zero, List.set_cons_succ])
  refine Reg.step 21 rfl (by kernel_rfl) (by rfl) (fun K hK => ?_)
  go_simp
  refine hK.out _ _ (hS.out _ (Below.heap_alloc w3 _ b hbl)) (fun hHeld4 => ?_)
  clear hK K hHeld3
  refine wpAnyH_done (by kernel_rfl) ?_ _
  clear hHeld4 hS r0 r1 r2 r3 r4 r5 hbl hbn hsl
  have hjv : v.length = j3 := OY.out.len
  have L4 := Lib.hid ((L3.out.alloc L3.out.size (.cells #[.int .i64 p0, .int .i64 p1, .int .i64 p2, .int .i64 p3, .int .i64 p4, .int .i64 p5, .slice Y j3 d3] 57)).drew)
  have C4 : Hid (Cells (w3.alloc (.cells #[.int .i64 p0, .int .i64 p1, .int .i64 p2, .int .i64 p3, .int .i64 p4, .int .i64 p5, .slice Y j3 d3] 57)).drew w.heap.size 57 #[.int .i64 0, .int .i64 0, .int .i64 0, .int .i64 0, .int .i64 0, .int .i64 0, .slice none 0 0]) := Cells.below C3.out ((Below.refl _ w3).alloc (Nat.le_refl _) _).drew
  have O4 : Hid (Owns cb 5 (w.heap.size + 1) (w3.alloc (.cells #[.int .i64 p0, .int .i64 p1, .int .i64 p2, .int .i64 p3, .int .i64 p4, .int .i64 p5, .slice Y j3 d3] 57)).drew (.slice Y j3 d3) j3 v) := (OY.out.alloc _).drew
  have B4 : Hid (Box (w3.alloc (.cells #[.int .i64 p0, .int .i64 p1, .int .i64 p2, .int .i64 p3, .int .i64 p4, .int .i64 p5, .slice Y j3 d3] 57)).drew w3.heap.size ⟨p0, p1, p2, p3, p4, p5, v⟩ Y j3 d3) := heap_alloc_new w3 _
  generalize (w3.alloc (.cells #[.int .i64 p0, .int .i64 p1, .int .i64 p2, .int .i64 p3, .int .i64 p4, .int .i64 p5, .slice Y j3 d3] 57)).drew = w4 at *
  have b4 := B4.out.cells
  simp only at b4
  obtain ⟨b0, b1, b2, b3, b4, b5, b6⟩ := b4
  clear L3 C3 OY
  rcases hce.out with hc | hc | hc
  · have hres : Hid (res = some ⟨p0, p1, p2, p3, p4, p5, v⟩) := by show _ = _; rw [← HO.out, if_pos hc]
    have HC0 := fun w => HC 0 hc Y j3 d3 hjv w
    clear HC HO hce hc
    go_wp2_with fail
    refine (HC0 w4).out.mono ?_
    rintro e w5 ⟨rfl, hb5⟩
    have L5 := Lib.hid (L4.out.trans (hb5.mono L4.out.size))
    have C5 := Lib.hid (Cells.below C4.out hb5)
    have O5 := Lib.hid (O4.out.below hb5)
    have e5 := (Box.below B4.out hb5).cells
    simp only at e5
    obtain ⟨d0, d1, d2, d3', d4, d5, d6⟩ := e5
    obtain ⟨⟨c0, c1, c2, c3, c4, c5, c6⟩, f0, f1, f2, f3, f4, f5, f6⟩ := Cells.seven C5.out
    clear hb5 L4 C4 O4 B4 b0 b1 b2 b3 b4 b5 b6 HC0
    go_wp2_with fail
    (try simp only [Exit.inBlock, Exit.then])
    refine bodyPost_ret_by (results_cell_row_tmp rfl _ _ w.heap.size _ _ _ _ rfl (Cells.set7 C5.out _ _ _ _ _ _ _) Tryz.underlying57 rfl (by kernel_rfl)) rfl ?_
    rw [hres.out]
    exact ⟨⟨Y, j3, d3, rfl, (owns7 O5.out (Nat.lt_succ_self _) _ _ _ _ _ _ _).mono (Nat.le_succ _)⟩, below7 L5.out _ _ _ _ _ _ _⟩
  all_goals
    have hres : Hid (res = none) := by show _ = _; rw [← HO.out, if_neg (by rw [hc]; decide)]
    have HC0 := fun w => HC _ hc Y j3 d3 hjv w
    clear HC HO hce hc
    go_wp2_with fail
    refine (HC0 w4).out.mono ?_
    rintro e w5 ⟨rfl, hb5⟩
    have L5 := Lib.hid (L4.out.trans (hb5.mono L4.out.size))
    have C5 := Lib.hid (Cells.below C4.out hb5)
    obtain ⟨⟨c0, c1, c2, c3, c4, c5, c6⟩, f0, f1, f2, f3, f4, f5, f6⟩ := Cells.seven C5.out
    clear hb5 L4 C4 O4 B4 b0 b1 b2 b3 b4 b5 b6 HC0
    go_wp2_with fail
    (try simp only [Exit.inBlock, Exit.then])
    refine bodyPost_ret_by (results_cell_row_tmp rfl _ _ w.heap.size _ _ _ _ rfl (Cells.set7 C5.out _ _ _ _ _ _ _) Tryz.underlying57 rfl (by kernel_rfl)) rfl ?_
    rw [hres.out]
    exact ⟨rfl, below7 L5.out _ _ _ _ _ _ _⟩

theorem takeRec_any {A : Option Addr} {n c : Nat} {x : List B8} {w : World} (h : Row cb w A n c x) (hn : n ≤ 1000000) :
    Calls Tryz.prog 27 #[.slice A n c] w (TookR w (takeRec x)) := by
  have hlen := h.len
  unfold takeRec
  rcases hi : ints 6 x with ⟨l, k1, e1⟩
  simp only
  by_cases he : e1 = 0
  · subst he
    rcases hv : vec1 (x.drop k1) with ⟨v, k2, e2⟩
    simp only [if_pos]
    rw [hlen]
    by_cases hc : e2 = 0 ∧ k1 + k2 = n
    · rw [if_pos hc]
      obtain ⟨rfl, hk⟩ := hc
      obtain ⟨a1, -⟩ := ints_one _ _ _ _ hi
      match l, a1 with
      | [p0, p1, p2, p3, p4, p5], _ => exact takeRec_read h hn hi hv hk
    · rw [if_neg hc]
      exact takeRec_vec h hn hi hv hc
  · rw [if_neg he]
    exact takeRec_nums h hn hi he
end Seg
end Go.Proofs.YtedandbkdjmfhaaGreat
/-
  ROWS OF RECORDS IN MEMORY: what is appended, and which blocks an append leaves alone.
-/
namespace Go.Proofs.YtedandbkdjmfhaaGreat
open Go.RowKit Mem
namespace Seg
open Wire

/-- Only blocks of that element type may have changed. -/
structure Oth (e : TypeId) (w w' : World) : Prop where
  size : w.heap.size ≤ w'.heap.size
  block : ∀ k, k < w.heap.size → w'.heap[k]? = w.heap[k]? ∨ ∃ cur z, w.heap[k]? = some (.cells cur e z)
theorem Oth.owns {α : Type} {f : α → Value} {e e' : TypeId} {base : Nat} {w w' : World} {s : Value} {n : Nat} {l : List α} (h : Owns f e' base w s n l) (ho : Oth e w w') (hne : e' ≠ e) : Owns f e' base w' s n l := by
  refine ⟨h.1, ?_⟩
  rcases h.2 with hn | ⟨q, cap, cur, e1, hbg, hq, r⟩
  · exact .inl hn
  · refine .inr ⟨q, cap, cur, e1, hbg, ?_, r⟩
    rcases ho.block q (Array.getElem?_eq_some_iff.1 hq).1 with h1 | ⟨cur', z, h1⟩
    · exact h1.trans hq
    · rw [hq] at h1
      injection h1 with h1
      injection h1 with _ h2
      exact absurd h2 hne

/-- append onto a row of one's own, elements of any number of cells. -/
theorem wpList_append_wide {P : Program} {t e : TypeId} (ht : P.underlying t = some (.slice e)) {z : Value} {size bytes : Nat} (hinfo : (P.info? e).map (fun i => (i.zero, i.size, i.bytes)) = some (some z, size, bytes)) (hzs : z.cells.size = size) (hsz : 0 < size)
    {w : World} {ops : Array Oper} {rest : List Oper} {o : Oper} {a : Act} {Q : Exit → Act → World → Prop} (hgd : o.guard = none) (s x : Operand)
    (ho : o.op = .call { callee := .builtin .append, args := #[s, x], argTypes := #[t, t] }) (hty : o.type = t)
    (base : Nat) (sv : Value) (n : Nat) (l : List Value) (hs : a.eval s = sv) (hown : w.ownsRow base e size sv n l) (A : Addr) (m c : Nat) (l' : List Value) (hx : a.eval x = .slice (some A) m c) (hl : l'.length = m * size)
    (hc : ∀ j u, l'[j]? = some u → w.cell? (A.add j) = some u) (h1 : ∀ u ∈ l', u.oneCell' = true)
    (hbig : n + m ≤ 140737488351232) (hby : (n + m) * bytes ≤ 140737488355328) (hbase : base ≤ w.heap.size)
    (hk : ∀ A' c' w', w'.ownsRow base e size (.slice A' (n + m) c') (n + m) (l ++ l') → Below base w w' → Oth e w w' → wpList P ops Q rest (a.put o.dst (.slice A' (n + m) c')) w') :
    wpList P ops Q (o :: rest) a w := by
  obtain ⟨i, hi, hz0, hz1, hz2⟩ := info_parts hinfo
  refine wpList_plain hgd fun K hK => ?_
  obtain ⟨s', w', hrun, h2, h3, -, -⟩ := run_append_own_at (P := P) w base t t e i _ size bytes ht hi hz0 hz1 hz2 hzs hsz sv n _ hown A m c l' hl hc h1 (by unfold maxLen; omega) hby hbase
  have hsl : ∃ A' c', s' = .slice A' (n + m) c' := by
    rcases h2.2 with ⟨rfl, h0⟩ | ⟨q, cap, cur, rfl, -⟩
    · exact ⟨none, 0, by rw [h0]⟩
    · exact ⟨_, _, rfl⟩
  obtain ⟨A', c', rfl⟩ := hsl
  have hb : Below base w w' := (Below.refl base w).grown h3 hbase (fun k hk => (World.ownsRow.lt hown k hk).1)
  have hoth : Oth e w w' := by
    refine ⟨h3.size, fun k hk => ?_⟩
    by_cases hkk : some k = sv.ownBlock
    · rcases hown.2 with ⟨rfl, -⟩ | ⟨q, cap, cur, rfl, -, hq, -⟩
      · cases hkk
      · have : k = q := by simpa [Value.ownBlock] using hkk
        subst this
        exact .inr ⟨_, _, hq⟩
    · exact .inl (h3.block k hk hkk)
  unfold Oper.wp execOp
  simp only [ho, hty, resolve, invoke, builtin, Sem.run_bind, Sem.run_pure, Result.andThen_ok, List.map_toArray, List.map_cons, List.map_nil, hs, hx, hrun]
  exact hK _ _ (hk A' c' w' h2 hb hoth)

/-- A record as memory has it: where its bytes lie, and how many there could be. -/
structure Rv where
  r : Rc
  D : Option Addr
  c : Nat
def cellsOf (x : Rv) : List Value := [.int .i64 x.r.kind, .int .i64 x.r.lba, .int .i64 x.r.n, .int .i64 x.r.ver, .int .i64 x.r.zone, .int .i64 x.r.off, .slice x.D x.r.data.length x.c]
theorem cellsOf_len (x : Rv) : (cellsOf x).length = 7 := rfl
/-- A row of records of one's own. -/
def OwnsR (base : Nat) (w : World) (s : Value) (n : Nat) (xs : List Rv) : Prop := w.ownsRow base 57 7 s n (xs.flatMap cellsOf) ∧ xs.length = n
theorem flat_len (xs : List Rv) : (xs.flatMap cellsOf).length = xs.length * 7 := by
  induction xs with
  | nil => rfl
  | cons x xs ih => rw [List.flatMap_cons, List.length_append, ih, cellsOf_len, List.length_cons]; omega
theorem flat_get (xs : List Rv) (i j : Nat) (x : Rv) (v : Value) (hx : xs[i]? = some x) (hv : (cellsOf x)[j]? = some v) : (xs.flatMap cellsOf)[i * 7 + j]? = some v := by
  induction xs generalizing i with
  | nil => simp at hx
  | cons y xs ih =>
    have hj : j < 7 := (List.getElem?_eq_some_iff.1 hv).1
    rw [List.flatMap_cons]
    rcases i with _ | i
    · simp only [List.getElem?_cons_zero, Option.some.injEq] at hx
      subst hx
      rw [List.getElem?_append_left (by rw [cellsOf_len]; omega)]
      simpa using hv
    · rw [List.getElem?_append_right (by rw [cellsOf_len]; omega), cellsOf_len]
      rw [show (i + 1) * 7 + j - 7 = i * 7 + j by omega]
      exact ih i (by simpa using hx)
theorem OwnsR.nil (base : Nat) (w : World) : OwnsR base w (.slice none 0 0) 0 [] := ⟨World.ownsRow_nil _ _ _ _, rfl⟩
theorem OwnsR.keepG {base g : Nat} {w w' : World} {s : Value} {n : Nat} {xs : List Rv} (h : OwnsR base w s n xs) (hg : g < base) (k : Crc.Keep g w w') : OwnsR base w' s n xs := by
  refine ⟨⟨h.1.1, ?_⟩, h.2⟩
  rcases h.1.2 with hn | ⟨q, cap, cur, e', hbg, hq, r⟩
  · exact .inl hn
  · exact .inr ⟨q, cap, cur, e', hbg, (Keep.block k (Array.getElem?_eq_some_iff.1 hq).1 (by omega)).trans hq, r⟩
theorem OwnsR.below {base : Nat} {w w' : World} {s : Value} {n : Nat} {xs : List Rv} (h : OwnsR base w s n xs) (hb : Below w.heap.size w w') : OwnsR base w' s n xs := by
  refine ⟨⟨h.1.1, ?_⟩, h.2⟩
  rcases h.1.2 with hn | ⟨q, cap, cur, e', hbg, hq, r⟩
  · exact .inl hn
  · exact .inr ⟨q, cap, cur, e', hbg, (hb.block _ (Array.getElem?_eq_some_iff.1 hq).1).trans hq, r⟩
theorem OwnsR.oth {base : Nat} {e : TypeId} {w w' : World} {s : Value} {n : Nat} {xs : List Rv} (h : OwnsR base w s n xs) (ho : Oth e w w') (hne : 57 ≠ e) : OwnsR base w' s n xs := by
  refine ⟨⟨h.1.1, ?_⟩, h.2⟩
  rcases h.1.2 with hn | ⟨q, cap, cur, e1, hbg, hq, r⟩
  · exact .inl hn
  · refine .inr ⟨q, cap, cur, e1, hbg, ?_, r⟩
    rcases ho.block q (Array.getElem?_eq_some_iff.1 hq).1 with h1 | ⟨cur', z, h1⟩
    · exact h1.trans hq
    · rw [hq] at h1
      injection h1 with h1
      injection h1 with _ h2
      exact absurd h2 hne
theorem OwnsR.setCell {base : Nat} {w : World} {s : Value} {n : Nat} {xs : List Rv} (h : OwnsR base w s n xs) {p : Addr} (hp : p.block < base) (v : Value) : OwnsR base (w.setCell p v) s n xs := by
  refine ⟨⟨h.1.1, ?_⟩, h.2⟩
  rcases h.1.2 with hn | ⟨q, cap, cur, e', hbg, hq, r⟩
  · exact .inl hn
  · exact .inr ⟨q, cap, cur, e', hbg, (Below.heap_setCell _ _ _ _ (by omega)).trans hq, r⟩
theorem OwnsR.mono {base base' : Nat} {w : World} {s : Value} {n : Nat} {xs : List Rv} (h : OwnsR base w s n xs) (hb : base' ≤ base) : OwnsR base' w s n xs := by
  refine ⟨⟨h.1.1, ?_⟩, h.2⟩
  rcases h.1.2 with hn | ⟨q, cap, cur, e', hbg, r⟩
  · exact .inl hn
  · exact .inr ⟨q, cap, cur, e', Nat.le_trans hb hbg, r⟩

/-- The slice reads as these records, and their bytes lie where they say. -/
structure RowR (w : World) (A : Option Addr) (n c : Nat) (xs : List Rv) : Prop where
  len : xs.length = n
  cap : n ≤ c
  big : n ≤ 1954687338211
  at_ : 0 < n → ∃ b o, A = some ⟨b, o, none⟩ ∧ b < w.heap.size ∧ ∀ i x, xs[i]? = some x → ∀ j v, (cellsOf x)[j]? = some v → w.cell? ⟨b, o + (i * 7 + j), none⟩ = some v
  data : ∀ x ∈ xs, Row cb w x.D x.r.data.length x.c x.r.data
theorem RowR.below {w w' : World} {A : Option Addr} {n c : Nat} {xs : List Rv} (h : RowR w A n c xs) (hb : Below w.heap.size w w') : RowR w' A n c xs := by
  refine ⟨h.len, h.cap, h.big, fun h0 => ?_, fun x hx => (h.data x hx).below hb⟩
  obtain ⟨b, o, e, hlt, hc⟩ := h.at_ h0
  refine ⟨b, o, e, Nat.lt_of_lt_of_le hlt hb.size, fun i x hi j v hv => ?_⟩
  rw [World.cell?_of_block (w := w) (hb.block b hlt)]
  exact hc i x hi j v hv
theorem RowR.get {w : World} {A : Option Addr} {n c : Nat} {xs : List Rv} (h : RowR w A n c xs) {i : Nat} (hi : i < n) : ∃ x, xs[i]? = some x := ⟨_, List.getElem?_eq_getElem (by have := h.len; omega)⟩
theorem OwnsR.row {base : Nat} {w : World} {s : Value} {n : Nat} {xs : List Rv} (h : OwnsR base w s n xs) (hn : n ≤ 1954687338211) (hd : ∀ x ∈ xs, Row cb w x.D x.r.data.length x.c x.r.data) : ∃ A c, s = .slice A n c ∧ RowR w A n c xs := by
  rcases h.1.2 with ⟨rfl, h0⟩ | ⟨g, cap, cur, rfl, _, hg, hnc, hcm, hs, ht⟩
  · subst h0
    exact ⟨none, 0, rfl, h.2, by omega, by omega, fun h => absurd h (by omega), hd⟩
  · refine ⟨some ⟨g, 0, none⟩, cap, rfl, h.2, hnc, hn, fun _ => ⟨g, 0, rfl, (Array.getElem?_eq_some_iff.1 hg).1, fun i x hx j v hv => ?_⟩, hd⟩
    have := World.ownsRow.cells (g := g) (h.1 : w.ownsRow base _ 7 _ n (xs.flatMap cellsOf)) rfl (i * 7 + j) v (flat_get xs i j x v hx hv)
    simpa [add_none] using this
end Seg
end Go.Proofs.YtedandbkdjmfhaaGreat
