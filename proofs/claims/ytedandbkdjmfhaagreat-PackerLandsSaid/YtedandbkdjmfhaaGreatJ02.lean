/-
  SEVERAL TEXTS IN ONE FILE: ZonApp, ZonMore, ZonTorn, ZonRefA.
-/
import Derived.Test.YtedandbkdjmfhaaGreatJ01
set_option linter.unusedSimpArgs false
set_option linter.unusedVariables false
/-
  A WALK OVER zone.Append: bytes appended, or why not.
-/
namespace Go.Proofs.YtedandbkdjmfhaaGreat
open Go.RowKit Mem
namespace Zon

/-- A zone, whose bytes are the call's own, and more, as a call gave them. -/
def GaveZ (w : World) (z : Zn) (rest : List Value) (en : Ending) (w' : World) : Prop :=
  ∃ D c, en = .returned (.tuple (zv z D c :: rest).toArray) ∧ Owns cb 5 w.heap.size w' (.slice D z.data.length c) z.data.length z.data ∧ Below w.heap.size w w'
theorem GaveZ.nil {w w' : World} {st fc : Int} {rest : List Value} (hb : Below w.heap.size w w') : GaveZ w ⟨st, fc, []⟩ rest (.returned (.tuple (zv ⟨st, fc, []⟩ none 0 :: rest).toArray)) w' := ⟨none, 0, rfl, Owns.nil _ _ _ _, hb⟩

theorem Box.store {w : World} {g : Nat} {z : Zn} {D : Option Addr} {c : Nat} (h : Box w g z D c) (z' : Zn) (D' : Option Addr) (c' : Nat) :
    Box (((w.setCell ⟨g, 0, none⟩ (.int .i64 z'.st)).setCell ⟨g, 1, none⟩ (.int .i64 z'.fc)).setCell ⟨g, 2, none⟩ (.slice D' z'.data.length c')) g z' D' c' :=
  Cells.set_ (Cells.set_ (Cells.set_ h 0 (.int .i64 z'.st)) 1 (.int .i64 z'.fc)) 2 (.slice D' z'.data.length c')
theorem Box.other3 {w : World} {g g' : Nat} {z : Zn} {D : Option Addr} {c : Nat} (h : Box w g z D c) (hg : g' ≠ g) (x y v : Value) :
    Box (((w.setCell ⟨g', 0, none⟩ x).setCell ⟨g', 1, none⟩ y).setCell ⟨g', 2, none⟩ v) g z D c := Cells.set_other (Cells.set_other (Cells.set_other h hg 0 x) hg 1 y) hg 2 v
theorem below3 {B g : Nat} {a w : World} (h : Below B a w) (hg : B ≤ g) (x y v : Value) : Below B a (((w.setCell ⟨g, 0, none⟩ x).setCell ⟨g, 1, none⟩ y).setCell ⟨g, 2, none⟩ v) :=
  ((h.setCell (p := ⟨g, 0, none⟩) hg x).setCell (p := ⟨g, 1, none⟩) hg y).setCell (p := ⟨g, 2, none⟩) hg v
theorem Owns.other {α : Type} {f : α → Value} {e : TypeId} {base : Nat} {w : World} {s : Value} {n : Nat} {l : List α} (h : Owns f e base w s n l) {p : Addr} (hp : p.block < base) (v : Value) : Owns f e base (w.setCell p v) s n l :=
  ownsRow_setCell_below h hp v
theorem Owns.other3 {α : Type} {f : α → Value} {e : TypeId} {base g : Nat} {w : World} {s : Value} {n : Nat} {l : List α} (h : Owns f e base w s n l) (hg : g < base) (x y v : Value) :
    Owns f e base (((w.setCell ⟨g, 0, none⟩ x).setCell ⟨g, 1, none⟩ y).setCell ⟨g, 2, none⟩ v) s n l :=
  Owns.other (Owns.other (Owns.other h (p := ⟨g, 0, none⟩) hg x) (p := ⟨g, 1, none⟩) hg y) (p := ⟨g, 2, none⟩) hg v

/-- Two slices of bytes in one block. -/
theorem row_two {w : World} {A B : Option Addr} {n c m d : Nat} {a b : List B8} {t : TypeId} {q : Nat} (hq : q = w.heap.size) :
    Row Piece.val (w.alloc (.cells #[.slice A n c, .slice B m d] t)) (some ⟨q, 0, none⟩) 2 2 [⟨A, n, c, a⟩, ⟨B, m, d, b⟩] := by
  subst hq
  refine ⟨rfl, by omega, by omega, fun _ => ⟨_, _, rfl, by simp, fun i x hi => ?_⟩⟩
  rw [cell_of_row _ w.heap.size (0 + i) _ _ (0, 0) (heap_alloc_new w _)]
  match i, hi with
  | 0, hi => simp at hi; subst hi; rfl
  | 1, hi => simp at hi; subst hi; rfl

set_option maxRecDepth 100000 in
set_option maxHeartbeats 1600000 in
theorem append_bad {z : Zn} {D : Option Addr} {c : Nat} {most : Int} {B : Option Addr} {n d : Nat} {w : World} (hn : n ≤ 140737488351232) {er : Int} (he : appErr z most n = er) (h0 : er ≠ 0) :
    Calls Tryz.prog 69 #[zv z D c, .int .i64 most, .slice B n d] w (GaveZ w nilZ [.int .i64 0, .int .i64 er]) := by
  have HE := fun w => Lib.hid (appendError_any z D c most B n d hn w)
  rw [he] at HE
  have L1 := Lib.hid (((Below.refl w.heap.size w).alloc (Nat.le_refl _) (.cells #[.int .i64 z.st, .int .i64 z.fc, .slice D z.data.length c] 54)).alloc (by simp) (.cells #[.int .i64 0, .int .i64 0, .slice none 0 0] 54))
  have B2 : Hid (Box ((w.alloc (.cells #[.int .i64 z.st, .int .i64 z.fc, .slice D z.data.length c] 54)).alloc (.cells #[.int .i64 0, .int .i64 0, .slice none 0 0] 54)) (w.heap.size + 1) nilZ none 0) := heap_alloc2_new w _ _
  have hb : (er != 0) = true := bne_iff_ne.2 h0
  clear he h0
  unfold zv at *
  go_enter Tryz.func69, Tryz.ntmps69
  go_wp2_with fail
  generalize (w.alloc (.cells #[.int .i64 z.st, .int .i64 z.fc, .slice D z.data.length c] 54)).alloc (.cells #[.int .i64 0, .int .i64 0, .slice none 0 0] 54) = w1 at *
  refine (HE w1).out.mono ?_
  rintro e w2 ⟨rfl, hb2⟩
  have L2 := Lib.hid (L1.out.trans (hb2.mono L1.out.size))
  have B3 := Lib.hid (B2.out.below hb2)
  obtain ⟨c0, c1, c2⟩ := B3.out.cells
  obtain ⟨f0, f1, f2⟩ := B3.out.frozen
  clear hb2
  go_wp2_with fail
  refine bodyPost_ret_by (results_zone_tmp2 rfl _ _ (w.heap.size + 1) _ _ _ _ rfl (Box.store B3.out nilZ none 0) Tryz.underlying54 rfl (by kernel_rfl)) rfl ?_
  exact GaveZ.nil (below3 L2.out (by omega) _ _ _)

set_option maxRecDepth 100000 in
set_option maxHeartbeats 1600000 in
theorem append_ok {z : Zn} {D : Option Addr} {c : Nat} {most : Int} {b : List B8} {B : Option Addr} {d : Nat} {w : World} (h1 : Row cb w D z.data.length c z.data) (h2 : Row cb w B b.length d b) (he : appErr z most b.length = 0) :
    Calls Tryz.prog 69 #[zv z D c, .int .i64 most, .slice B b.length d] w (GaveZ w (appZ z most b) [.int .i64 z.len, .int .i64 0]) := by
  have HE := fun w => Lib.hid (appendError_any z D c most B b.length d h2.big w)
  rw [he] at HE
  have HS := fun w => stateBehind_any z.st (z.len + b.length) most w
  obtain ⟨ho, -, -, hle⟩ := appErr_zero he
  obtain ⟨p1, p2, -, -, -⟩ := ok_parts ho
  have H1 := Lib.hid h1
  have H2 := Lib.hid h2
  have hsum : z.data.length + b.length ≤ 65536 := by unfold Zn.len at hle; omega
  have HCC := fun (w : World) (q : Nat) (hq : q = w.heap.size) (h1 : Row cb w D z.data.length c z.data) (h2 : Row cb w B b.length d b) => Lib.hid (concat_any (row_two (A := D) (B := B) (n := z.data.length) (c := c) (m := b.length) (d := d) (a := z.data) (b := b) (t := 32) hq)
    (by intro p hp; simp at hp; rcases hp with rfl | rfl; exact h1.alloc _; exact h2.alloc _) (by simp [total]; omega))
  have hj : joined [⟨D, z.data.length, c, z.data⟩, ⟨B, b.length, d, b⟩] = z.data ++ b := by simp [joined]
  rw [hj] at HCC
  obtain ⟨y, hy⟩ : ∃ y, z.data ++ b = y := ⟨_, rfl⟩
  have hap : appZ z most b = ⟨stB z.st (z.len + b.length) most, z.fc, y⟩ := by unfold appZ; rw [hy]
  rw [hy] at HCC
  rw [hap]
  have L1 := Lib.hid (((Below.refl w.heap.size w).alloc (Nat.le_refl _) (.cells #[.int .i64 z.st, .int .i64 z.fc, .slice D z.data.length c] 54)).alloc (by simp) (.cells #[.int .i64 0, .int .i64 0, .slice none 0 0] 54))
  have B1 : Hid (Box ((w.alloc (.cells #[.int .i64 z.st, .int .i64 z.fc, .slice D z.data.length c] 54)).alloc (.cells #[.int .i64 0, .int .i64 0, .slice none 0 0] 54)) w.heap.size z D c) := heap_alloc2_old w _ _
  have B2 : Hid (Box ((w.alloc (.cells #[.int .i64 z.st, .int .i64 z.fc, .slice D z.data.length c] 54)).alloc (.cells #[.int .i64 0, .int .i64 0, .slice none 0 0] 54)) (w.heap.size + 1) nilZ none 0) := heap_alloc2_new w _ _
  have hwr : IntKind.i64.wrap ((z.data.length : Int) + (b.length : Int)) = (z.data.length : Int) + (b.length : Int) := by rw [IntKind.wrap_i64]; omega
  clear he ho p1 p2 hle h1 h2 hj hap hy
  unfold zv Zn.len at *
  go_enter Tryz.func69, Tryz.ntmps69
  go_wp2_with fail
  generalize (w.alloc (.cells #[.int .i64 z.st, .int .i64 z.fc, .slice D z.data.length c] 54)).alloc (.cells #[.int .i64 0, .int .i64 0, .slice none 0 0] 54) = w1 at *
  refine (HE w1).out.mono ?_
  rintro e w2 ⟨rfl, hb2⟩
  have L2 := Lib.hid (L1.out.trans (hb2.mono L1.out.size))
  have A2 := Lib.hid (B1.out.below hb2)
  have B3 := Lib.hid (B2.out.below hb2)
  have hc := A2.out.cells
  obtain ⟨c0, c1, c2⟩ := A2.out.cells
  clear hb2 B1 B2 L1 HE
  go_wp2_with fail
  clear c0 c1 c2
  have A3 : Hid (Box w2.drew w.heap.size z D c) := A2
  have N3 : Hid (Box w2.drew (w.heap.size + 1) nilZ none 0) := B3
  have L3 : Hid (Below w.heap.size w w2.drew) := L2.out.trans ((Below.refl _ w2).drew.mono L2.out.size)
  clear A2 B3 L2
  have hcell := fun W (h : Box W w.heap.size z D c) => h.cells
  refine wp_region_held_drew (S := fun W => W.cell? ⟨w.heap.size, 0, none⟩ = some (.int .i64 z.st) ∧ W.cell? ⟨w.heap.size, 1, none⟩ = some (.int .i64 z.fc) ∧ W.cell? ⟨w.heap.size, 2, none⟩ = some (.slice D z.data.length c))
    (by kernel_rfl) (hcell w2.drew A3.out) (fun hHeld => ?_)
  refine Reg.tk 0 rfl ?_
  refine Reg.tk 1 rfl ?_
  refine Reg.tk 2 rfl ?_
  refine Reg.tk 3 rfl ?_
  refine Reg.tk 4 rfl ?_
  refine Reg.tk 5 rfl ?_
  refine Reg.tk 6 rfl ?_
  refine Reg.tk 8 rfl ?_
  refine Reg.tk 9 rfl ?_
  refine Reg.tk 10 rfl ?_
  refine Reg.tk 11 rfl ?_
  refine Reg.tk 12 rfl ?_
  refine Reg.tk 16 rfl ?_
  refine Reg.step2 7 13 rfl rfl (by kernel_rfl) (by rfl) (by rfl) (fun K hK => ?_) (fun K hK => ?_)
  · go_simp
    refine (HS _).mono ?_
    rintro e wx ⟨rfl, hwx⟩
    subst hwx
    refine hK.out _ _ (hcell _ A3.out) (fun hHeld2 => ?_)
    clear hK K
    (try simp only [Act.put, List.setIfInBounds_toArray, List.set_cons_zero, List.set_cons_succ])
    refine Reg.step 13 rfl (by kernel_rfl) (by rfl) (fun K hK => ?_)
    go_simp
    have A4 := Lib.hid (A3.out.alloc (.cells #[.slice D z.data.length c, .slice B b.length d] 32))
    refine hK.out _ _ (hcell _ A4.out) (fun hHeld3 => ?_)
    clear hK K
    (try simp only [Act.put, List.setIfInBounds_toArray, List.set_cons_zero, List.set_cons_succ])
    refine Reg.step 14 rfl (by kernel_rfl) (by rfl) (fun K hK => ?_)
    go_simp
    refine (HCC w2.drew _ rfl (H1.out.below L3.out) (H2.out.below L3.out)).out.mono ?_
    rintro e w5 ⟨X, k, q, rfl, hX, hb5⟩
    obtain rfl : k = y.length := hX.len.symm
    have b35 : Below w2.drew.heap.size w2.drew w5 := ((Below.refl _ w2.drew).alloc (Nat.le_refl _) _).trans (hb5.mono (by simp))
    have A5 := Lib.hid (A3.out.below b35)
    have N5 := Lib.hid (N3.out.below b35)
    have L5 := Lib.hid (L3.out.trans (b35.mono L3.out.size))
    have O5 := Lib.hid (hX.mono (base' := w2.drew.heap.size + 1) (by simp))
    clear b35 hX hb5
    refine hK.out _ _ (hcell _ A5.out) (fun hHeld4 => ?_)
    clear hK K
    (try simp only [Act.put, List.setIfInBounds_toArray, List.set_cons_zero, List.set_cons_succ])
    refine Reg.tk 15 rfl ?_
    refine Reg.step 17 rfl (by kernel_rfl) (by rfl) (fun K hK => ?_)
    obtain ⟨f0, f1, f2⟩ := N5.out.frozen
    obtain ⟨n0, n1, n2⟩ := N5.out.cells
    go_simp
    refine hK.out _ _ (hcell _ (A5.out.other3 (by omega) _ _ _)) (fun hHeld5 => ?_)
    clear hK K
    (try simp only [Act.put, List.setIfInBounds_toArray, List.set_cons_zero, List.set_cons_succ])
    refine Reg.tk 18 rfl ?_
    refine Reg.tk 19 rfl ?_
    refine wpAnyH_done (by kernel_rfl) ?_ _
    go_wp2_with fail
    refine bodyPost_ret_by (results_zone_tmp2 rfl _ _ (w.heap.size + 1) _ _ _ _ rfl (Box.store N5.out ⟨stB z.st (z.len + b.length) most, z.fc, y⟩ X q) Tryz.underlying54 rfl (by kernel_rfl)) rfl ?_
    exact ⟨X, q, rfl, (Owns.other3 (g := w.heap.size + 1) O5.out (by have := N3.out.lt; omega) _ _ _).mono (by have := N3.out.lt; omega), below3 L5.out (by omega) _ _ _⟩
  · go_simp
    have A4 := Lib.hid (A3.out.alloc (.cells #[.slice D z.data.length c, .slice B b.length d] 32))
    refine hK.out _ _ (hcell _ A4.out) (fun hHeld3 => ?_)
    clear hK K
    (try simp only [Act.put, List.setIfInBounds_toArray, List.set_cons_zero, List.set_cons_succ])
    refine Reg.step 7 rfl (by kernel_rfl) (by rfl) (fun K hK => ?_)
    go_simp
    refine (HS _).mono ?_
    rintro e wx ⟨rfl, hwx⟩
    subst hwx
    refine hK.out _ _ (hcell _ A4.out) (fun hHeld2 => ?_)
    clear hK K
    (try simp only [Act.put, List.setIfInBounds_toArray, List.set_cons_zero, List.set_cons_succ])
    refine Reg.step 14 rfl (by kernel_rfl) (by rfl) (fun K hK => ?_)
    go_simp
    refine (HCC w2.drew _ rfl (H1.out.below L3.out) (H2.out.below L3.out)).out.mono ?_
    rintro e w5 ⟨X, k, q, rfl, hX, hb5⟩
    obtain rfl : k = y.length := hX.len.symm
    have b35 : Below w2.drew.heap.size w2.drew w5 := ((Below.refl _ w2.drew).alloc (Nat.le_refl _) _).trans (hb5.mono (by simp))
    have A5 := Lib.hid (A3.out.below b35)
    have N5 := Lib.hid (N3.out.below b35)
    have L5 := Lib.hid (L3.out.trans (b35.mono L3.out.size))
    have O5 := Lib.hid (hX.mono (base' := w2.drew.heap.size + 1) (by simp))
    clear b35 hX hb5
    refine hK.out _ _ (hcell _ A5.out) (fun hHeld4 => ?_)
    clear hK K
    (try simp only [Act.put, List.setIfInBounds_toArray, List.set_cons_zero, List.set_cons_succ])
    refine Reg.tk 15 rfl ?_
    refine Reg.step 17 rfl (by kernel_rfl) (by rfl) (fun K hK => ?_)
    obtain ⟨f0, f1, f2⟩ := N5.out.frozen
    obtain ⟨n0, n1, n2⟩ := N5.out.cells
    go_simp
    refine hK.out _ _ (hcell _ (A5.out.other3 (by omega) _ _ _)) (fun hHeld5 => ?_)
    clear hK K
    (try simp only [Act.put, List.setIfInBounds_toArray, List.set_cons_zero, List.set_cons_succ])
    refine Reg.tk 18 rfl ?_
    refine Reg.tk 19 rfl ?_
    refine wpAnyH_done (by kernel_rfl) ?_ _
    go_wp2_with fail
    refine bodyPost_ret_by (results_zone_tmp2 rfl _ _ (w.heap.size + 1) _ _ _ _ rfl (Box.store N5.out ⟨stB z.st (z.len + b.length) most, z.fc, y⟩ X q) Tryz.underlying54 rfl (by kernel_rfl)) rfl ?_
    exact ⟨X, q, rfl, (Owns.other3 (g := w.heap.size + 1) O5.out (by have := N3.out.lt; omega) _ _ _).mono (by have := N3.out.lt; omega), below3 L5.out (by omega) _ _ _⟩
end Zon
end Go.Proofs.YtedandbkdjmfhaaGreat
/-
  WALKS OVER zone'S OTHER CALLS: in, Open, Close, Finish, Reset, Read, Torn.
-/
namespace Go.Proofs.YtedandbkdjmfhaaGreat
open Go.RowKit Mem
namespace Zon

/-- A zone, whose bytes are the call's own, as a call gave it. -/
def GaveZ1 (w : World) (z : Zn) (en : Ending) (w' : World) : Prop :=
  ∃ D c, en = .returned (zv z D c) ∧ Owns cb 5 w.heap.size w' (.slice D z.data.length c) z.data.length z.data ∧ Below w.heap.size w w'

set_option maxRecDepth 100000 in
set_option maxHeartbeats 800000 in
theorem in_any {z : Zn} {D : Option Addr} {c : Nat} {w : World} (st : Int) (h : Row cb w D z.data.length c z.data) :
    Calls Tryz.prog 92 #[zv z D c, .int .i64 st] w (GaveZ1 w (inZ z st)) := by
  have HC := fun w (h : Row cb w D z.data.length c z.data) => Lib.hid (clone_any h)
  have H1 := Lib.hid h
  have L1 := Lib.hid (((Below.refl w.heap.size w).alloc (Nat.le_refl _) (.cells #[.int .i64 z.st, .int .i64 z.fc, .slice D z.data.length c] 54)).alloc (by simp) (.cells #[.int .i64 0, .int .i64 0, .slice none 0 0] 54))
  have B1 : Hid (Box ((w.alloc (.cells #[.int .i64 z.st, .int .i64 z.fc, .slice D z.data.length c] 54)).alloc (.cells #[.int .i64 0, .int .i64 0, .slice none 0 0] 54)) w.heap.size z D c) := heap_alloc2_old w _ _
  have N1 : Hid (Box ((w.alloc (.cells #[.int .i64 z.st, .int .i64 z.fc, .slice D z.data.length c] 54)).alloc (.cells #[.int .i64 0, .int .i64 0, .slice none 0 0] 54)) (w.heap.size + 1) nilZ none 0) := heap_alloc2_new w _ _
  have hcell := fun W (h : Box W w.heap.size z D c) => h.cells
  unfold zv inZ at *
  clear h
  go_enter Tryz.func92, Tryz.ntmps92
  go_wp2_with fail
  generalize (w.alloc (.cells #[.int .i64 z.st, .int .i64 z.fc, .slice D z.data.length c] 54)).alloc (.cells #[.int .i64 0, .int .i64 0, .slice none 0 0] 54) = w1 at *
  have A3 : Hid (Box w1.drew w.heap.size z D c) := B1
  have N3 : Hid (Box w1.drew (w.heap.size + 1) nilZ none 0) := N1
  have L3 : Hid (Below w.heap.size w w1.drew) := L1.out.trans ((Below.refl _ w1).drew.mono L1.out.size)
  clear B1 N1 L1
  refine wp_region_held_drew (S := fun W => W.cell? ⟨w.heap.size, 0, none⟩ = some (.int .i64 z.st) ∧ W.cell? ⟨w.heap.size, 1, none⟩ = some (.int .i64 z.fc) ∧ W.cell? ⟨w.heap.size, 2, none⟩ = some (.slice D z.data.length c))
    (by kernel_rfl) (hcell _ A3.out) (fun hHeld => ?_)
  refine Reg.tk 0 rfl ?_
  refine Reg.tk 1 rfl ?_
  refine Reg.tk 2 rfl ?_
  refine Reg.tk 3 rfl ?_
  refine Reg.tk 4 rfl ?_
  refine Reg.step 5 rfl (by kernel_rfl) (by rfl) (fun K hK => ?_)
  go_simp
  refine (HC w1.drew (H1.out.below L3.out)).out.mono ?_
  rintro e w5 ⟨X, k, q, rfl, hX, hb5⟩
  obtain rfl : k = z.data.length := hX.len.symm
  have A5 := Lib.hid (A3.out.below hb5)
  have N5 := Lib.hid (N3.out.below hb5)
  have L5 := Lib.hid (L3.out.trans (hb5.mono L3.out.size))
  have O5 := Lib.hid hX
  clear hX hb5
  refine hK.out _ _ (hcell _ A5.out) (fun hHeld4 => ?_)
  clear hK K
  (try simp only [Act.put, List.setIfInBounds_toArray, List.set_cons_zero, List.set_cons_succ])
  refine Reg.tk 6 rfl ?_
  refine Reg.step 7 rfl (by kernel_rfl) (by rfl) (fun K hK => ?_)
  obtain ⟨f0, f1, f2⟩ := N5.out.frozen
  obtain ⟨n0, n1, n2⟩ := N5.out.cells
  go_simp
  refine hK.out _ _ (hcell _ (A5.out.other3 (by omega) _ _ _)) (fun hHeld5 => ?_)
  clear hK K
  refine wpAnyH_done (by kernel_rfl) ?_ _
  go_wp2_with fail
  refine bodyPost_ret_by (results_cell_row rfl _ _ (w.heap.size + 1) _ _ _ _ rfl (Box.store N5.out ⟨st, z.fc, z.data⟩ X q) Tryz.underlying54 rfl (by kernel_rfl)) rfl ?_
  exact ⟨X, q, rfl, (Owns.other3 (g := w.heap.size + 1) O5.out (by have := N3.out.lt; omega) _ _ _).mono (by have := N3.out.lt; omega), below3 L5.out (by omega) _ _ _⟩

set_option maxRecDepth 100000 in
set_option maxHeartbeats 800000 in
theorem finish_any {z : Zn} {D : Option Addr} {c : Nat} {w : World} (h : Row cb w D z.data.length c z.data) :
    Calls Tryz.prog 76 #[zv z D c] w (GaveZ w (inZ z 4) [.int .i64 0]) := by
  have HC := fun w (h : Row cb w D z.data.length c z.data) => Lib.hid (in_any 4 h)
  have H1 := Lib.hid h
  have L1 := Lib.hid (((Below.refl w.heap.size w).alloc (Nat.le_refl _) (.cells #[.int .i64 z.st, .int .i64 z.fc, .slice D z.data.length c] 54)).alloc (by simp) (.cells #[.int .i64 0, .int .i64 0, .slice none 0 0] 54))
  have N1 : Hid (Box ((w.alloc (.cells #[.int .i64 z.st, .int .i64 z.fc, .slice D z.data.length c] 54)).alloc (.cells #[.int .i64 0, .int .i64 0, .slice none 0 0] 54)) (w.heap.size + 1) nilZ none 0) := heap_alloc2_new w _ _
  unfold zv inZ GaveZ1 at *
  clear h
  go_enter Tryz.func76, Tryz.ntmps76
  go_wp2_with fail
  generalize (w.alloc (.cells #[.int .i64 z.st, .int .i64 z.fc, .slice D z.data.length c] 54)).alloc (.cells #[.int .i64 0, .int .i64 0, .slice none 0 0] 54) = w1 at *
  refine (HC w1 (H1.out.below L1.out)).out.mono ?_
  rintro e w2 ⟨X, q, rfl, hX, hb2⟩
  unfold zv at *
  have N2 := Lib.hid (N1.out.below hb2)
  have L2 := Lib.hid (L1.out.trans (hb2.mono L1.out.size))
  have O2 := Lib.hid hX
  obtain ⟨f0, f1, f2⟩ := N2.out.frozen
  obtain ⟨n0, n1, n2⟩ := N2.out.cells
  clear hX hb2
  go_wp2_with fail
  refine bodyPost_ret_by (results_zone_tmp rfl _ _ (w.heap.size + 1) _ _ _ _ rfl (Box.store N2.out ⟨4, z.fc, z.data⟩ X q) Tryz.underlying54 rfl (by kernel_rfl)) rfl ?_
  exact ⟨X, q, rfl, (Owns.other3 (g := w.heap.size + 1) O2.out (by have := N1.out.lt; omega) _ _ _).mono (by have := N1.out.lt; omega), below3 L2.out (by omega) _ _ _⟩

set_option maxRecDepth 100000 in
theorem reset_any (z : Zn) (D : Option Addr) (c : Nat) (w : World) :
    Calls Tryz.prog 74 #[zv z D c] w (GaveZ w ⟨0, z.fc, []⟩ [.int .i64 0]) := by
  have L1 := Lib.hid (((Below.refl w.heap.size w).alloc (Nat.le_refl _) (.cells #[.int .i64 z.st, .int .i64 z.fc, .slice D z.data.length c] 54)).alloc (by simp) (.cells #[.int .i64 0, .int .i64 0, .slice none 0 0] 54))
  have B1 : Hid (Box ((w.alloc (.cells #[.int .i64 z.st, .int .i64 z.fc, .slice D z.data.length c] 54)).alloc (.cells #[.int .i64 0, .int .i64 0, .slice none 0 0] 54)) w.heap.size z D c) := heap_alloc2_old w _ _
  have N1 : Hid (Box ((w.alloc (.cells #[.int .i64 z.st, .int .i64 z.fc, .slice D z.data.length c] 54)).alloc (.cells #[.int .i64 0, .int .i64 0, .slice none 0 0] 54)) (w.heap.size + 1) nilZ none 0) := heap_alloc2_new w _ _
  unfold zv at *
  go_enter Tryz.func74, Tryz.ntmps74
  go_upto_region 1 with fail
  generalize (w.alloc (.cells #[.int .i64 z.st, .int .i64 z.fc, .slice D z.data.length c] 54)).alloc (.cells #[.int .i64 0, .int .i64 0, .slice none 0 0] 54) = w1 at *
  obtain ⟨f0, f1, f2⟩ := N1.out.frozen
  obtain ⟨n0, n1, n2⟩ := N1.out.cells
  obtain ⟨c0, c1, c2⟩ := B1.out.cells
  go_wp2_with fail
  refine bodyPost_ret_by (results_zone_tmp rfl _ _ (w.heap.size + 1) _ _ _ _ rfl (Box.store N1.out ⟨0, z.fc, []⟩ none 0) Tryz.underlying54 rfl (by kernel_rfl)) rfl ?_
  exact GaveZ.nil (below3 L1.out (by omega) _ _ _)

/-- A zone that came in, and one that goes out, in blocks of their own. -/
theorem two_new (w : World) (z : Zn) (D : Option Addr) (c : Nat) :
    Hid (Below w.heap.size w ((w.alloc (.cells #[.int .i64 z.st, .int .i64 z.fc, .slice D z.data.length c] 54)).alloc (.cells #[.int .i64 0, .int .i64 0, .slice none 0 0] 54))) ∧ Hid (Box ((w.alloc (.cells #[.int .i64 z.st, .int .i64 z.fc, .slice D z.data.length c] 54)).alloc (.cells #[.int .i64 0, .int .i64 0, .slice none 0 0] 54)) w.heap.size z D c) ∧ Hid (Box ((w.alloc (.cells #[.int .i64 z.st, .int .i64 z.fc, .slice D z.data.length c] 54)).alloc (.cells #[.int .i64 0, .int .i64 0, .slice none 0 0] 54)) (w.heap.size + 1) nilZ none 0) :=
  ⟨((Below.refl w.heap.size w).alloc (Nat.le_refl _) _).alloc (by simp) _, heap_alloc2_old w _ _, heap_alloc2_new w _ _⟩

def openErr (z : Zn) (most : Int) : Int := bif !okB z most then 1 else bif z.st == 4 then 41 else 0
def openZ (z : Zn) (most : Int) : Zn := bif openErr z most == 0 then inZ z 2 else nilZ

set_option maxRecDepth 100000 in
set_option maxHeartbeats 1600000 in
theorem open_any {z : Zn} {D : Option Addr} {c : Nat} {w : World} (most : Int) (h : Row cb w D z.data.length c z.data) :
    Calls Tryz.prog 77 #[zv z D c, .int .i64 most] w (GaveZ w (openZ z most) [.int .i64 (openErr z most)]) := by
  have HC := fun w (h : Row cb w D z.data.length c z.data) => Lib.hid (in_any 2 h)
  have HK := fun w => Lib.hid (check_any z D c most w)
  have H1 := Lib.hid h
  obtain ⟨L1, B1, N1⟩ := two_new w z D c
  unfold openZ openErr
  unfold zv inZ GaveZ1 errOf at *
  clear h
  rcases ho : okB z most
  · rw [ho] at HK
    go_enter Tryz.func77, Tryz.ntmps77
    go_wp2_with fail
    generalize (w.alloc (.cells #[.int .i64 z.st, .int .i64 z.fc, .slice D z.data.length c] 54)).alloc (.cells #[.int .i64 0, .int .i64 0, .slice none 0 0] 54) = w1 at *
    refine (HK w1).out.mono ?_
    rintro e w2 ⟨rfl, hb2⟩
    have N2 := Lib.hid (N1.out.below hb2)
    have L2 := Lib.hid (L1.out.trans (hb2.mono L1.out.size))
    obtain ⟨f0, f1, f2⟩ := N2.out.frozen
    obtain ⟨n0, n1, n2⟩ := N2.out.cells
    clear hb2
    simp only [cond_false]
    go_wp2_with fail
    refine bodyPost_ret_by (results_zone_tmp rfl _ _ (w.heap.size + 1) _ _ _ _ rfl (Box.store N2.out nilZ none 0) Tryz.underlying54 rfl (by kernel_rfl)) rfl ?_
    exact GaveZ.nil (below3 L2.out (by omega) _ _ _)
  · rw [ho] at HK
    rcases e4 : (z.st == 4)
    · go_enter Tryz.func77, Tryz.ntmps77
      go_wp2_with fail
      generalize (w.alloc (.cells #[.int .i64 z.st, .int .i64 z.fc, .slice D z.data.length c] 54)).alloc (.cells #[.int .i64 0, .int .i64 0, .slice none 0 0] 54) = w1 at *
      refine (HK w1).out.mono ?_
      rintro e w2 ⟨rfl, hb2⟩
      have B2 := Lib.hid (B1.out.below hb2)
      have N2 := Lib.hid (N1.out.below hb2)
      have L2 := Lib.hid (L1.out.trans (hb2.mono L1.out.size))
      obtain ⟨c0, c1, c2⟩ := B2.out.cells
      clear hb2
      simp only [cond_true]
      go_wp2_with fail
      refine (HC w2 (H1.out.below L2.out)).out.mono ?_
      rintro e w3 ⟨X, q, rfl, hX, hb3⟩
      unfold zv at *
      have N3 := Lib.hid (N2.out.below hb3)
      have L3 := Lib.hid (L2.out.trans (hb3.mono L2.out.size))
      have O3 := Lib.hid hX
      obtain ⟨f0, f1, f2⟩ := N3.out.frozen
      obtain ⟨n0, n1, n2⟩ := N3.out.cells
      clear hX hb3 c0 c1 c2
      go_wp2_with fail
      refine bodyPost_ret_by (results_zone_tmp rfl _ _ (w.heap.size + 1) _ _ _ _ rfl (Box.store N3.out ⟨2, z.fc, z.data⟩ X q) Tryz.underlying54 rfl (by kernel_rfl)) rfl ?_
      exact ⟨X, q, rfl, (Owns.other3 (g := w.heap.size + 1) O3.out (by have := N2.out.lt; omega) _ _ _).mono (by have := N2.out.lt; omega), below3 L3.out (by omega) _ _ _⟩
    · go_enter Tryz.func77, Tryz.ntmps77
      go_wp2_with fail
      generalize (w.alloc (.cells #[.int .i64 z.st, .int .i64 z.fc, .slice D z.data.length c] 54)).alloc (.cells #[.int .i64 0, .int .i64 0, .slice none 0 0] 54) = w1 at *
      refine (HK w1).out.mono ?_
      rintro e w2 ⟨rfl, hb2⟩
      have B2 := Lib.hid (B1.out.below hb2)
      have N2 := Lib.hid (N1.out.below hb2)
      have L2 := Lib.hid (L1.out.trans (hb2.mono L1.out.size))
      obtain ⟨c0, c1, c2⟩ := B2.out.cells
      obtain ⟨f0, f1, f2⟩ := N2.out.frozen
      obtain ⟨n0, n1, n2⟩ := N2.out.cells
      clear hb2
      simp only [cond_true]
      go_wp2_with fail
      refine bodyPost_ret_by (results_zone_tmp rfl _ _ (w.heap.size + 1) _ _ _ _ rfl (Box.store N2.out nilZ none 0) Tryz.underlying54 rfl (by kernel_rfl)) rfl ?_
      exact GaveZ.nil (below3 L2.out (by omega) _ _ _)

def closeErr (z : Zn) : Int := bif (z.st == 0 || z.st == 4) then 41 else 0
def closeZ (z : Zn) : Zn := bif (z.st == 0 || z.st == 4) then nilZ else bif z.data.length == 0 then inZ z 0 else inZ z 3

set_option maxRecDepth 100000 in
set_option maxHeartbeats 1600000 in
theorem close_any {z : Zn} {D : Option Addr} {c : Nat} {w : World} (h : Row cb w D z.data.length c z.data) :
    Calls Tryz.prog 78 #[zv z D c] w (GaveZ w (closeZ z) [.int .i64 (closeErr z)]) := by
  have HC := fun (st : Int) w (h : Row cb w D z.data.length c z.data) => Lib.hid (in_any st h)
  have H1 := Lib.hid h
  obtain ⟨L1, B1, N1⟩ := two_new w z D c
  unfold closeZ closeErr
  unfold zv inZ GaveZ1 at *
  clear h
  have hlen : ((z.data.length : Int) == 0) = (z.data.length == 0) := by
    rw [Bool.eq_iff_iff]; simp
  rcases e0 : (z.st == 0)
  · rcases e4 : (z.st == 4)
    · rcases el : (z.data.length == 0)
      · rw [el] at hlen
        go_enter Tryz.func78, Tryz.ntmps78
        go_upto_region 1 with fail
        generalize (w.alloc (.cells #[.int .i64 z.st, .int .i64 z.fc, .slice D z.data.length c] 54)).alloc (.cells #[.int .i64 0, .int .i64 0, .slice none 0 0] 54) = w1 at *
        obtain ⟨c0, c1, c2⟩ := B1.out.cells
        go_wp2_with fail
        refine (HC 3 w1 (H1.out.below L1.out)).out.mono ?_
        rintro e w3 ⟨X, q, rfl, hX, hb3⟩
        unfold zv at *
        have N3 := Lib.hid (N1.out.below hb3)
        have L3 := Lib.hid (L1.out.trans (hb3.mono L1.out.size))
        have O3 := Lib.hid hX
        obtain ⟨f0, f1, f2⟩ := N3.out.frozen
        obtain ⟨n0, n1, n2⟩ := N3.out.cells
        clear hX hb3 c0 c1 c2
        go_wp2_with fail
        refine bodyPost_ret_by (results_zone_tmp rfl _ _ (w.heap.size + 1) _ _ _ _ rfl (Box.store N3.out ⟨3, z.fc, z.data⟩ X q) Tryz.underlying54 rfl (by kernel_rfl)) rfl ?_
        exact ⟨X, q, rfl, (Owns.other3 (g := w.heap.size + 1) O3.out (by have := N1.out.lt; omega) _ _ _).mono (by have := N1.out.lt; omega), below3 L3.out (by omega) _ _ _⟩
      · rw [el] at hlen
        go_enter Tryz.func78, Tryz.ntmps78
        go_upto_region 1 with fail
        generalize (w.alloc (.cells #[.int .i64 z.st, .int .i64 z.fc, .slice D z.data.length c] 54)).alloc (.cells #[.int .i64 0, .int .i64 0, .slice none 0 0] 54) = w1 at *
        obtain ⟨c0, c1, c2⟩ := B1.out.cells
        go_wp2_with fail
        refine (HC 0 w1 (H1.out.below L1.out)).out.mono ?_
        rintro e w3 ⟨X, q, rfl, hX, hb3⟩
        unfold zv at *
        have N3 := Lib.hid (N1.out.below hb3)
        have L3 := Lib.hid (L1.out.trans (hb3.mono L1.out.size))
        have O3 := Lib.hid hX
        obtain ⟨f0, f1, f2⟩ := N3.out.frozen
        obtain ⟨n0, n1, n2⟩ := N3.out.cells
        clear hX hb3 c0 c1 c2
        go_wp2_with fail
        refine bodyPost_ret_by (results_zone_tmp rfl _ _ (w.heap.size + 1) _ _ _ _ rfl (Box.store N3.out ⟨0, z.fc, z.data⟩ X q) Tryz.underlying54 rfl (by kernel_rfl)) rfl ?_
        exact ⟨X, q, rfl, (Owns.other3 (g := w.heap.size + 1) O3.out (by have := N1.out.lt; omega) _ _ _).mono (by have := N1.out.lt; omega), below3 L3.out (by omega) _ _ _⟩
    · go_enter Tryz.func78, Tryz.ntmps78
      go_upto_region 1 with fail
      generalize (w.alloc (.cells #[.int .i64 z.st, .int .i64 z.fc, .slice D z.data.length c] 54)).alloc (.cells #[.int .i64 0, .int .i64 0, .slice none 0 0] 54) = w1 at *
      obtain ⟨c0, c1, c2⟩ := B1.out.cells
      obtain ⟨f0, f1, f2⟩ := N1.out.frozen
      obtain ⟨n0, n1, n2⟩ := N1.out.cells
      go_wp2_with fail
      refine bodyPost_ret_by (results_zone_tmp rfl _ _ (w.heap.size + 1) _ _ _ _ rfl (Box.store N1.out nilZ none 0) Tryz.underlying54 rfl (by kernel_rfl)) rfl ?_
      exact GaveZ.nil (below3 L1.out (by omega) _ _ _)
  · go_enter Tryz.func78, Tryz.ntmps78
    go_upto_region 1 with fail
    generalize (w.alloc (.cells #[.int .i64 z.st, .int .i64 z.fc, .slice D z.data.length c] 54)).alloc (.cells #[.int .i64 0, .int .i64 0, .slice none 0 0] 54) = w1 at *
    obtain ⟨c0, c1, c2⟩ := B1.out.cells
    obtain ⟨f0, f1, f2⟩ := N1.out.frozen
    obtain ⟨n0, n1, n2⟩ := N1.out.cells
    go_wp2_with fail
    refine bodyPost_ret_by (results_zone_tmp rfl _ _ (w.heap.size + 1) _ _ _ _ rfl (Box.store N1.out nilZ none 0) Tryz.underlying54 rfl (by kernel_rfl)) rfl ?_
    exact GaveZ.nil (below3 L1.out (by omega) _ _ _)

/-- The bytes that are asked for are all there. -/
def readB (z : Zn) (off n : Int) : Bool := !decide (off < 0) && (!decide (n < 0) && !decide (z.len - off < n))
def readL (z : Zn) (off n : Int) : List B8 := bif readB z off n then (z.data.drop off.toNat).take n.toNat else []

set_option maxRecDepth 100000 in
set_option maxHeartbeats 1600000 in
theorem read_any {z : Zn} {D : Option Addr} {c : Nat} {w : World} (off n : Int) (ho : off ≤ 9223372036854775807) (h : Row cb w D z.data.length c z.data) :
    Calls Tryz.prog 73 #[zv z D c, .int .i64 off, .int .i64 n] w (GaveE cb 5 w.heap.size w (readL z off n) (errOf (readB z off n))) := by
  have HC := fun A k c l w (h : Row cb w A k c l) => Lib.hid (clone_any h)
  have H1 := Lib.hid h
  have hbig := h.big
  have hcap := h.cap
  have L1 := Lib.hid ((Below.refl w.heap.size w).alloc (Nat.le_refl _) (.cells #[.int .i64 z.st, .int .i64 z.fc, .slice D z.data.length c] 54))
  have B1 := Lib.hid (Box.new w z D c)
  unfold readL readB
  unfold zv Zn.len at *
  clear h
  rcases e1 : decide (off < 0)
  · rcases e2 : decide (n < 0)
    · have hsub : IntKind.i64.wrap ((z.data.length : Int) - off) = (z.data.length : Int) - off := by have := of_decide_eq_false e1; rw [IntKind.wrap_i64]; omega
      rcases e3 : decide ((z.data.length : Int) - off < n)
      · obtain ⟨k, rfl⟩ := Int.eq_ofNat_of_zero_le (show 0 ≤ off by have := of_decide_eq_false e1; omega)
        obtain ⟨m, rfl⟩ := Int.eq_ofNat_of_zero_le (show 0 ≤ n by have := of_decide_eq_false e2; omega)
        have hkm : k + m ≤ z.data.length := by have := of_decide_eq_false e3; omega
        have hadd : IntKind.i64.wrap ((k : Int) + (m : Int)) = (k : Int) + (m : Int) := by rw [IntKind.wrap_i64]; omega
        have hsl : ∀ w, (Instr.slice 32 (.slice D z.data.length c) (some (.int .i64 (k : Int))) (some (.int .i64 ((k : Int) + (m : Int)))) none).run Tryz.prog w = .ok (.slice (tailA D c k) m (c - k)) w := by
          intro w
          have := run_mid D z.data.length c k (k + m) (by omega) (by omega) w
          rwa [Int.natCast_add, Nat.add_sub_cancel_left] at this
        have hd0 : decide ((k : Int) < 0) = false := e1
        go_enter Tryz.func73, Tryz.ntmps73
        go_wp2_with fail
        generalize w.alloc (.cells #[.int .i64 z.st, .int .i64 z.fc, .slice D z.data.length c] 54) = w1 at *
        have hrow := Row.mid (H1.out.below L1.out) (k := k) (j := k + m) (by omega) hkm
        rw [Nat.add_sub_cancel_left] at hrow
        refine (HC _ _ _ _ w1 hrow).out.mono ?_
        rintro e w2 ⟨X, q, g, rfl, hX, hb2⟩
        have L2 := Lib.hid (L1.out.trans (hb2.mono L1.out.size))
        have O2 := Lib.hid (hX.mono L1.out.size)
        clear hX hb2 hrow
        go_wp2_with fail
        go_ret2
        exact ⟨_, _, _, rfl, O2.out, L2.out⟩
      · go_enter Tryz.func73, Tryz.ntmps73
        go_wp2_with fail
        go_ret2
        exact ⟨_, _, _, rfl, Owns.nil _ _ _ _, L1.out⟩
    · go_enter Tryz.func73, Tryz.ntmps73
      go_wp2_with fail
      go_ret2
      exact ⟨_, _, _, rfl, Owns.nil _ _ _ _, L1.out⟩
  · go_enter Tryz.func73, Tryz.ntmps73
    go_wp2_with fail
    go_ret2
    exact ⟨_, _, _, rfl, Owns.nil _ _ _ _, L1.out⟩
end Zon
end Go.Proofs.YtedandbkdjmfhaaGreat
/-
  A WALK OVER zone.Torn.
-/
namespace Go.Proofs.YtedandbkdjmfhaaGreat
open Go.RowKit Mem
namespace Zon

def tornErr (z : Zn) (most : Int) (b : List B8) (keep : Int) : Int := bif appErr z most b.length == 0 then (bif (decide (keep < 0) || decide ((b.length : Int) < keep)) then 1 else 0) else appErr z most b.length
def tornZ (z : Zn) (most : Int) (b : List B8) (keep : Int) : Zn := bif tornErr z most b keep == 0 then (bif keep == 0 then z else appZ z most (b.take keep.toNat)) else nilZ

set_option maxRecDepth 100000 in
set_option maxHeartbeats 3200000 in
theorem torn_bad {z : Zn} {D : Option Addr} {c : Nat} {most : Int} {n d : Nat} {B : Option Addr} {keep : Int} {w : World} {er : Int} (hn : n ≤ 140737488351232) (he : appErr z most n = er) (h0 : er ≠ 0) :
    Calls Tryz.prog 72 #[zv z D c, .int .i64 most, .slice B n d, .int .i64 keep] w (GaveZ w nilZ [.int .i64 er]) := by
  have HE := fun w => Lib.hid (appendError_any z D c most B n d hn w)
  rw [he] at HE
  obtain ⟨L1, -, B2⟩ := two_new w z D c
  have hb : (er != 0) = true := bne_iff_ne.2 h0
  clear he h0
  unfold zv at *
  go_enter Tryz.func72, Tryz.ntmps72
  go_wp2_with fail
  generalize (w.alloc (.cells #[.int .i64 z.st, .int .i64 z.fc, .slice D z.data.length c] 54)).alloc (.cells #[.int .i64 0, .int .i64 0, .slice none 0 0] 54) = w1 at *
  refine (HE w1).out.mono ?_
  rintro e w2 ⟨rfl, hb2⟩
  have L2 := Lib.hid (L1.out.trans (hb2.mono L1.out.size))
  have B3 := Lib.hid (B2.out.below hb2)
  obtain ⟨c0, c1, c2⟩ := B3.out.cells
  obtain ⟨f0, f1, f2⟩ := B3.out.frozen
  clear hb2
  go_wp2_with fail
  refine bodyPost_ret_by (results_zone_tmp rfl _ _ (w.heap.size + 1) _ _ _ _ rfl (Box.store B3.out nilZ none 0) Tryz.underlying54 rfl (by kernel_rfl)) rfl ?_
  exact GaveZ.nil (below3 L2.out (by omega) _ _ _)

set_option maxRecDepth 100000 in
set_option maxHeartbeats 3200000 in
theorem torn_keep {z : Zn} {D : Option Addr} {c : Nat} {most : Int} {n d : Nat} {B : Option Addr} {keep : Int} {w : World} (hn : n ≤ 140737488351232) (he : appErr z most n = 0) (h0 : keep < 0 ∨ (n : Int) < keep) :
    Calls Tryz.prog 72 #[zv z D c, .int .i64 most, .slice B n d, .int .i64 keep] w (GaveZ w nilZ [.int .i64 1]) := by
  have HE := fun w => Lib.hid (appendError_any z D c most B n d hn w)
  rw [he] at HE
  obtain ⟨L1, -, B2⟩ := two_new w z D c
  clear he
  unfold zv at *
  rcases e1 : decide (keep < 0)
  · have e2 : decide ((n : Int) < keep) = true := decide_eq_true (by have := of_decide_eq_false e1; omega)
    clear h0
    go_enter Tryz.func72, Tryz.ntmps72
    go_wp2_with fail
    generalize (w.alloc (.cells #[.int .i64 z.st, .int .i64 z.fc, .slice D z.data.length c] 54)).alloc (.cells #[.int .i64 0, .int .i64 0, .slice none 0 0] 54) = w1 at *
    refine (HE w1).out.mono ?_
    rintro e w2 ⟨rfl, hb2⟩
    have L2 := Lib.hid (L1.out.trans (hb2.mono L1.out.size))
    have B3 := Lib.hid (B2.out.below hb2)
    obtain ⟨c0, c1, c2⟩ := B3.out.cells
    obtain ⟨f0, f1, f2⟩ := B3.out.frozen
    clear hb2
    go_wp2_with fail
    refine bodyPost_ret_by (results_zone_tmp rfl _ _ (w.heap.size + 1) _ _ _ _ rfl (Box.store B3.out nilZ none 0) Tryz.underlying54 rfl (by kernel_rfl)) rfl ?_
    exact GaveZ.nil (below3 L2.out (by omega) _ _ _)
  · clear h0
    go_enter Tryz.func72, Tryz.ntmps72
    go_wp2_with fail
    generalize (w.alloc (.cells #[.int .i64 z.st, .int .i64 z.fc, .slice D z.data.length c] 54)).alloc (.cells #[.int .i64 0, .int .i64 0, .slice none 0 0] 54) = w1 at *
    refine (HE w1).out.mono ?_
    rintro e w2 ⟨rfl, hb2⟩
    have L2 := Lib.hid (L1.out.trans (hb2.mono L1.out.size))
    have B3 := Lib.hid (B2.out.below hb2)
    obtain ⟨c0, c1, c2⟩ := B3.out.cells
    obtain ⟨f0, f1, f2⟩ := B3.out.frozen
    clear hb2
    go_wp2_with fail
    refine bodyPost_ret_by (results_zone_tmp rfl _ _ (w.heap.size + 1) _ _ _ _ rfl (Box.store B3.out nilZ none 0) Tryz.underlying54 rfl (by kernel_rfl)) rfl ?_
    exact GaveZ.nil (below3 L2.out (by omega) _ _ _)

set_option maxRecDepth 100000 in
set_option maxHeartbeats 3200000 in
theorem torn_none {z : Zn} {D : Option Addr} {c : Nat} {most : Int} {n d : Nat} {B : Option Addr} {w : World} (hn : n ≤ 140737488351232) (he : appErr z most n = 0) (h : Row cb w D z.data.length c z.data) :
    Calls Tryz.prog 72 #[zv z D c, .int .i64 most, .slice B n d, .int .i64 0] w (GaveZ w z [.int .i64 0]) := by
  have HE := fun w => Lib.hid (appendError_any z D c most B n d hn w)
  rw [he] at HE
  have HI := fun w (h : Row cb w D z.data.length c z.data) => Lib.hid (in_any z.st h)
  have H1 := Lib.hid h
  obtain ⟨L1, B1, N1⟩ := two_new w z D c
  clear he h
  unfold zv inZ GaveZ1 at *
  go_enter Tryz.func72, Tryz.ntmps72
  go_wp2_with fail
  generalize (w.alloc (.cells #[.int .i64 z.st, .int .i64 z.fc, .slice D z.data.length c] 54)).alloc (.cells #[.int .i64 0, .int .i64 0, .slice none 0 0] 54) = w1 at *
  refine (HE w1).out.mono ?_
  rintro e w2 ⟨rfl, hb2⟩
  have L2 := Lib.hid (L1.out.trans (hb2.mono L1.out.size))
  have B2 := Lib.hid (B1.out.below hb2)
  have N2 := Lib.hid (N1.out.below hb2)
  obtain ⟨c0, c1, c2⟩ := B2.out.cells
  clear hb2
  go_wp2_with fail
  refine (HI w2 (H1.out.below L2.out)).out.mono ?_
  rintro e w3 ⟨X, q, rfl, hX, hb3⟩
  unfold zv at *
  have N3 := Lib.hid (N2.out.below hb3)
  have L3 := Lib.hid (L2.out.trans (hb3.mono L2.out.size))
  have O3 := Lib.hid hX
  obtain ⟨f0, f1, f2⟩ := N3.out.frozen
  obtain ⟨n0, n1, n2⟩ := N3.out.cells
  clear hX hb3 c0 c1 c2
  go_wp2_with fail
  refine bodyPost_ret_by (results_zone_tmp rfl _ _ (w.heap.size + 1) _ _ _ _ rfl (Box.store N3.out z X q) Tryz.underlying54 rfl (by kernel_rfl)) rfl ?_
  exact ⟨X, q, rfl, (Owns.other3 (g := w.heap.size + 1) O3.out (by have := N2.out.lt; omega) _ _ _).mono (by have := N2.out.lt; omega), below3 L3.out (by omega) _ _ _⟩

set_option maxRecDepth 100000 in
set_option maxHeartbeats 3200000 in
theorem torn_some {z : Zn} {D : Option Addr} {c : Nat} {most : Int} {b : List B8} {d : Nat} {B : Option Addr} {k : Nat} {w : World} (he : appErr z most b.length = 0) (h1 : Row cb w D z.data.length c z.data) (h2 : Row cb w B b.length d b) (hk0 : 0 < k) (hk : k ≤ b.length) :
    Calls Tryz.prog 72 #[zv z D c, .int .i64 most, .slice B b.length d, .int .i64 (k : Int)] w (GaveZ w (appZ z most (b.take k)) [.int .i64 0]) := by
  have HE := fun w => Lib.hid (appendError_any z D c most B b.length d h2.big w)
  rw [he] at HE
  obtain ⟨ho, hb0, h4, hle⟩ := appErr_zero he
  have htl : (b.take k).length = k := by rw [List.length_take]; omega
  have he2 : appErr z most (b.take k).length = 0 := appErr_of ho (by omega) h4 (by omega)
  have HA := fun w (h1 : Row cb w D z.data.length c z.data) (h2 : Row cb w B k d (b.take k)) => Lib.hid (append_ok (b := b.take k) (d := d) h1 (by rw [htl]; exact h2) he2)
  rw [htl] at HA
  have H1 := Lib.hid h1
  have H2 := Lib.hid (h2.head hk)
  have hsl := run_head B b.length d k (by have := h2.cap; omega)
  obtain ⟨L1, B1, N1⟩ := two_new w z D c
  have hd1 : decide ((k : Int) < 0) = false := by simp
  have hd2 : decide (b.length < k) = false := by simp; omega
  have hd3 : ((k : Int) == 0) = false := beq_eq_false_iff_ne.2 (by omega)
  clear he h1 h2 hb0 h4 hle he2 ho htl hk0 hk
  generalize appZ z most (b.take k) = y at *
  unfold GaveZ at *
  unfold zv Zn.len at *
  have hcell := fun W (h : Box W w.heap.size z D c) => h.cells
  go_enter Tryz.func72, Tryz.ntmps72
  go_wp2_with fail
  generalize (w.alloc (.cells #[.int .i64 z.st, .int .i64 z.fc, .slice D z.data.length c] 54)).alloc (.cells #[.int .i64 0, .int .i64 0, .slice none 0 0] 54) = w1 at *
  refine (HE w1).out.mono ?_
  rintro e w2 ⟨rfl, hb2⟩
  have A3 : Hid (Box w2.drew w.heap.size z D c) := B1.out.below hb2.drew
  have N3 : Hid (Box w2.drew (w.heap.size + 1) nilZ none 0) := N1.out.below hb2.drew
  have L3 : Hid (Below w.heap.size w w2.drew) := (L1.out.trans (hb2.mono L1.out.size)).drew
  clear hb2 B1 N1 L1 HE
  go_wp2_with fail
  refine wp_region_held_drew (S := fun W => W.cell? ⟨w.heap.size, 0, none⟩ = some (.int .i64 z.st) ∧ W.cell? ⟨w.heap.size, 1, none⟩ = some (.int .i64 z.fc) ∧ W.cell? ⟨w.heap.size, 2, none⟩ = some (.slice D z.data.length c))
    (by kernel_rfl) (hcell _ A3.out) (fun hHeld => ?_)
  refine Reg.tk 0 rfl ?_
  refine Reg.tk 1 rfl ?_
  refine Reg.tk 2 rfl ?_
  refine Reg.tk 3 rfl ?_
  refine Reg.tk 4 rfl ?_
  refine Reg.step2 5 10 rfl rfl (by kernel_rfl) (by rfl) (by rfl) (fun K hK => ?_) (fun K hK => ?_)
  · go_simp
    refine (HA w2.drew (H1.out.below L3.out) (H2.out.below L3.out)).out.mono ?_
    rintro e w5 ⟨X, q, rfl, hX, hb5⟩
    have A5 := Lib.hid (A3.out.below hb5)
    have N5 := Lib.hid (N3.out.below hb5)
    have L5 := Lib.hid (L3.out.trans (hb5.mono L3.out.size))
    have O5 := Lib.hid hX
    clear hX hb5
    refine hK.out _ _ (hcell _ A5.out) (fun hHeld4 => ?_)
    clear hK K
    (try simp only [Act.put, List.setIfInBounds_toArray, List.set_cons_zero, List.set_cons_succ])
    refine Reg.tk 6 rfl ?_
    refine Reg.tk 7 rfl ?_
    refine Reg.tk 8 rfl ?_
    refine Reg.tk 9 rfl ?_
    refine Reg.step 10 rfl (by kernel_rfl) (by rfl) (fun K hK => ?_)
    go_simp
    have A6 := Lib.hid (A5.out.alloc (.cells #[.int .i64 0, .int .i64 0, .slice none 0 0] 54))
    refine hK.out _ _ (hcell _ A6.out) (fun hHeld5 => ?_)
    clear hK K
    (try simp only [Act.put, List.setIfInBounds_toArray, List.set_cons_zero, List.set_cons_succ])
    refine Reg.step 11 rfl (by kernel_rfl) (by rfl) (fun K hK => ?_)
    go_simp
    have b58 : Below w5.heap.size w5 (w5.alloc (.cells #[.int .i64 y.st, .int .i64 y.fc, .slice X y.data.length q] 54)) := (Below.refl _ w5).alloc (Nat.le_refl _) _
    have A8 := Lib.hid (A5.out.below b58)
    have N8 := Lib.hid (N5.out.below b58)
    have L8 := Lib.hid (L5.out.trans (b58.mono L5.out.size))
    have O8 := Lib.hid (O5.out.below b58)
    have Y8 := Lib.hid (Box.new w5 y X q)
    have HLT : Hid (w.heap.size + 1 < w2.drew.heap.size) := N3.out.lt
    have HLE : Hid (w.heap.size ≤ w2.drew.heap.size) := L3.out.size
    refine hK.out _ _ (hcell _ A8.out) (fun hHeld6 => ?_)
    clear hK K b58 A5 N5 L5 O5 A6 A3 N3 L3
    (try simp only [Act.put, List.setIfInBounds_toArray, List.set_cons_zero, List.set_cons_succ])
    generalize w5.heap.size = g at *
    generalize w5.alloc (.cells #[.int .i64 y.st, .int .i64 y.fc, .slice X y.data.length q] 54) = w8 at *
    refine Reg.tk 12 rfl ?_
    refine Reg.tk 13 rfl ?_
    refine wpAnyH_done (by kernel_rfl) ?_ _
    obtain ⟨x0, x1, x2⟩ := Y8.out.cells
    obtain ⟨f0, f1, f2⟩ := N8.out.frozen
    obtain ⟨n0, n1, n2⟩ := N8.out.cells
    go_wp2_with fail
    refine bodyPost_ret_by (results_zone_tmp rfl _ _ (w.heap.size + 1) _ _ _ _ rfl (Box.store N8.out y X q) Tryz.underlying54 rfl (by kernel_rfl)) rfl ?_
    exact ⟨X, q, rfl, (Owns.other3 (g := w.heap.size + 1) O8.out HLT.out _ _ _).mono HLE.out, below3 L8.out (by omega) _ _ _⟩
  · go_simp
    have b34 : Below w2.drew.heap.size w2.drew (w2.alloc (.cells #[.int .i64 0, .int .i64 0, .slice none 0 0] 54)).drew := ((Below.refl _ w2.drew).alloc (Nat.le_refl _) (.cells #[.int .i64 0, .int .i64 0, .slice none 0 0] 54))
    have A4 := Lib.hid (A3.out.below b34)
    have N4 := Lib.hid (N3.out.below b34)
    have L4 := Lib.hid (L3.out.trans (b34.mono L3.out.size))
    have Y4 : Hid (Box (w2.alloc (.cells #[.int .i64 0, .int .i64 0, .slice none 0 0] 54)).drew w2.heap.size nilZ none 0) := Box.new w2 nilZ none 0
    have HLT0 : Hid (w.heap.size + 1 < w2.heap.size) := N3.out.lt
    have HLE0 : Hid (w.heap.size ≤ w2.heap.size) := L3.out.size
    refine hK.out _ _ (hcell _ A4.out) (fun hHeld3 => ?_)
    clear hK K b34 A3 N3 L3
    (try simp only [Act.put, List.setIfInBounds_toArray, List.set_cons_zero, List.set_cons_succ])
    generalize w2.heap.size = g at *
    generalize (w2.alloc (.cells #[.int .i64 0, .int .i64 0, .slice none 0 0] 54)).drew = w4 at *
    refine Reg.step 5 rfl (by kernel_rfl) (by rfl) (fun K hK => ?_)
    go_simp
    refine (HA w4 (H1.out.below L4.out) (H2.out.below L4.out)).out.mono ?_
    rintro e w5 ⟨X, q, rfl, hX, hb5⟩
    have A5 := Lib.hid (A4.out.below hb5)
    have N5 := Lib.hid (N4.out.below hb5)
    have Y5 := Lib.hid (Y4.out.below hb5)
    have L5 := Lib.hid (L4.out.trans (hb5.mono L4.out.size))
    have O5 := Lib.hid hX
    have HG : Hid (g < w4.heap.size) := Y4.out.lt
    have HLT : Hid (w.heap.size + 1 < w4.heap.size) := N4.out.lt
    have HLE : Hid (w.heap.size ≤ w4.heap.size) := L4.out.size
    clear hX hb5
    refine hK.out _ _ (hcell _ A5.out) (fun hHeld4 => ?_)
    clear hK K A4 N4 Y4 L4
    (try simp only [Act.put, List.setIfInBounds_toArray, List.set_cons_zero, List.set_cons_succ])
    refine Reg.tk 6 rfl ?_
    refine Reg.tk 7 rfl ?_
    refine Reg.tk 8 rfl ?_
    refine Reg.tk 9 rfl ?_
    refine Reg.step 11 rfl (by kernel_rfl) (by rfl) (fun K hK => ?_)
    obtain ⟨f0, f1, f2⟩ := Y5.out.frozen
    obtain ⟨n0, n1, n2⟩ := Y5.out.cells
    go_simp
    have A8 := Lib.hid (A5.out.other3 (g' := g) (by have := HLT0.out; omega) (.int .i64 y.st) (.int .i64 y.fc) (.slice X y.data.length q))
    have N8 := Lib.hid (N5.out.other3 (g' := g) (by have := HLT0.out; omega) (.int .i64 y.st) (.int .i64 y.fc) (.slice X y.data.length q))
    have Y8 := Lib.hid (Box.store Y5.out y X q)
    have L8 := Lib.hid (below3 (g := g) L5.out HLE0.out (.int .i64 y.st) (.int .i64 y.fc) (.slice X y.data.length q))
    have O8 := Lib.hid (Owns.other3 (g := g) O5.out HG.out (.int .i64 y.st) (.int .i64 y.fc) (.slice X y.data.length q))
    refine hK.out _ _ (hcell _ A8.out) (fun hHeld6 => ?_)
    clear hK K f0 f1 f2 n0 n1 n2 A5 N5 Y5 L5 O5
    (try simp only [Act.put, List.setIfInBounds_toArray, List.set_cons_zero, List.set_cons_succ])
    generalize ((w5.setCell ⟨g, 0, none⟩ (.int .i64 y.st)).setCell ⟨g, 1, none⟩ (.int .i64 y.fc)).setCell ⟨g, 2, none⟩ (.slice X y.data.length q) = w8 at *
    refine Reg.tk 12 rfl ?_
    refine Reg.tk 13 rfl ?_
    refine wpAnyH_done (by kernel_rfl) ?_ _
    obtain ⟨x0, x1, x2⟩ := Y8.out.cells
    obtain ⟨f0, f1, f2⟩ := N8.out.frozen
    obtain ⟨n0, n1, n2⟩ := N8.out.cells
    go_wp2_with fail
    refine bodyPost_ret_by (results_zone_tmp rfl _ _ (w.heap.size + 1) _ _ _ _ rfl (Box.store N8.out y X q) Tryz.underlying54 rfl (by kernel_rfl)) rfl ?_
    exact ⟨X, q, rfl, (Owns.other3 (g := w.heap.size + 1) O8.out HLT.out _ _ _).mono HLE.out, below3 L8.out (by omega) _ _ _⟩
end Zon
end Go.Proofs.YtedandbkdjmfhaaGreat
/-
  ROWS OF ONE'S OWN SIDE BY SIDE; THE DOCUMENT'S OWN Copy.
-/
namespace Go.Proofs.YtedandbkdjmfhaaGreat
open Go.RowKit Mem
namespace Zon

/-- Only blocks of that element type may have changed. -/
structure Oth (e : TypeId) (w w' : World) : Prop where
  size : w.heap.size ≤ w'.heap.size
  block : ∀ k, k < w.heap.size → w'.heap[k]? = w.heap[k]? ∨ ∃ cur z, w.heap[k]? = some (.cells cur e z)
theorem Oth.owns {α : Type} {f : α → Value} {e e' : TypeId} {base : Nat} {w w' : World} {s : Value} {n : Nat} {l : List α} (h : Owns f e' base w s n l) (ho : Oth e w w') (hne : e' ≠ e) : Owns f e' base w' s n l := by
  refine ⟨h.1, ?_⟩
  rcases h.2 with hn | ⟨q, cap, cur, e1, hbg, hq, r⟩
  · exact .inl hn
  · refine .inr ⟨q, cap, cur, e1, hbg, ?_, r⟩
    rcases ho.block q (Array.getElem?_eq_some_iff.1 hq).1 with h1 | ⟨cur', z, h1⟩
    · exact h1.trans hq
    · rw [hq] at h1
      injection h1 with h1
      injection h1 with _ h2
      exact absurd h2 hne

/-- append onto a row of one's own, elements of any number of cells. -/
theorem wpList_append_wide {P : Program} {t e : TypeId} (ht : P.underlying t = some (.slice e)) {z : Value} {size bytes : Nat} (hinfo : (P.info? e).map (fun i => (i.zero, i.size, i.bytes)) = some (some z, size, bytes)) (hzs : z.cells.size = size) (hsz : 0 < size)
    {w : World} {ops : Array Oper} {rest : List Oper} {o : Oper} {a : Act} {Q : Exit → Act → World → Prop} (hgd : o.guard = none) (s x : Operand)
    (ho : o.op = .call { callee := .builtin .append, args := #[s, x], argTypes := #[t, t] }) (hty : o.type = t)
    (base : Nat) (sv : Value) (n : Nat) (l : List Value) (hs : a.eval s = sv) (hown : w.ownsRow base e size sv n l) (A : Addr) (m c : Nat) (l' : List Value) (hx : a.eval x = .slice (some A) m c) (hl : l'.length = m * size)
    (hc : ∀ j u, l'[j]? = some u → w.cell? (A.add j) = some u) (h1 : ∀ u ∈ l', u.oneCell' = true)
    (hbig : n + m ≤ 140737488351232) (hby : (n + m) * bytes ≤ 140737488355328) (hbase : base ≤ w.heap.size)
    (hk : ∀ A' c' w', w'.ownsRow base e size (.slice A' (n + m) c') (n + m) (l ++ l') → Below base w w' → Oth e w w' → wpList P ops Q rest (a.put o.dst (.slice A' (n + m) c')) w') :
    wpList P ops Q (o :: rest) a w := by
  obtain ⟨i, hi, hz0, hz1, hz2⟩ := info_parts hinfo
  refine wpList_plain hgd fun K hK => ?_
  obtain ⟨s', w', hrun, h2, h3, -, -⟩ := run_append_own_at (P := P) w base t t e i _ size bytes ht hi hz0 hz1 hz2 hzs hsz sv n _ hown A m c l' hl hc h1 (by unfold maxLen; omega) hby hbase
  have hsl : ∃ A' c', s' = .slice A' (n + m) c' := by
    rcases h2.2 with ⟨rfl, h0⟩ | ⟨q, cap, cur, rfl, -⟩
    · exact ⟨none, 0, by rw [h0]⟩
    · exact ⟨_, _, rfl⟩
  obtain ⟨A', c', rfl⟩ := hsl
  have hb : Below base w w' := (Below.refl base w).grown h3 hbase (fun k hk => (World.ownsRow.lt hown k hk).1)
  have hoth : Oth e w w' := by
    refine ⟨h3.size, fun k hk => ?_⟩
    by_cases hkk : some k = sv.ownBlock
    · rcases hown.2 with ⟨rfl, -⟩ | ⟨q, cap, cur, rfl, -, hq, -⟩
      · cases hkk
      · have : k = q := by simpa [Value.ownBlock] using hkk
        subst this
        exact .inr ⟨_, _, hq⟩
    · exact .inl (h3.block k hk hkk)
  unfold Oper.wp execOp
  simp only [ho, hty, resolve, invoke, builtin, Sem.run_bind, Sem.run_pure, Result.andThen_ok, List.map_toArray, List.map_cons, List.map_nil, hs, hx, hrun]
  exact hK _ _ (hk A' c' w' h2 hb hoth)

/-- The same, of rows. -/
theorem wpList_append_oth {α : Type} {P : Program} {f : α → Value} (hf : ∀ x, (f x).oneCell' = true) {t e : TypeId} (ht : P.underlying t = some (.slice e)) {z : Value} {bytes : Nat} (hinfo : (P.info? e).map (fun i => (i.zero, i.size, i.bytes)) = some (some z, 1, bytes)) (hzs : z.cells.size = 1)
    {w : World} {ops : Array Oper} {rest : List Oper} {o : Oper} {a : Act} {Q : Exit → Act → World → Prop} (hgd : o.guard = none) (s x : Operand)
    (ho : o.op = .call { callee := .builtin .append, args := #[s, x], argTypes := #[t, t] }) (hty : o.type = t)
    (base : Nat) (sv : Value) (n : Nat) (l : List α) (hs : a.eval s = sv) (hown : Owns f e base w sv n l) (A : Addr) (m c : Nat) (l' : List α) (hx : a.eval x = .slice (some A) m c) (h : Row f w (some A) m c l')
    (hbig : n + m ≤ 140737488351232) (hby : (n + m) * bytes ≤ 140737488355328) (hbase : base ≤ w.heap.size)
    (hk : ∀ A' c' w', Owns f e base w' (.slice A' (n + m) c') (n + m) (l ++ l') → Below base w w' → Oth e w w' → wpList P ops Q rest (a.put o.dst (.slice A' (n + m) c')) w') :
    wpList P ops Q (o :: rest) a w := by
  refine wpList_append_wide ht hinfo hzs (by omega) hgd s x ho hty base sv n (l.map f) hs hown A m c (l'.map f) hx (by simp [h.len]) (fun j u hj => ?_) (fun u hu => ?_) hbig hby hbase fun A' c' w' h1 h2 h3 => hk A' c' w' (by unfold Owns; rw [List.map_append]; exact h1) h2 h3
  · rw [List.getElem?_map] at hj
    obtain ⟨y, hy, rfl⟩ := Option.map_eq_some_iff.1 hj
    have hlt : j < l'.length := (List.getElem?_eq_some_iff.1 hy).1
    obtain ⟨b, o, e, -, hc⟩ := h.at_ (by have := h.len; omega)
    injection e with e
    subst e
    rw [add_none]
    exact hc j y hy
  · obtain ⟨y, -, rfl⟩ := List.mem_map.1 hu
    exact hf y
theorem Oth.box {e : TypeId} {w w' : World} {g : Nat} {t : TypeId} {cs : Array Value} (h : Cells w g t cs) (ho : Oth e w w') (hne : t ≠ e) : Cells w' g t cs := by
  rcases ho.block g (Cells.lt h) with h1 | ⟨cur, z, h1⟩
  · exact h1.trans h
  · have h2 := h1.symm.trans h
    injection h2 with h2
    injection h2 with _ h3
    exact absurd h3.symm hne

/-- A store into a block of another type of elements. -/
theorem Owns.otherT {α : Type} {f : α → Value} {e : TypeId} {base : Nat} {w : World} {s : Value} {n : Nat} {l : List α} (h : Owns f e base w s n l) {g : Nat} {t : TypeId} {cs : Array Value} (hc : Cells w g t cs) (hne : t ≠ e) (i : Nat) (v : Value) :
    Owns f e base (w.setCell ⟨g, i, none⟩ v) s n l := by
  refine ⟨h.1, ?_⟩
  rcases h.2 with hn | ⟨q, cap, cur, e1, hbg, hq, r⟩
  · exact .inl hn
  · refine .inr ⟨q, cap, cur, e1, hbg, ?_, r⟩
    refine (Below.heap_setCell _ _ _ _ ?_).trans hq
    intro hqg
    obtain rfl : q = g := hqg
    have h2 := hq.symm.trans hc
    injection h2 with h2
    injection h2 with _ h3
    exact hne h3.symm
theorem Box.belowB {w w' : World} {g K : Nat} {z : Zn} {D : Option Addr} {c : Nat} (h : Box w g z D c) (hg : g < K) (hb : Below K w w') : Box w' g z D c := (hb.block g hg).trans h

/-- A zone written into the block of the result, and what a call gave with it. -/
theorem gave_nil3 {w W : World} {x y v : Value} {rest : List Value} (h : Below w.heap.size w W) : GaveZ w nilZ rest (.returned (.tuple (zv nilZ none 0 :: rest).toArray)) (((W.setCell ⟨w.heap.size + 1, 0, none⟩ x).setCell ⟨w.heap.size + 1, 1, none⟩ y).setCell ⟨w.heap.size + 1, 2, none⟩ v) :=
  ⟨none, 0, rfl, Owns.nil _ _ _ _, below3 h (by omega) _ _ _⟩

theorem row_new {α : Type} (f : α → Value) (w : World) (l : List α) (t : TypeId) (hn : l.length ≤ 140737488351232) {vs : Array Value} (hv : vs = (l.map f).toArray) {fr : Nat × Nat} {q : Nat} (hq : q = w.heap.size) : Row f (w.alloc (.cells vs t fr)) (some ⟨q, 0, none⟩) l.length l.length l := by
  subst hv hq
  refine ⟨rfl, Nat.le_refl _, hn, fun _ => ⟨_, _, rfl, by simp, fun i y hi => ?_⟩⟩
  rw [cell_of_row _ w.heap.size (0 + i) _ _ fr (heap_alloc_new w _)]
  simp [hi]

end Zon
end Go.Proofs.YtedandbkdjmfhaaGreat
