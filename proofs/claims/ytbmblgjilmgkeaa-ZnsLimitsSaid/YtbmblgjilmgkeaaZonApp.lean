/-
  A WALK OVER zone.Append: bytes appended, or why not.
-/
import Derived.Test.YtbmblgjilmgkeaaZonCheck
namespace Go.Proofs.Ytbmblgjilmgkeaa
open Go.RowKit Mem
namespace Zon

/-- A zone, whose bytes are the call's own, and more, as a call gave them. -/
def GaveZ (w : World) (z : Zn) (rest : List Value) (en : Ending) (w' : World) : Prop :=
  ∃ D c, en = .returned (.tuple (zv z D c :: rest).toArray) ∧ Owns cb 5 w.heap.size w' (.slice D z.data.length c) z.data.length z.data ∧ Below w.heap.size w w'
theorem GaveZ.nil {w w' : World} {st fc : Int} {rest : List Value} (hb : Below w.heap.size w w') : GaveZ w ⟨st, fc, []⟩ rest (.returned (.tuple (zv ⟨st, fc, []⟩ none 0 :: rest).toArray)) w' := ⟨none, 0, rfl, Owns.nil _ _ _ _, hb⟩

theorem Box.store {w : World} {g : Nat} {z : Zn} {D : Option Addr} {c : Nat} (h : Box w g z D c) (z' : Zn) (D' : Option Addr) (c' : Nat) :
    Box (((w.setCell ⟨g, 0, none⟩ (.int .i64 z'.st)).setCell ⟨g, 1, none⟩ (.int .i64 z'.fc)).setCell ⟨g, 2, none⟩ (.slice D' z'.data.length c')) g z' D' c' :=
  Cells.set_ (Cells.set_ (Cells.set_ h 0 (.int .i64 z'.st)) 1 (.int .i64 z'.fc)) 2 (.slice D' z'.data.length c')
theorem Box.other3 {w : World} {g g' : Nat} {z : Zn} {D : Option Addr} {c : Nat} (h : Box w g z D c) (hg : g' ≠ g) (x y v : Value) :
    Box (((w.setCell ⟨g', 0, none⟩ x).setCell ⟨g', 1, none⟩ y).setCell ⟨g', 2, none⟩ v) g z D c := Cells.set_other (Cells.set_other (Cells.set_other h hg 0 x) hg 1 y) hg 2 v
theorem below3 {B g : Nat} {a w : World} (h : Below B a w) (hg : B ≤ g) (x y v : Value) : Below B a (((w.setCell ⟨g, 0, none⟩ x).setCell ⟨g, 1, none⟩ y).setCell ⟨g, 2, none⟩ v) :=
  ((h.setCell (p := ⟨g, 0, none⟩) hg x).setCell (p := ⟨g, 1, none⟩) hg y).setCell (p := ⟨g, 2, none⟩) hg v
theorem Owns.other {α : Type} {f : α → Value} {e : TypeId} {base : Nat} {w : World} {s : Value} {n : Nat} {l : List α} (h : Owns f e base w s n l) {p : Addr} (hp : p.block < base) (v : Value) : Owns f e base (w.setCell p v) s n l :=
  ownsRow_setCell_below h hp v
theorem Owns.other3 {α : Type} {f : α → Value} {e : TypeId} {base g : Nat} {w : World} {s : Value} {n : Nat} {l : List α} (h : Owns f e base w s n l) (hg : g < base) (x y v : Value) :
    Owns f e base (((w.setCell ⟨g, 0, none⟩ x).setCell ⟨g, 1, none⟩ y).setCell ⟨g, 2, none⟩ v) s n l :=
  Owns.other (Owns.other (Owns.other h (p := ⟨g, 0, none⟩) hg x) (p := ⟨g, 1, none⟩) hg y) (p := ⟨g, 2, none⟩) hg v

/-- Two slices of bytes in one block. -/
theorem row_two {w : World} {A B : Option Addr} {n c m d : Nat} {a b : List B8} {t : TypeId} {q : Nat} (hq : q = w.heap.size) :
    Row Piece.val (w.alloc (.cells #[.slice A n c, .slice B m d] t)) (some ⟨q, 0, none⟩) 2 2 [⟨A, n, c, a⟩, ⟨B, m, d, b⟩] := by
  subst hq
  refine ⟨rfl, by omega, by omega, fun _ => ⟨_, _, rfl, by simp, fun i x hi => ?_⟩⟩
  rw [cell_of_row _ w.heap.size (0 + i) _ _ (0, 0) (heap_alloc_new w _)]
  match i, hi with
  | 0, hi => simp at hi; subst hi; rfl
  | 1, hi => simp at hi; subst hi; rfl

set_option maxRecDepth 100000 in
set_option maxHeartbeats 1600000 in
theorem append_bad {z : Zn} {D : Option Addr} {c : Nat} {most : Int} {B : Option Addr} {n d : Nat} {w : World} (hn : n ≤ 140737488351232) {er : Int} (he : appErr z most n = er) (h0 : er ≠ 0) :
    Calls Try.prog 50 #[zv z D c, .int .i64 most, .slice B n d] w (GaveZ w nilZ [.int .i64 0, .int .i64 er]) := by
  have HE := fun w => Lib.hid (appendError_any z D c most B n d hn w)
  rw [he] at HE
  have L1 := Lib.hid (((Below.refl w.heap.size w).alloc (Nat.le_refl _) (.cells #[.int .i64 z.st, .int .i64 z.fc, .slice D z.data.length c] 42)).alloc (by simp) (.cells #[.int .i64 0, .int .i64 0, .slice none 0 0] 42))
  have B2 : Hid (Box ((w.alloc (.cells #[.int .i64 z.st, .int .i64 z.fc, .slice D z.data.length c] 42)).alloc (.cells #[.int .i64 0, .int .i64 0, .slice none 0 0] 42)) (w.heap.size + 1) nilZ none 0) := heap_alloc2_new w _ _
  have hb : (er != 0) = true := bne_iff_ne.2 h0
  clear he h0
  unfold zv at *
  go_enter Try.func50, Try.ntmps50
  go_wp2_with fail
  generalize (w.alloc (.cells #[.int .i64 z.st, .int .i64 z.fc, .slice D z.data.length c] 42)).alloc (.cells #[.int .i64 0, .int .i64 0, .slice none 0 0] 42) = w1 at *
  refine (HE w1).out.mono ?_
  rintro e w2 ⟨rfl, hb2⟩
  have L2 := Lib.hid (L1.out.trans (hb2.mono L1.out.size))
  have B3 := Lib.hid (B2.out.below hb2)
  obtain ⟨c0, c1, c2⟩ := B3.out.cells
  obtain ⟨f0, f1, f2⟩ := B3.out.frozen
  clear hb2
  go_wp2_with fail
  refine bodyPost_ret_by (results_zone_tmp2 rfl _ _ (w.heap.size + 1) _ _ _ _ rfl (Box.store B3.out nilZ none 0) Try.underlying42 rfl (by kernel_rfl)) rfl ?_
  exact GaveZ.nil (below3 L2.out (by omega) _ _ _)

set_option maxRecDepth 100000 in
set_option maxHeartbeats 1600000 in
theorem append_ok {z : Zn} {D : Option Addr} {c : Nat} {most : Int} {b : List B8} {B : Option Addr} {d : Nat} {w : World} (h1 : Row cb w D z.data.length c z.data) (h2 : Row cb w B b.length d b) (he : appErr z most b.length = 0) :
    Calls Try.prog 50 #[zv z D c, .int .i64 most, .slice B b.length d] w (GaveZ w (appZ z most b) [.int .i64 z.len, .int .i64 0]) := by
  have HE := fun w => Lib.hid (appendError_any z D c most B b.length d h2.big w)
  rw [he] at HE
  have HS := fun w => stateBehind_any z.st (z.len + b.length) most w
  obtain ⟨ho, -, -, hle⟩ := appErr_zero he
  obtain ⟨p1, p2, -, -, -⟩ := ok_parts ho
  have H1 := Lib.hid h1
  have H2 := Lib.hid h2
  have hsum : z.data.length + b.length ≤ 65536 := by unfold Zn.len at hle; omega
  have HCC := fun (w : World) (q : Nat) (hq : q = w.heap.size) (h1 : Row cb w D z.data.length c z.data) (h2 : Row cb w B b.length d b) => Lib.hid (concat_any (row_two (A := D) (B := B) (n := z.data.length) (c := c) (m := b.length) (d := d) (a := z.data) (b := b) (t := 34) hq)
    (by intro p hp; simp at hp; rcases hp with rfl | rfl; exact h1.alloc _; exact h2.alloc _) (by simp [total]; omega))
  have hj : joined [⟨D, z.data.length, c, z.data⟩, ⟨B, b.length, d, b⟩] = z.data ++ b := by simp [joined]
  rw [hj] at HCC
  obtain ⟨y, hy⟩ : ∃ y, z.data ++ b = y := ⟨_, rfl⟩
  have hap : appZ z most b = ⟨stB z.st (z.len + b.length) most, z.fc, y⟩ := by unfold appZ; rw [hy]
  rw [hy] at HCC
  rw [hap]
  have L1 := Lib.hid (((Below.refl w.heap.size w).alloc (Nat.le_refl _) (.cells #[.int .i64 z.st, .int .i64 z.fc, .slice D z.data.length c] 42)).alloc (by simp) (.cells #[.int .i64 0, .int .i64 0, .slice none 0 0] 42))
  have B1 : Hid (Box ((w.alloc (.cells #[.int .i64 z.st, .int .i64 z.fc, .slice D z.data.length c] 42)).alloc (.cells #[.int .i64 0, .int .i64 0, .slice none 0 0] 42)) w.heap.size z D c) := heap_alloc2_old w _ _
  have B2 : Hid (Box ((w.alloc (.cells #[.int .i64 z.st, .int .i64 z.fc, .slice D z.data.length c] 42)).alloc (.cells #[.int .i64 0, .int .i64 0, .slice none 0 0] 42)) (w.heap.size + 1) nilZ none 0) := heap_alloc2_new w _ _
  have hwr : IntKind.i64.wrap ((z.data.length : Int) + (b.length : Int)) = (z.data.length : Int) + (b.length : Int) := by rw [IntKind.wrap_i64]; omega
  clear he ho p1 p2 hle h1 h2 hj hap hy
  unfold zv Zn.len at *
  go_enter Try.func50, Try.ntmps50
  go_wp2_with fail
  generalize (w.alloc (.cells #[.int .i64 z.st, .int .i64 z.fc, .slice D z.data.length c] 42)).alloc (.cells #[.int .i64 0, .int .i64 0, .slice none 0 0] 42) = w1 at *
  refine (HE w1).out.mono ?_
  rintro e w2 ⟨rfl, hb2⟩
  have L2 := Lib.hid (L1.out.trans (hb2.mono L1.out.size))
  have A2 := Lib.hid (B1.out.below hb2)
  have B3 := Lib.hid (B2.out.below hb2)
  have hc := A2.out.cells
  obtain ⟨c0, c1, c2⟩ := A2.out.cells
  clear hb2 B1 B2 L1 HE
  go_wp2_with fail
  clear c0 c1 c2
  have A3 : Hid (Box w2.drew w.heap.size z D c) := A2
  have N3 : Hid (Box w2.drew (w.heap.size + 1) nilZ none 0) := B3
  have L3 : Hid (Below w.heap.size w w2.drew) := L2.out.trans ((Below.refl _ w2).drew.mono L2.out.size)
  clear A2 B3 L2
  have hcell := fun W (h : Box W w.heap.size z D c) => h.cells
  refine wp_region_held_drew (S := fun W => W.cell? ⟨w.heap.size, 0, none⟩ = some (.int .i64 z.st) ∧ W.cell? ⟨w.heap.size, 1, none⟩ = some (.int .i64 z.fc) ∧ W.cell? ⟨w.heap.size, 2, none⟩ = some (.slice D z.data.length c))
    (by kernel_rfl) (hcell w2.drew A3.out) (fun hHeld => ?_)
  (first | (refine Reg.take 0 (v := ?_) rfl (by kernel_rfl) (by kernel_rfl) (by kernel_rfl) (fun _ _ _ h => h) (Or.inl ⟨by rfl, ?_⟩) (by assumption) ?_; rotate_left; (focus ((intro W hSW); (try dsimp only at hSW); (try go_split_ands); go_simp; (try (with_reducible rfl)); done))) | (refine Reg.take 0 (v := undef) rfl (by kernel_rfl) (by kernel_rfl) (by kernel_rfl) (fun _ _ _ h => h) (Or.inr ⟨by rfl, rfl⟩) (by assumption) ?_))
  (try simp only [Act.put, List.setIfInBounds_toArray, List.set_cons_zero, List.set_cons_succ])
  (first | (refine Reg.take 1 (v := ?_) rfl (by kernel_rfl) (by kernel_rfl) (by kernel_rfl) (fun _ _ _ h => h) (Or.inl ⟨by rfl, ?_⟩) (by assumption) ?_; rotate_left; (focus ((intro W hSW); (try dsimp only at hSW); (try go_split_ands); go_simp; (try (with_reducible rfl)); done))) | (refine Reg.take 1 (v := undef) rfl (by kernel_rfl) (by kernel_rfl) (by kernel_rfl) (fun _ _ _ h => h) (Or.inr ⟨by rfl, rfl⟩) (by assumption) ?_))
  (try simp only [Act.put, List.setIfInBounds_toArray, List.set_cons_zero, List.set_cons_succ])
  (first | (refine Reg.take 2 (v := ?_) rfl (by kernel_rfl) (by kernel_rfl) (by kernel_rfl) (fun _ _ _ h => h) (Or.inl ⟨by rfl, ?_⟩) (by assumption) ?_; rotate_left; (focus ((intro W hSW); (try dsimp only at hSW); (try go_split_ands); go_simp; (try (with_reducible rfl)); done))) | (refine Reg.take 2 (v := undef) rfl (by kernel_rfl) (by kernel_rfl) (by kernel_rfl) (fun _ _ _ h => h) (Or.inr ⟨by rfl, rfl⟩) (by assumption) ?_))
  (try simp only [Act.put, List.setIfInBounds_toArray, List.set_cons_zero, List.set_cons_succ])
  (first | (refine Reg.take 3 (v := ?_) rfl (by kernel_rfl) (by kernel_rfl) (by kernel_rfl) (fun _ _ _ h => h) (Or.inl ⟨by rfl, ?_⟩) (by assumption) ?_; rotate_left; (focus ((intro W hSW); (try dsimp only at hSW); (try go_split_ands); go_simp; (try (with_reducible rfl)); done))) | (refine Reg.take 3 (v := undef) rfl (by kernel_rfl) (by kernel_rfl) (by kernel_rfl) (fun _ _ _ h => h) (Or.inr ⟨by rfl, rfl⟩) (by assumption) ?_))
  (try simp only [Act.put, List.setIfInBounds_toArray, List.set_cons_zero, List.set_cons_succ])
  (first | (refine Reg.take 4 (v := ?_) rfl (by kernel_rfl) (by kernel_rfl) (by kernel_rfl) (fun _ _ _ h => h) (Or.inl ⟨by rfl, ?_⟩) (by assumption) ?_; rotate_left; (focus ((intro W hSW); (try dsimp only at hSW); (try go_split_ands); go_simp; (try (with_reducible rfl)); done))) | (refine Reg.take 4 (v := undef) rfl (by kernel_rfl) (by kernel_rfl) (by kernel_rfl) (fun _ _ _ h => h) (Or.inr ⟨by rfl, rfl⟩) (by assumption) ?_))
  (try simp only [Act.put, List.setIfInBounds_toArray, List.set_cons_zero, List.set_cons_succ])
  (first | (refine Reg.take 5 (v := ?_) rfl (by kernel_rfl) (by kernel_rfl) (by kernel_rfl) (fun _ _ _ h => h) (Or.inl ⟨by rfl, ?_⟩) (by assumption) ?_; rotate_left; (focus ((intro W hSW); (try dsimp only at hSW); (try go_split_ands); go_simp; (try (with_reducible rfl)); done))) | (refine Reg.take 5 (v := undef) rfl (by kernel_rfl) (by kernel_rfl) (by kernel_rfl) (fun _ _ _ h => h) (Or.inr ⟨by rfl, rfl⟩) (by assumption) ?_))
  (try simp only [Act.put, List.setIfInBounds_toArray, List.set_cons_zero, List.set_cons_succ])
  (first | (refine Reg.take 6 (v := ?_) rfl (by kernel_rfl) (by kernel_rfl) (by kernel_rfl) (fun _ _ _ h => h) (Or.inl ⟨by rfl, ?_⟩) (by assumption) ?_; rotate_left; (focus ((intro W hSW); (try dsimp only at hSW); (try go_split_ands); go_simp; (try (with_reducible rfl)); done))) | (refine Reg.take 6 (v := undef) rfl (by kernel_rfl) (by kernel_rfl) (by kernel_rfl) (fun _ _ _ h => h) (Or.inr ⟨by rfl, rfl⟩) (by assumption) ?_))
  (try simp only [Act.put, List.setIfInBounds_toArray, List.set_cons_zero, List.set_cons_succ])
  (first | (refine Reg.take 8 (v := ?_) rfl (by kernel_rfl) (by kernel_rfl) (by kernel_rfl) (fun _ _ _ h => h) (Or.inl ⟨by rfl, ?_⟩) (by assumption) ?_; rotate_left; (focus ((intro W hSW); (try dsimp only at hSW); (try go_split_ands); go_simp; (try (with_reducible rfl)); done))) | (refine Reg.take 8 (v := undef) rfl (by kernel_rfl) (by kernel_rfl) (by kernel_rfl) (fun _ _ _ h => h) (Or.inr ⟨by rfl, rfl⟩) (by assumption) ?_))
  (try simp only [Act.put, List.setIfInBounds_toArray, List.set_cons_zero, List.set_cons_succ])
  (first | (refine Reg.take 9 (v := ?_) rfl (by kernel_rfl) (by kernel_rfl) (by kernel_rfl) (fun _ _ _ h => h) (Or.inl ⟨by rfl, ?_⟩) (by assumption) ?_; rotate_left; (focus ((intro W hSW); (try dsimp only at hSW); (try go_split_ands); go_simp; (try (with_reducible rfl)); done))) | (refine Reg.take 9 (v := undef) rfl (by kernel_rfl) (by kernel_rfl) (by kernel_rfl) (fun _ _ _ h => h) (Or.inr ⟨by rfl, rfl⟩) (by assumption) ?_))
  (try simp only [Act.put, List.setIfInBounds_toArray, List.set_cons_zero, List.set_cons_succ])
  (first | (refine Reg.take 10 (v := ?_) rfl (by kernel_rfl) (by kernel_rfl) (by kernel_rfl) (fun _ _ _ h => h) (Or.inl ⟨by rfl, ?_⟩) (by assumption) ?_; rotate_left; (focus ((intro W hSW); (try dsimp only at hSW); (try go_split_ands); go_simp; (try (with_reducible rfl)); done))) | (refine Reg.take 10 (v := undef) rfl (by kernel_rfl) (by kernel_rfl) (by kernel_rfl) (fun _ _ _ h => h) (Or.inr ⟨by rfl, rfl⟩) (by assumption) ?_))
  (try simp only [Act.put, List.setIfInBounds_toArray, List.set_cons_zero, List.set_cons_succ])
  (first | (refine Reg.take 11 (v := ?_) rfl (by kernel_rfl) (by kernel_rfl) (by kernel_rfl) (fun _ _ _ h => h) (Or.inl ⟨by rfl, ?_⟩) (by assumption) ?_; rotate_left; (focus ((intro W hSW); (try dsimp only at hSW); (try go_split_ands); go_simp; (try (with_reducible rfl)); done))) | (refine Reg.take 11 (v := undef) rfl (by kernel_rfl) (by kernel_rfl) (by kernel_rfl) (fun _ _ _ h => h) (Or.inr ⟨by rfl, rfl⟩) (by assumption) ?_))
  (try simp only [Act.put, List.setIfInBounds_toArray, List.set_cons_zero, List.set_cons_succ])
  (first | (refine Reg.take 12 (v := ?_) rfl (by kernel_rfl) (by kernel_rfl) (by kernel_rfl) (fun _ _ _ h => h) (Or.inl ⟨by rfl, ?_⟩) (by assumption) ?_; rotate_left; (focus ((intro W hSW); (try dsimp only at hSW); (try go_split_ands); go_simp; (try (with_reducible rfl)); done))) | (refine Reg.take 12 (v := undef) rfl (by kernel_rfl) (by kernel_rfl) (by kernel_rfl) (fun _ _ _ h => h) (Or.inr ⟨by rfl, rfl⟩) (by assumption) ?_))
  (try simp only [Act.put, List.setIfInBounds_toArray, List.set_cons_zero, List.set_cons_succ])
  (first | (refine Reg.take 16 (v := ?_) rfl (by kernel_rfl) (by kernel_rfl) (by kernel_rfl) (fun _ _ _ h => h) (Or.inl ⟨by rfl, ?_⟩) (by assumption) ?_; rotate_left; (focus ((intro W hSW); (try dsimp only at hSW); (try go_split_ands); go_simp; (try (with_reducible rfl)); done))) | (refine Reg.take 16 (v := undef) rfl (by kernel_rfl) (by kernel_rfl) (by kernel_rfl) (fun _ _ _ h => h) (Or.inr ⟨by rfl, rfl⟩) (by assumption) ?_))
  (try simp only [Act.put, List.setIfInBounds_toArray, List.set_cons_zero, List.set_cons_succ])
  refine Reg.step2 7 13 rfl rfl (by kernel_rfl) (by rfl) (by rfl) (fun K hK => ?_) (fun K hK => ?_)
  · go_simp
    refine (HS _).mono ?_
    rintro e wx ⟨rfl, hwx⟩
    subst hwx
    refine hK.out _ _ (hcell _ A3.out) (fun hHeld2 => ?_)
    clear hK K
    (try simp only [Act.put, List.setIfInBounds_toArray, List.set_cons_zero, List.set_cons_succ])
    refine Reg.step 13 rfl (by kernel_rfl) (by rfl) (fun K hK => ?_)
    go_simp
    have A4 := Lib.hid (A3.out.alloc (.cells #[.slice D z.data.length c, .slice B b.length d] 34))
    refine hK.out _ _ (hcell _ A4.out) (fun hHeld3 => ?_)
    clear hK K
    (try simp only [Act.put, List.setIfInBounds_toArray, List.set_cons_zero, List.set_cons_succ])
    refine Reg.step 14 rfl (by kernel_rfl) (by rfl) (fun K hK => ?_)
    go_simp
    refine (HCC w2.drew _ rfl (H1.out.below L3.out) (H2.out.below L3.out)).out.mono ?_
    rintro e w5 ⟨X, k, q, rfl, hX, hb5⟩
    obtain rfl : k = y.length := hX.len.symm
    have b35 : Below w2.drew.heap.size w2.drew w5 := ((Below.refl _ w2.drew).alloc (Nat.le_refl _) _).trans (hb5.mono (by simp))
    have A5 := Lib.hid (A3.out.below b35)
    have N5 := Lib.hid (N3.out.below b35)
    have L5 := Lib.hid (L3.out.trans (b35.mono L3.out.size))
    have O5 := Lib.hid (hX.mono (base' := w2.drew.heap.size + 1) (by simp))
    clear b35 hX hb5
    refine hK.out _ _ (hcell _ A5.out) (fun hHeld4 => ?_)
    clear hK K
    (try simp only [Act.put, List.setIfInBounds_toArray, List.set_cons_zero, List.set_cons_succ])
    (first | (refine Reg.take 15 (v := ?_) rfl (by kernel_rfl) (by kernel_rfl) (by kernel_rfl) (fun _ _ _ h => h) (Or.inl ⟨by rfl, ?_⟩) (by assumption) ?_; rotate_left; (focus ((intro W hSW); (try dsimp only at hSW); (try go_split_ands); go_simp; (try (with_reducible rfl)); done))) | (refine Reg.take 15 (v := undef) rfl (by kernel_rfl) (by kernel_rfl) (by kernel_rfl) (fun _ _ _ h => h) (Or.inr ⟨by rfl, rfl⟩) (by assumption) ?_))
    (try simp only [Act.put, List.setIfInBounds_toArray, List.set_cons_zero, List.set_cons_succ])
    refine Reg.step 17 rfl (by kernel_rfl) (by rfl) (fun K hK => ?_)
    obtain ⟨f0, f1, f2⟩ := N5.out.frozen
    obtain ⟨n0, n1, n2⟩ := N5.out.cells
    go_simp
    refine hK.out _ _ (hcell _ (A5.out.other3 (by omega) _ _ _)) (fun hHeld5 => ?_)
    clear hK K
    (try simp only [Act.put, List.setIfInBounds_toArray, List.set_cons_zero, List.set_cons_succ])
    (first | (refine Reg.take 18 (v := ?_) rfl (by kernel_rfl) (by kernel_rfl) (by kernel_rfl) (fun _ _ _ h => h) (Or.inl ⟨by rfl, ?_⟩) (by assumption) ?_; rotate_left; (focus ((intro W hSW); (try dsimp only at hSW); (try go_split_ands); go_simp; (try (with_reducible rfl)); done))) | (refine Reg.take 18 (v := undef) rfl (by kernel_rfl) (by kernel_rfl) (by kernel_rfl) (fun _ _ _ h => h) (Or.inr ⟨by rfl, rfl⟩) (by assumption) ?_))
    (try simp only [Act.put, List.setIfInBounds_toArray, List.set_cons_zero, List.set_cons_succ])
    (first | (refine Reg.take 19 (v := ?_) rfl (by kernel_rfl) (by kernel_rfl) (by kernel_rfl) (fun _ _ _ h => h) (Or.inl ⟨by rfl, ?_⟩) (by assumption) ?_; rotate_left; (focus ((intro W hSW); (try dsimp only at hSW); (try go_split_ands); go_simp; (try (with_reducible rfl)); done))) | (refine Reg.take 19 (v := undef) rfl (by kernel_rfl) (by kernel_rfl) (by kernel_rfl) (fun _ _ _ h => h) (Or.inr ⟨by rfl, rfl⟩) (by assumption) ?_))
    (try simp only [Act.put, List.setIfInBounds_toArray, List.set_cons_zero, List.set_cons_succ])
    refine wpAnyH_done (by kernel_rfl) ?_ _
    go_wp2_with fail
    refine bodyPost_ret_by (results_zone_tmp2 rfl _ _ (w.heap.size + 1) _ _ _ _ rfl (Box.store N5.out ⟨stB z.st (z.len + b.length) most, z.fc, y⟩ X q) Try.underlying42 rfl (by kernel_rfl)) rfl ?_
    exact ⟨X, q, rfl, (Owns.other3 (g := w.heap.size + 1) O5.out (by have := N3.out.lt; omega) _ _ _).mono (by have := N3.out.lt; omega), below3 L5.out (by omega) _ _ _⟩
  · go_simp
    have A4 := Lib.hid (A3.out.alloc (.cells #[.slice D z.data.length c, .slice B b.length d] 34))
    refine hK.out _ _ (hcell _ A4.out) (fun hHeld3 => ?_)
    clear hK K
    (try simp only [Act.put, List.setIfInBounds_toArray, List.set_cons_zero, List.set_cons_succ])
    refine Reg.step 7 rfl (by kernel_rfl) (by rfl) (fun K hK => ?_)
    go_simp
    refine (HS _).mono ?_
    rintro e wx ⟨rfl, hwx⟩
    subst hwx
    refine hK.out _ _ (hcell _ A4.out) (fun hHeld2 => ?_)
    clear hK K
    (try simp only [Act.put, List.setIfInBounds_toArray, List.set_cons_zero, List.set_cons_succ])
    refine Reg.step 14 rfl (by kernel_rfl) (by rfl) (fun K hK => ?_)
    go_simp
    refine (HCC w2.drew _ rfl (H1.out.below L3.out) (H2.out.below L3.out)).out.mono ?_
    rintro e w5 ⟨X, k, q, rfl, hX, hb5⟩
    obtain rfl : k = y.length := hX.len.symm
    have b35 : Below w2.drew.heap.size w2.drew w5 := ((Below.refl _ w2.drew).alloc (Nat.le_refl _) _).trans (hb5.mono (by simp))
    have A5 := Lib.hid (A3.out.below b35)
    have N5 := Lib.hid (N3.out.below b35)
    have L5 := Lib.hid (L3.out.trans (b35.mono L3.out.size))
    have O5 := Lib.hid (hX.mono (base' := w2.drew.heap.size + 1) (by simp))
    clear b35 hX hb5
    refine hK.out _ _ (hcell _ A5.out) (fun hHeld4 => ?_)
    clear hK K
    (try simp only [Act.put, List.setIfInBounds_toArray, List.set_cons_zero, List.set_cons_succ])
    (first | (refine Reg.take 15 (v := ?_) rfl (by kernel_rfl) (by kernel_rfl) (by kernel_rfl) (fun _ _ _ h => h) (Or.inl ⟨by rfl, ?_⟩) (by assumption) ?_; rotate_left; (focus ((intro W hSW); (try dsimp only at hSW); (try go_split_ands); go_simp; (try (with_reducible rfl)); done))) | (refine Reg.take 15 (v := undef) rfl (by kernel_rfl) (by kernel_rfl) (by kernel_rfl) (fun _ _ _ h => h) (Or.inr ⟨by rfl, rfl⟩) (by assumption) ?_))
    (try simp only [Act.put, List.setIfInBounds_toArray, List.set_cons_zero, List.set_cons_succ])
    refine Reg.step 17 rfl (by kernel_rfl) (by rfl) (fun K hK => ?_)
    obtain ⟨f0, f1, f2⟩ := N5.out.frozen
    obtain ⟨n0, n1, n2⟩ := N5.out.cells
    go_simp
    refine hK.out _ _ (hcell _ (A5.out.other3 (by omega) _ _ _)) (fun hHeld5 => ?_)
    clear hK K
    (try simp only [Act.put, List.setIfInBounds_toArray, List.set_cons_zero, List.set_cons_succ])
    (first | (refine Reg.take 18 (v := ?_) rfl (by kernel_rfl) (by kernel_rfl) (by kernel_rfl) (fun _ _ _ h => h) (Or.inl ⟨by rfl, ?_⟩) (by assumption) ?_; rotate_left; (focus ((intro W hSW); (try dsimp only at hSW); (try go_split_ands); go_simp; (try (with_reducible rfl)); done))) | (refine Reg.take 18 (v := undef) rfl (by kernel_rfl) (by kernel_rfl) (by kernel_rfl) (fun _ _ _ h => h) (Or.inr ⟨by rfl, rfl⟩) (by assumption) ?_))
    (try simp only [Act.put, List.setIfInBounds_toArray, List.set_cons_zero, List.set_cons_succ])
    (first | (refine Reg.take 19 (v := ?_) rfl (by kernel_rfl) (by kernel_rfl) (by kernel_rfl) (fun _ _ _ h => h) (Or.inl ⟨by rfl, ?_⟩) (by assumption) ?_; rotate_left; (focus ((intro W hSW); (try dsimp only at hSW); (try go_split_ands); go_simp; (try (with_reducible rfl)); done))) | (refine Reg.take 19 (v := undef) rfl (by kernel_rfl) (by kernel_rfl) (by kernel_rfl) (fun _ _ _ h => h) (Or.inr ⟨by rfl, rfl⟩) (by assumption) ?_))
    (try simp only [Act.put, List.setIfInBounds_toArray, List.set_cons_zero, List.set_cons_succ])
    refine wpAnyH_done (by kernel_rfl) ?_ _
    go_wp2_with fail
    refine bodyPost_ret_by (results_zone_tmp2 rfl _ _ (w.heap.size + 1) _ _ _ _ rfl (Box.store N5.out ⟨stB z.st (z.len + b.length) most, z.fc, y⟩ X q) Try.underlying42 rfl (by kernel_rfl)) rfl ?_
    exact ⟨X, q, rfl, (Owns.other3 (g := w.heap.size + 1) O5.out (by have := N3.out.lt; omega) _ _ _).mono (by have := N3.out.lt; omega), below3 L5.out (by omega) _ _ _⟩
end Zon
end Go.Proofs.Ytbmblgjilmgkeaa
