/-
  WALKS: a zone is laid in its place (put); opened for it if need be (putOpen).
-/
import Derived.Test.YtbmblgjilmgkeaaZnsClose
namespace Go.Proofs.Ytbmblgjilmgkeaa
open Go.RowKit Mem Zon
namespace Zns

/-- An answer in a block of its own. -/
def EBox (w : World) (b : Nat) (e a : Int) (B : Option Addr) (n d : Nat) : Prop := Cells w b 38 #[.int .i64 e, .int .i64 a, .slice B n d]
section
variable {w w' : World} {b : Nat} {e a : Int} {B : Option Addr} {n d : Nat}
theorem EBox.below (h : EBox w b e a B n d) (hb : Below w.heap.size w w') : EBox w' b e a B n d := Cells.below h hb
theorem EBox.lt (h : EBox w b e a B n d) : b < w.heap.size := Cells.lt h
theorem EBox.cells (h : EBox w b e a B n d) : w.cell? ⟨b, 0, none⟩ = some (.int .i64 e) ∧ w.cell? ⟨b, 1, none⟩ = some (.int .i64 a) ∧ w.cell? ⟨b, 2, none⟩ = some (.slice B n d) := ⟨Cells.cell h 0, Cells.cell h 1, Cells.cell h 2⟩
theorem EBox.frozen (h : EBox w b e a B n d) : w.frozen? ⟨b, 0, none⟩ = false ∧ w.frozen? ⟨b, 1, none⟩ = false ∧ w.frozen? ⟨b, 2, none⟩ = false := ⟨Cells.frozen h 0, Cells.frozen h 1, Cells.frozen h 2⟩
theorem EBox.but {q : Nat} (h : EBox w b e a B n d) (hb : But q w w') (hn : b ≠ q) : EBox w' b e a B n d := Cells.but h hb hn
theorem EBox.store (h : EBox w b e a B n d) (e' a' : Int) (B' : Option Addr) (n' d' : Nat) : EBox (((w.setCell ⟨b, 0, none⟩ (.int .i64 e')).setCell ⟨b, 1, none⟩ (.int .i64 a')).setCell ⟨b, 2, none⟩ (.slice B' n' d')) b e' a' B' n' d' :=
  Cells.set_ (Cells.set_ (Cells.set_ h 0 (.int .i64 e')) 1 (.int .i64 a')) 2 (.slice B' n' d')
theorem EBox.row3 {A : Option Addr} {m c : Nat} {l : List B8} (h : EBox w b e a B n d) (hr : Row cb w A m c l) (x y : Int) (B' : Option Addr) (n' d' : Nat) :
    Row cb (((w.setCell ⟨b, 0, none⟩ (.int .i64 x)).setCell ⟨b, 1, none⟩ (.int .i64 y)).setCell ⟨b, 2, none⟩ (.slice B' n' d')) A m c l := by
  have h1 := EBox.cells h
  have s1 : Cells _ b _ _ := Cells.set_ h 0 (.int .i64 x)
  have s2 : Cells _ b _ _ := Cells.set_ s1 1 (.int .i64 y)
  have r1 := Row.setNot hr h1.1 (int_not _) (.int .i64 x)
  have r2 := Row.setNot r1 (show _ = some (.int .i64 a) from Cells.cell s1 1) (int_not _) (.int .i64 y)
  exact Row.setNot r2 (show _ = some (.slice B n d) from Cells.cell s2 2) (slice_not _ _ _) _
end
theorem Desk.other3 {k : Dk} {xs : List Zv} {w : World} {b : Nat} {e a : Int} {B : Option Addr} {n d : Nat} (h : Desk k xs w) (hb : EBox w b e a B n d) (hg : b ≠ k.g) (hq : b ≠ k.q) (x y : Int) (B' : Option Addr) (n' d' : Nat) :
    Desk k xs (((w.setCell ⟨b, 0, none⟩ (.int .i64 x)).setCell ⟨b, 1, none⟩ (.int .i64 y)).setCell ⟨b, 2, none⟩ (.slice B' n' d')) :=
  ⟨Cells.set_other (Cells.set_other (Cells.set_other h.box hg _ _) hg _ _) hg _ _,
    h.own.heap (((Below.heap_setCell _ _ _ _ (Ne.symm hq)).trans (Below.heap_setCell _ _ _ _ (Ne.symm hq))).trans (Below.heap_setCell _ _ _ _ (Ne.symm hq))),
    h.len, h.cap, h.big, fun z hz => EBox.row3 hb (h.data z hz) x y B' n' d', h.ne⟩
theorem But.new1 {q b : Nat} {w w' : World} (h : But q w w') (hb : w.heap.size ≤ b) (i : Nat) (v : Value) : But q w (w'.setCell ⟨b, i, none⟩ v) :=
  ⟨⟨h.1.os, h.1.tape, h.1.output, by have := h.1.size; simpa using this, fun j hj hn => (Below.heap_setCell _ _ _ _ (by show j ≠ b; omega)).trans (h.1.block j hj hn)⟩⟩
theorem Desk.g_lt {k : Dk} {xs : List Zv} {w : World} (h : Desk k xs w) : k.g < w.heap.size := Cells.lt h.box
theorem Desk.q_lt {k : Dk} {xs : List Zv} {w : World} (h : Desk k xs w) : k.q < w.heap.size := h.own.lt

/-- How an act ends: its answer is laid into the result's block. -/
theorem acted_end {k : Dk} {xs xs' : List Zv} {w w' : World} {b : Nat} {e a : Int} {B : Option Addr} {n d : Nat} (h0 : Desk k xs w) (h : Desk k xs' w') (hb : EBox w' b e a B n d) (hbb : w.heap.size ≤ b) (hB : But k.q w w')
    (p : Dn) (X : Option Addr) (c : Nat) (hr : Away k.q w' X p.b.length c p.b) {r : List Zn × Dn} (hz : xs'.map Zv.z = r.1) (hp : p = r.2) :
    Acted k w r (.returned (.agg #[.int .i64 p.e, .int .i64 p.at_, .slice X p.b.length c])) (((w'.setCell ⟨b, 0, none⟩ (.int .i64 p.e)).setCell ⟨b, 1, none⟩ (.int .i64 p.at_)).setCell ⟨b, 2, none⟩ (.slice X p.b.length c)) := by
  subst hp
  have h1 := h0.g_lt
  have h2 := h0.q_lt
  exact ⟨xs', X, c, rfl, h.other3 hb (by omega) (by omega) _ _ _ _ _, hz, ⟨EBox.row3 hb hr.1 _ _ _ _ _, hr.2⟩, But.new1 (But.new1 (But.new1 hB hbb _ _) hbb _ _) hbb _ _⟩
theorem map_set (xs : List Zv) (i : Nat) (x : Zv) : (xs.set i x).map Zv.z = (xs.map Zv.z).set i x.z := List.map_set

def putP (zs : List Zn) (i : Nat) (z : Zn) (e : Int) : List Zn × Dn := bif e == 0 then (zs.set i z, fail_ 0) else (zs, fail_ e)

set_option maxRecDepth 100000 in
set_option maxHeartbeats 3200000 in
theorem put_any {k : Dk} {xs : List Zv} {w : World} {i : Nat} {x : Zv} (z : Zn) (D : Option Addr) (c : Nat) (e : Int) (h : Desk k xs w) (hx : xs[i]? = some x) (hr : Row cb w D z.data.length c z.data) :
    Calls Try.prog 56 #[.pointer (some ⟨k.g, 0, none⟩), .int .i64 (i : Int), zv z D c, .int .i64 e] w (Acted k w (putP (xs.map Zv.z) i z e)) := by
  have H := Lib.hid h
  have HX := Lib.hid hx
  have hi0 : (0 : Int) ≤ (i : Int) := by omega
  have hi1 : (i : Int) < (k.n : Int) := by have := (List.getElem?_eq_some_iff.1 hx).1; have := h.len; omega
  have L1 := Lib.hid (((Below.refl w.heap.size w).alloc (Nat.le_refl _) (.cells #[.int .i64 z.st, .int .i64 z.fc, .slice D z.data.length c] 42)).alloc (by simp) (.cells #[.int .i64 0, .int .i64 0, .slice none 0 0] 38))
  have B1 : Hid (Box ((w.alloc (.cells #[.int .i64 z.st, .int .i64 z.fc, .slice D z.data.length c] 42)).alloc (.cells #[.int .i64 0, .int .i64 0, .slice none 0 0] 38)) w.heap.size z D c) := heap_alloc2_old w _ _
  have N1 : Hid (EBox ((w.alloc (.cells #[.int .i64 z.st, .int .i64 z.fc, .slice D z.data.length c] 42)).alloc (.cells #[.int .i64 0, .int .i64 0, .slice none 0 0] 38)) (w.heap.size + 1) 0 0 none 0 0) := heap_alloc2_new w _ _
  have R := Lib.hid hr
  have hcell := fun W (h : Desk k xs W) (hb : Box W w.heap.size z D c) => And.intro h.cells.2.2.2.1 (And.intro (hb.cells) (And.intro (h.elem hx) (And.intro (h.frozen (k.o + i * 3)) (And.intro (h.frozen (k.o + i * 3 + 1)) (h.frozen (k.o + i * 3 + 2))))))
  clear h hx hr
  unfold zv putP at *
  rcases e0 : (e == 0)
  · go_enter Try.func56, Try.ntmps56
    go_upto_region 3 with fail
    generalize (w.alloc (.cells #[.int .i64 z.st, .int .i64 z.fc, .slice D z.data.length c] 42)).alloc (.cells #[.int .i64 0, .int .i64 0, .slice none 0 0] 38) = w1 at *
    obtain ⟨n0, n1, n2⟩ := N1.out.cells
    obtain ⟨f0, f1, f2⟩ := N1.out.frozen
    go_wp2_with fail
    refine bodyPost_ret_by (results_cell_row rfl _ _ (w.heap.size + 1) _ _ _ _ rfl (EBox.store N1.out e 0 none 0 0) Try.underlying38 rfl (by kernel_rfl)) rfl ?_
    exact acted_end H.out (H.out.below L1.out) N1.out (by omega) (But.of_below L1.out) (fail_ e) none 0 (Away.nil _ _) rfl rfl
  · go_enter Try.func56, Try.ntmps56
    go_upto_region 2 with fail
    generalize (w.alloc (.cells #[.int .i64 z.st, .int .i64 z.fc, .slice D z.data.length c] 42)).alloc (.cells #[.int .i64 0, .int .i64 0, .slice none 0 0] 38) = w1 at *
    have H2 : Hid (Desk k xs w1.drew) := (H.out.below L1.out).below (Below.refl _ w1).drew
    have N2 : Hid (EBox w1.drew (w.heap.size + 1) 0 0 none 0 0) := N1
    have B2 : Hid (Box w1.drew w.heap.size z D c) := B1
    have R2 : Hid (Row cb w1.drew D z.data.length c z.data) := (R.out.below L1.out).drew
    have U2 : Hid (But k.q w w1.drew) := But.of_below L1.out.drew
    clear N1 B1 L1 R
    have HS := Lib.hid (H2.out.store ⟨z, D, c⟩ HX.out R2.out)
    have HN := Lib.hid (EBox.but N2.out (But.set3 (But.refl k.q w1.drew) (k.o + i * 3) (k.o + i * 3 + 1) (k.o + i * 3 + 2) (.int .i64 z.st) (.int .i64 z.fc) (.slice D z.data.length c)) (by have := H.out.q_lt; omega))
    have HZ := Lib.hid (Box.but B2.out (But.set3 (But.refl k.q w1.drew) (k.o + i * 3) (k.o + i * 3 + 1) (k.o + i * 3 + 2) (.int .i64 z.st) (.int .i64 z.fc) (.slice D z.data.length c)) (by have := H.out.q_lt; omega))
    have HB := Lib.hid (But.set3 U2.out (k.o + i * 3) (k.o + i * 3 + 1) (k.o + i * 3 + 2) (.int .i64 z.st) (.int .i64 z.fc) (.slice D z.data.length c))
    obtain ⟨d3, q0, q1, s0, s1, s2⟩ := hcell _ H2.out B2.out
    refine wp_region_held_drew (S := fun W => W.cell? ⟨k.g, 3, none⟩ = some (.slice (some ⟨k.q, k.o, none⟩) k.n k.c) ∧ (W.cell? ⟨w.heap.size, 0, none⟩ = some (.int .i64 z.st) ∧ W.cell? ⟨w.heap.size, 1, none⟩ = some (.int .i64 z.fc) ∧ W.cell? ⟨w.heap.size, 2, none⟩ = some (.slice D z.data.length c)))
      (by kernel_rfl) ⟨d3, q0⟩ (fun hHeld => ?_)
    generalize w1.drew = w2 at *
    (first | (refine Reg.take 0 (v := ?_) rfl (by kernel_rfl) (by kernel_rfl) (by kernel_rfl) (fun _ _ _ h => h) (Or.inl ⟨by rfl, ?_⟩) (by assumption) ?_; rotate_left; (focus ((intro W hSW); (try dsimp only at hSW); (try go_split_ands); go_simp; (try (with_reducible rfl)); done))) | (refine Reg.take 0 (v := undef) rfl (by kernel_rfl) (by kernel_rfl) (by kernel_rfl) (fun _ _ _ h => h) (Or.inr ⟨by rfl, rfl⟩) (by assumption) ?_))
    (try simp only [Act.put, List.setIfInBounds_toArray, List.set_cons_zero, List.set_cons_succ])
    (first | (refine Reg.take 1 (v := ?_) rfl (by kernel_rfl) (by kernel_rfl) (by kernel_rfl) (fun _ _ _ h => h) (Or.inl ⟨by rfl, ?_⟩) (by assumption) ?_; rotate_left; (focus ((intro W hSW); (try dsimp only at hSW); (try go_split_ands); go_simp; (try (with_reducible rfl)); done))) | (refine Reg.take 1 (v := undef) rfl (by kernel_rfl) (by kernel_rfl) (by kernel_rfl) (fun _ _ _ h => h) (Or.inr ⟨by rfl, rfl⟩) (by assumption) ?_))
    (try simp only [Act.put, List.setIfInBounds_toArray, List.set_cons_zero, List.set_cons_succ])
    (first | (refine Reg.take 2 (v := ?_) rfl (by kernel_rfl) (by kernel_rfl) (by kernel_rfl) (fun _ _ _ h => h) (Or.inl ⟨by rfl, ?_⟩) (by assumption) ?_; rotate_left; (focus ((intro W hSW); (try dsimp only at hSW); (try go_split_ands); go_simp; (try (with_reducible rfl)); done))) | (refine Reg.take 2 (v := undef) rfl (by kernel_rfl) (by kernel_rfl) (by kernel_rfl) (fun _ _ _ h => h) (Or.inr ⟨by rfl, rfl⟩) (by assumption) ?_))
    (try simp only [Act.put, List.setIfInBounds_toArray, List.set_cons_zero, List.set_cons_succ])
    (first | (refine Reg.take 3 (v := ?_) rfl (by kernel_rfl) (by kernel_rfl) (by kernel_rfl) (fun _ _ _ h => h) (Or.inl ⟨by rfl, ?_⟩) (by assumption) ?_; rotate_left; (focus ((intro W hSW); (try dsimp only at hSW); (try go_split_ands); go_simp; (try (with_reducible rfl)); done))) | (refine Reg.take 3 (v := undef) rfl (by kernel_rfl) (by kernel_rfl) (by kernel_rfl) (fun _ _ _ h => h) (Or.inr ⟨by rfl, rfl⟩) (by assumption) ?_))
    (try simp only [Act.put, List.setIfInBounds_toArray, List.set_cons_zero, List.set_cons_succ])
    (first | (refine Reg.take 4 (v := ?_) rfl (by kernel_rfl) (by kernel_rfl) (by kernel_rfl) (fun _ _ _ h => h) (Or.inl ⟨by rfl, ?_⟩) (by assumption) ?_; rotate_left; (focus ((intro W hSW); (try dsimp only at hSW); (try go_split_ands); go_simp; (try (with_reducible rfl)); done))) | (refine Reg.take 4 (v := undef) rfl (by kernel_rfl) (by kernel_rfl) (by kernel_rfl) (fun _ _ _ h => h) (Or.inr ⟨by rfl, rfl⟩) (by assumption) ?_))
    (try simp only [Act.put, List.setIfInBounds_toArray, List.set_cons_zero, List.set_cons_succ])
    (first | (refine Reg.take 5 (v := ?_) rfl (by kernel_rfl) (by kernel_rfl) (by kernel_rfl) (fun _ _ _ h => h) (Or.inl ⟨by rfl, ?_⟩) (by assumption) ?_; rotate_left; (focus ((intro W hSW); (try dsimp only at hSW); (try go_split_ands); go_simp; (try (with_reducible rfl)); done))) | (refine Reg.take 5 (v := undef) rfl (by kernel_rfl) (by kernel_rfl) (by kernel_rfl) (fun _ _ _ h => h) (Or.inr ⟨by rfl, rfl⟩) (by assumption) ?_))
    (try simp only [Act.put, List.setIfInBounds_toArray, List.set_cons_zero, List.set_cons_succ])
    (first | (refine Reg.take 6 (v := ?_) rfl (by kernel_rfl) (by kernel_rfl) (by kernel_rfl) (fun _ _ _ h => h) (Or.inl ⟨by rfl, ?_⟩) (by assumption) ?_; rotate_left; (focus ((intro W hSW); (try dsimp only at hSW); (try go_split_ands); go_simp; (try (with_reducible rfl)); done))) | (refine Reg.take 6 (v := undef) rfl (by kernel_rfl) (by kernel_rfl) (by kernel_rfl) (fun _ _ _ h => h) (Or.inr ⟨by rfl, rfl⟩) (by assumption) ?_))
    (try simp only [Act.put, List.setIfInBounds_toArray, List.set_cons_zero, List.set_cons_succ])
    (first | (refine Reg.take 7 (v := ?_) rfl (by kernel_rfl) (by kernel_rfl) (by kernel_rfl) (fun _ _ _ h => h) (Or.inl ⟨by rfl, ?_⟩) (by assumption) ?_; rotate_left; (focus ((intro W hSW); (try dsimp only at hSW); (try go_split_ands); go_simp; (try (with_reducible rfl)); done))) | (refine Reg.take 7 (v := undef) rfl (by kernel_rfl) (by kernel_rfl) (by kernel_rfl) (fun _ _ _ h => h) (Or.inr ⟨by rfl, rfl⟩) (by assumption) ?_))
    (try simp only [Act.put, List.setIfInBounds_toArray, List.set_cons_zero, List.set_cons_succ])
    refine Reg.step 8 rfl (by kernel_rfl) (by rfl) (fun K hK => ?_)
    obtain ⟨g0, g1, g2⟩ := q1
    go_simp
    refine hK.out _ _ ⟨HS.out.cells.2.2.2.1, HZ.out.cells⟩ (fun hHeld2 => ?_)
    clear hK K
    (try simp only [Act.put, List.setIfInBounds_toArray, List.set_cons_zero, List.set_cons_succ])
    refine wpAnyH_done (by kernel_rfl) ?_ _
    clear d3 q0 g0 g1 g2 s0 s1 s2 hHeld hHeld2
    generalize ((w2.setCell ⟨k.q, k.o + i * 3, none⟩ (.int .i64 z.st)).setCell ⟨k.q, k.o + i * 3 + 1, none⟩ (.int .i64 z.fc)).setCell ⟨k.q, k.o + i * 3 + 2, none⟩ (.slice D z.data.length c) = w3 at *
    obtain ⟨n0, n1, n2⟩ := HN.out.cells
    obtain ⟨f0, f1, f2⟩ := HN.out.frozen
    go_wp2_with fail
    refine bodyPost_ret_by (results_cell_row rfl _ _ (w.heap.size + 1) _ _ _ _ rfl (EBox.store HN.out e 0 none 0 0) Try.underlying38 rfl (by kernel_rfl)) rfl ?_
    obtain rfl : e = 0 := by simpa using e0
    exact acted_end H.out HS.out HN.out (by omega) HB.out (fail_ 0) none 0 (Away.nil _ _) (map_set xs i _) rfl
end Zns
end Go.Proofs.Ytbmblgjilmgkeaa
