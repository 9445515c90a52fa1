/-
  A WALK: dedup.clonedMsg.
-/
import Derived.Test.YtndcflchdecofaaDedMem
namespace Go.Proofs.Ytndcflchdecofaa
open Go.RowKit Mem Box
namespace Ded
open Net
/-- What a call gave: a message of its own. -/
def GaveM (w : World) (p : Mp) (e : Ending) (w' : World) : Prop := ∃ y, e = .returned (mxv y) ∧ y.p = p ∧ OwnM w.heap.size w' y ∧ Below w.heap.size w w'
set_option maxRecDepth 100000 in
set_option maxHeartbeats 3200000 in
theorem clonedMsg_any {x : Mx} {w : World} (h : MAt w x) : Calls Try.prog 18 #[mxv x] w (GaveM w x.p) := by
  have HM := Lib.hid h
  have HF := Lib.hid h.fits
  clear h
  obtain ⟨k, f, t, i, A, n, c, a, B, m, d, xs⟩ := x
  have HI := fun W (hW : Below w.heap.size w W) => Lib.hid (cloneI_any (HM.out.ints.below hW) (by have := HF.out.2.2; have := HM.out.ints.len; simp [Mx.p] at *; omega))
  have HT := fun W (hW : Below w.heap.size w W) => Lib.hid (cloneB_any (HM.out.text.below hW))
  have hmb := Lib.hid HM.out.text.big
  dsimp only at HI HT hmb
  unfold mxv
  dsimp only
  go_enter Try.func18, Try.ntmps18
  go_upto_region 1 with fail
  have L1 : Hid (Below w.heap.size w ((w.alloc (.cells #[.int .i64 k, .int .i64 f, .int .i64 t, .int .i64 i, .slice A n c, .slice B m d] 33)).alloc (.cells #[.int .i64 0, .int .i64 0, .int .i64 0, .int .i64 0, .slice none 0 0, .slice none 0 0] 33))) := ((Below.refl _ w).alloc (Nat.le_refl _) _).alloc (by simp) _
  have X1 : Hid (MBox ((w.alloc (.cells #[.int .i64 k, .int .i64 f, .int .i64 t, .int .i64 i, .slice A n c, .slice B m d] 33)).alloc (.cells #[.int .i64 0, .int .i64 0, .int .i64 0, .int .i64 0, .slice none 0 0, .slice none 0 0] 33)) w.heap.size ⟨k, f, t, i, A, n, c, a, B, m, d, xs⟩) := Cells.alloc (Cells.new _ _ _) _
  have Z1 : Hid (ZBox ((w.alloc (.cells #[.int .i64 k, .int .i64 f, .int .i64 t, .int .i64 i, .slice A n c, .slice B m d] 33)).alloc (.cells #[.int .i64 0, .int .i64 0, .int .i64 0, .int .i64 0, .slice none 0 0, .slice none 0 0] 33)) (w.heap.size + 1)) := by
    have := Cells.new (w.alloc (.cells #[.int .i64 k, .int .i64 f, .int .i64 t, .int .i64 i, .slice A n c, .slice B m d] 33)) #[.int .i64 0, .int .i64 0, .int .i64 0, .int .i64 0, .slice none 0 0, .slice none 0 0] 33
    rw [World.size_alloc] at this
    exact this
  generalize (w.alloc (.cells #[.int .i64 k, .int .i64 f, .int .i64 t, .int .i64 i, .slice A n c, .slice B m d] 33)).alloc (.cells #[.int .i64 0, .int .i64 0, .int .i64 0, .int .i64 0, .slice none 0 0, .slice none 0 0] 33) = w1 at *
  have L2 := Lib.hid L1.out.drew
  have X2 : Hid (MBox w1.drew w.heap.size _) := Cells.drew X1.out
  have Z2 : Hid (ZBox w1.drew (w.heap.size + 1)) := Cells.drew Z1.out
  refine RegK.start (S := fun W => W.cell? ⟨w.heap.size, 5, none⟩ = some (.slice B m d)) 9 (by kernel_rfl) (MBox.cells X2.out).2.2.2.2.2 (fun hHeld => ?_)
  generalize w1.drew = w2 at *
  clear L1 X1 Z1
  (first | (refine RegK.take 0 [9] (v := ?_) rfl (by kernel_rfl) (by kernel_rfl) (by kernel_rfl) (by kernel_rfl) rfl (by kernel_rfl) (fun _ _ _ h => h) (Or.inl ⟨by rfl, ?_⟩) (by assumption) ?_; rotate_left; (focus ((intro W hSW; (try dsimp only at hSW); (try go_split_ands); go_simp; (try (with_reducible rfl)); done)))) | (refine RegK.take 0 [9] (v := undef) rfl (by kernel_rfl) (by kernel_rfl) (by kernel_rfl) (by kernel_rfl) rfl (by kernel_rfl) (fun _ _ _ h => h) (Or.inr ⟨by rfl, rfl⟩) (by assumption) ?_))
  (try simp only [Act.put, List.setIfInBounds_toArray, List.set_cons_zero, List.set_cons_succ])
  (first | (refine RegK.take 3 [9] (v := ?_) rfl (by kernel_rfl) (by kernel_rfl) (by kernel_rfl) (by kernel_rfl) rfl (by kernel_rfl) (fun _ _ _ h => h) (Or.inl ⟨by rfl, ?_⟩) (by assumption) ?_; rotate_left; (focus ((intro W hSW; (try dsimp only at hSW); (try go_split_ands); go_simp; (try (with_reducible rfl)); done)))) | (refine RegK.take 3 [9] (v := undef) rfl (by kernel_rfl) (by kernel_rfl) (by kernel_rfl) (by kernel_rfl) rfl (by kernel_rfl) (fun _ _ _ h => h) (Or.inr ⟨by rfl, rfl⟩) (by assumption) ?_))
  (try simp only [Act.put, List.setIfInBounds_toArray, List.set_cons_zero, List.set_cons_succ])
  (first | (refine RegK.take 4 [9] (v := ?_) rfl (by kernel_rfl) (by kernel_rfl) (by kernel_rfl) (by kernel_rfl) rfl (by kernel_rfl) (fun _ _ _ h => h) (Or.inl ⟨by rfl, ?_⟩) (by assumption) ?_; rotate_left; (focus ((intro W hSW; (try dsimp only at hSW); (try go_split_ands); go_simp; (try (with_reducible rfl)); done)))) | (refine RegK.take 4 [9] (v := undef) rfl (by kernel_rfl) (by kernel_rfl) (by kernel_rfl) (by kernel_rfl) rfl (by kernel_rfl) (fun _ _ _ h => h) (Or.inr ⟨by rfl, rfl⟩) (by assumption) ?_))
  (try simp only [Act.put, List.setIfInBounds_toArray, List.set_cons_zero, List.set_cons_succ])
  have m4 := (MBox.cells X2.out).2.2.2.2.1
  dsimp only at m4
  refine RegK.step 1 rfl (by kernel_rfl) (by rfl) (fun K hK => ?_)
  go_simp
  refine hK.out _ _ (fun _ => hHeld) ?_
  clear hK K m4
  (try simp only [Act.put, List.setIfInBounds_toArray, List.set_cons_zero, List.set_cons_succ])
  refine RegK.step 2 rfl (by kernel_rfl) (by rfl) (fun K hK => ?_)
  go_simp
  refine (HI _ L2.out).out.mono ?_
  rintro e w3 ⟨⟨A', c', rfl, hO⟩, hb⟩
  have L3 := Lib.hid (L2.out.trans (hb.mono L2.out.size))
  have X3 : Hid (MBox w3 w.heap.size _) := Cells.below X2.out hb
  have Z3 : Hid (ZBox w3 (w.heap.size + 1)) := Cells.below Z2.out hb
  have OA3 := Lib.hid (hO.mono L2.out.size)
  clear hO hb X2 Z2 HI hHeld
  have hHeld : w3.cell? ⟨w.heap.size, 5, none⟩ = some (.slice B m d) := (MBox.cells X3.out).2.2.2.2.2
  refine hK.out _ _ (fun _ => hHeld) ?_
  clear hK K
  (try simp only [Act.put, List.setIfInBounds_toArray, List.set_cons_zero, List.set_cons_succ])
  (first | (refine RegK.take 6 [9] (v := ?_) rfl (by kernel_rfl) (by kernel_rfl) (by kernel_rfl) (by kernel_rfl) rfl (by kernel_rfl) (fun _ _ _ h => h) (Or.inl ⟨by rfl, ?_⟩) (by assumption) ?_; rotate_left; (focus ((intro W hSW; (try dsimp only at hSW); (try go_split_ands); go_simp; (try (with_reducible rfl)); done)))) | (refine RegK.take 6 [9] (v := undef) rfl (by kernel_rfl) (by kernel_rfl) (by kernel_rfl) (by kernel_rfl) rfl (by kernel_rfl) (fun _ _ _ h => h) (Or.inr ⟨by rfl, rfl⟩) (by assumption) ?_))
  (try simp only [Act.put, List.setIfInBounds_toArray, List.set_cons_zero, List.set_cons_succ])
  refine RegK.step 5 rfl (by kernel_rfl) (by rfl) (fun K hK => ?_)
  go_simp
  refine (HT _ L3.out).out.mono ?_
  rintro e w4 ⟨⟨B', d', rfl, hO⟩, hb⟩
  have L4 := Lib.hid (L3.out.trans (hb.mono L3.out.size))
  have X4 : Hid (MBox w4 w.heap.size _) := Cells.below X3.out hb
  have Z4 : Hid (ZBox w4 (w.heap.size + 1)) := Cells.below Z3.out hb
  have OA4 := Lib.hid (Owns.below OA3.out hb)
  have OB4 := Lib.hid (hO.mono L3.out.size)
  clear hO hb X3 Z3 HT hHeld OA3 L3 L2
  have hHeld : w4.cell? ⟨w.heap.size, 5, none⟩ = some (.slice B m d) := (MBox.cells X4.out).2.2.2.2.2
  refine hK.out _ _ (fun _ => hHeld) ?_
  clear hK K
  (try simp only [Act.put, List.setIfInBounds_toArray, List.set_cons_zero, List.set_cons_succ])
  have y4 := (MBox.cells X4.out).2.2.2.2.1
  have f4 := (six_free X4.out).2.2.2.2.1
  dsimp only at y4
  refine RegK.step 7 rfl (by kernel_rfl) (by rfl) (fun K hK => ?_)
  go_simp
  have bt : Mov [w.heap.size] w4 (w4.setCell ⟨w.heap.size, 4, none⟩ (.slice A' n c')) := Mov.set1 w4 (by simp) 4 _
  have X5 : Hid (MBox (w4.setCell ⟨w.heap.size, 4, none⟩ (.slice A' n c')) w.heap.size ⟨k, f, t, i, A', n, c', a, B, m, d, xs⟩) := by show Cells _ _ _ _; simpa using Cells.set_ X4.out 4 (.slice A' n c')
  have Z5 : Hid (ZBox (w4.setCell ⟨w.heap.size, 4, none⟩ (.slice A' n c')) (w.heap.size + 1)) := Cells.mov Z4.out bt (by simp)
  have L5 := Lib.hid (L4.out.trans (bt.up L4.out.size (Nat.le_refl _)))
  have OA5 := Lib.hid (owns_mov OA4.out X4.out (by decide) bt)
  have OB5 := Lib.hid (owns_mov OB4.out X4.out (by decide) bt)
  clear bt y4 f4 X4 Z4 L4 OA4 OB4 hHeld
  generalize w4.setCell ⟨w.heap.size, 4, none⟩ (.slice A' n c') = w5 at *
  have hHeld : w5.cell? ⟨w.heap.size, 5, none⟩ = some (.slice B m d) := (MBox.cells X5.out).2.2.2.2.2
  refine hK.out _ _ (fun _ => hHeld) ?_
  clear hK K
  (try simp only [Act.put, List.setIfInBounds_toArray, List.set_cons_zero, List.set_cons_succ])
  (first | (refine RegK.take 8 [9] (v := ?_) rfl (by kernel_rfl) (by kernel_rfl) (by kernel_rfl) (by kernel_rfl) rfl (by kernel_rfl) (fun _ _ _ h => h) (Or.inl ⟨by rfl, ?_⟩) (by assumption) ?_; rotate_left; (focus ((intro W hSW; (try dsimp only at hSW); (try go_split_ands); go_simp; (try (with_reducible rfl)); done)))) | (refine RegK.take 8 [9] (v := undef) rfl (by kernel_rfl) (by kernel_rfl) (by kernel_rfl) (by kernel_rfl) rfl (by kernel_rfl) (fun _ _ _ h => h) (Or.inr ⟨by rfl, rfl⟩) (by assumption) ?_))
  (try simp only [Act.put, List.setIfInBounds_toArray, List.set_cons_zero, List.set_cons_succ])
  have f5 := (six_free X5.out).2.2.2.2.2
  refine RegK.step 9 rfl (by kernel_rfl) (by rfl) (fun K hK => ?_)
  go_simp
  have bt : Mov [w.heap.size] w5 (w5.setCell ⟨w.heap.size, 5, none⟩ (.slice B' m d')) := Mov.set1 w5 (by simp) 5 _
  have X6 : Hid (MBox (w5.setCell ⟨w.heap.size, 5, none⟩ (.slice B' m d')) w.heap.size ⟨k, f, t, i, A', n, c', a, B', m, d', xs⟩) := by show Cells _ _ _ _; simpa using Cells.set_ X5.out 5 (.slice B' m d')
  have Z6 : Hid (ZBox (w5.setCell ⟨w.heap.size, 5, none⟩ (.slice B' m d')) (w.heap.size + 1)) := Cells.mov Z5.out bt (by simp)
  have L6 := Lib.hid (L5.out.trans (bt.up L5.out.size (Nat.le_refl _)))
  have OA6 := Lib.hid (owns_mov OA5.out X5.out (by decide) bt)
  have OB6 := Lib.hid (owns_mov OB5.out X5.out (by decide) bt)
  clear bt f5 X5 Z5 L5 OA5 OB5 hHeld
  generalize w5.setCell ⟨w.heap.size, 5, none⟩ (.slice B' m d') = w6 at *
  refine hK.out _ _ (fun h => absurd rfl h) ?_
  clear hK K
  (try simp only [Act.put, List.setIfInBounds_toArray, List.set_cons_zero, List.set_cons_succ])
  refine RegK.done (by kernel_rfl) ?_ _
  obtain ⟨n0, n1, n2, n3, n4, n5⟩ := MBox.cells X6.out
  obtain ⟨f0, f1, f2, f3, f4, f5⟩ := six_free Z6.out
  obtain ⟨z0, z1, z2, z3, z4, z5⟩ := MBox.cells (x := ⟨0, 0, 0, 0, none, 0, 0, [], none, 0, 0, []⟩) Z6.out
  dsimp only at n0 n1 n2 n3 n4 n5 z0 z1 z2 z3 z4 z5
  go_wp2_with fail
  have bt := Mov.set6 w6 (w.heap.size + 1) (.int .i64 k) (.int .i64 f) (.int .i64 t) (.int .i64 i) (.slice A' n c') (.slice B' m d')
  have HR := Cells.set6 Z6.out (.int .i64 k) (.int .i64 f) (.int .i64 t) (.int .i64 i) (.slice A' n c') (.slice B' m d')
  have OA7 := owns_mov OA6.out Z6.out (by decide) bt
  have OB7 := owns_mov OB6.out Z6.out (by decide) bt
  refine bodyPost_ret_by (results_c0 rfl _ _ (w.heap.size + 1) _ _ _ _ rfl HR Try.underlying33 rfl (by kernel_rfl)) rfl ?_
  exact ⟨⟨k, f, t, i, A', n, c', a, B', m, d', xs⟩, rfl, rfl, ⟨OA7, OB7, HF.out, hmb.out⟩, L6.out.trans (bt.up L6.out.size (by omega))⟩
end Ded
end Go.Proofs.Ytndcflchdecofaa
