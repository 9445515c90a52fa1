/-
  WALKS OVER seg'S Head AND Rec.
-/
import Derived.Test.YtedandbkdjmfhaaSegRec
namespace Go.Proofs.Ytedandbkdjmfhaa
open Go.RowKit Mem
namespace Seg
open Wire

/-- What an outer call gave: a row of its own, an error. -/
abbrev Gv (w : World) (l : List B8) (er : Int) (en : Ending) (w' : World) : Prop := GaveE cb 5 w.heap.size w l er en w'

set_option maxRecDepth 100000 in
set_option maxHeartbeats 800000 in
theorem rec_outer {r : Rc} {D : Option Addr} {n c : Nat} {w : World} (hf : fits (nums r)) (h : Row cb w D n c r.data) :
    Calls Try.prog 9 #[recV r D n c] w (Gv w (recB r).1 (recB r).2) := by
  have HR := Lib.hid h
  have HF := fun (g : Nat) (w : World) (ht : Tk g 0 w) (h : RowO g w D n c r.data) => Lib.hid (rec_any (n := n) (c := c) ht (by omega) hf h)
  have B1 := Lib.hid (Box.new w r D n c)
  have L1 := Lib.hid ((Below.refl w.heap.size w).alloc (Nat.le_refl _) (.cells #[.int .i64 r.kind, .int .i64 r.lba, .int .i64 r.n, .int .i64 r.ver, .int .i64 r.zone, .int .i64 r.off, .slice D n c] 34))
  unfold recV frV at *
  clear hf h
  go_enter Try.func9, Try.ntmps9
  go_wp2_with fail
  have hc := B1.out.cells
  generalize w.alloc (.cells #[.int .i64 r.kind, .int .i64 r.lba, .int .i64 r.n, .int .i64 r.ver, .int .i64 r.zone, .int .i64 r.off, .slice D n c] 34) = w1 at *
  refine wp_region_held_drew (S := fun W => W.cell? ⟨w.heap.size, 0, none⟩ = some (.int .i64 r.kind) ∧ W.cell? ⟨w.heap.size, 1, none⟩ = some (.int .i64 r.lba) ∧ W.cell? ⟨w.heap.size, 2, none⟩ = some (.int .i64 r.n) ∧ W.cell? ⟨w.heap.size, 3, none⟩ = some (.int .i64 r.ver) ∧ W.cell? ⟨w.heap.size, 4, none⟩ = some (.int .i64 r.zone) ∧ W.cell? ⟨w.heap.size, 5, none⟩ = some (.int .i64 r.off) ∧ W.cell? ⟨w.heap.size, 6, none⟩ = some (.slice D n c))
    (by kernel_rfl) hc (fun hHeld => ?_)
  (first | (refine Reg.take 1 (v := ?_) rfl (by kernel_rfl) (by kernel_rfl) (by kernel_rfl) (fun _ _ _ h => h) (Or.inl ⟨by rfl, ?_⟩) (by assumption) ?_; rotate_left; (focus ((intro W hSW); (try dsimp only at hSW); (try go_split_ands); go_simp; (try (with_reducible rfl)); done))) | (refine Reg.take 1 (v := undef) rfl (by kernel_rfl) (by kernel_rfl) (by kernel_rfl) (fun _ _ _ h => h) (Or.inr ⟨by rfl, rfl⟩) (by assumption) ?_))
  (try simp only [Act.put, List.setIfInBounds_toArray, List.set_cons_zero, List.set_cons_succ])
  refine Reg.step 0 rfl (by kernel_rfl) (by rfl) (fun K hK => ?_)
  go_simp
  refine (newFrames_any _).mono ?_
  rintro e w2 ⟨g, hg, rfl, hT, hb2⟩
  unfold frV
  have hb2 : Below w1.heap.size w1 w2 := (Below.refl _ w1).drew.trans hb2
  have L2 := Lib.hid (L1.out.trans (hb2.mono L1.out.size))
  have hgl : Hid (w.heap.size ≤ g) := Nat.le_trans L1.out.size hg
  have c2 := (B1.out.below hb2).cells
  have hwg : w.heap.size < g := Nat.lt_of_lt_of_le B1.out.lt hg
  have B2 := Lib.hid (B1.out.below hb2)
  have T2 := Lib.hid hT
  refine hK.out _ _ c2 (fun hHeld2 => ?_)
  clear hK K hHeld hb2 hT hc c2
  (try simp only [Act.put, List.setIfInBounds_toArray, List.set_cons_zero, List.set_cons_succ])
  refine Reg.step 2 rfl (by kernel_rfl) (by rfl) (fun K hK => ?_)
  go_simp
  have RO : RowO g w2 D n c r.data := by
    have h0 := RowO.of_low HR.out hgl.out
    refine ⟨HR.out.below L2.out, h0.off⟩
  refine (HF g w2 T2.out RO).out.mono ?_
  rintro e w3 ⟨⟨X, j, d, rfl, hO, hK3⟩, -⟩
  have c3 := (Box.keep B2.out (Nat.ne_of_lt hwg) hK3).cells
  have L3 := Lib.hid (L2.out.trans (hK3.low (B := w.heap.size) hgl.out L2.out.size))
  have O3 := Lib.hid (hO.mono L2.out.size)
  refine hK.out _ _ c3 (fun hHeld3 => ?_)
  clear hK K hHeld2 hO hK3 HF
  (try simp only [Act.put, List.setIfInBounds_toArray, List.set_cons_zero, List.set_cons_succ])
  generalize recB r = q at *
  (first | (refine Reg.take 3 (v := ?_) rfl (by kernel_rfl) (by kernel_rfl) (by kernel_rfl) (fun _ _ _ h => h) (Or.inl ⟨by rfl, ?_⟩) (by assumption) ?_; rotate_left; (focus ((intro W hSW); (try dsimp only at hSW); (try go_split_ands); go_simp; (try (with_reducible rfl)); done))) | (refine Reg.take 3 (v := undef) rfl (by kernel_rfl) (by kernel_rfl) (by kernel_rfl) (fun _ _ _ h => h) (Or.inr ⟨by rfl, rfl⟩) (by assumption) ?_))
  (try simp only [Act.put, List.setIfInBounds_toArray, List.set_cons_zero, List.set_cons_succ])
  (first | (refine Reg.take 4 (v := ?_) rfl (by kernel_rfl) (by kernel_rfl) (by kernel_rfl) (fun _ _ _ h => h) (Or.inl ⟨by rfl, ?_⟩) (by assumption) ?_; rotate_left; (focus ((intro W hSW); (try dsimp only at hSW); (try go_split_ands); go_simp; (try (with_reducible rfl)); done))) | (refine Reg.take 4 (v := undef) rfl (by kernel_rfl) (by kernel_rfl) (by kernel_rfl) (fun _ _ _ h => h) (Or.inr ⟨by rfl, rfl⟩) (by assumption) ?_))
  (try simp only [Act.put, List.setIfInBounds_toArray, List.set_cons_zero, List.set_cons_succ])
  (first | (refine Reg.take 5 (v := ?_) rfl (by kernel_rfl) (by kernel_rfl) (by kernel_rfl) (fun _ _ _ h => h) (Or.inl ⟨by rfl, ?_⟩) (by assumption) ?_; rotate_left; (focus ((intro W hSW); (try dsimp only at hSW); (try go_split_ands); go_simp; (try (with_reducible rfl)); done))) | (refine Reg.take 5 (v := undef) rfl (by kernel_rfl) (by kernel_rfl) (by kernel_rfl) (fun _ _ _ h => h) (Or.inr ⟨by rfl, rfl⟩) (by assumption) ?_))
  (try simp only [Act.put, List.setIfInBounds_toArray, List.set_cons_zero, List.set_cons_succ])
  (first | (refine Reg.take 6 (v := ?_) rfl (by kernel_rfl) (by kernel_rfl) (by kernel_rfl) (fun _ _ _ h => h) (Or.inl ⟨by rfl, ?_⟩) (by assumption) ?_; rotate_left; (focus ((intro W hSW); (try dsimp only at hSW); (try go_split_ands); go_simp; (try (with_reducible rfl)); done))) | (refine Reg.take 6 (v := undef) rfl (by kernel_rfl) (by kernel_rfl) (by kernel_rfl) (fun _ _ _ h => h) (Or.inr ⟨by rfl, rfl⟩) (by assumption) ?_))
  (try simp only [Act.put, List.setIfInBounds_toArray, List.set_cons_zero, List.set_cons_succ])
  refine wpAnyH_done (by kernel_rfl) ?_ _
  go_wp2_with fail
  go_ret2
  exact ⟨X, j, d, rfl, O3.out, L3.out⟩

/-- A header in a block of its own. -/
theorem hbox_cells {w : World} {g : Nat} {h : Hdr} (hb : w.heap[g]? = some (.cells #[.int .i64 h.host, .int .i64 h.epoch, .int .i64 h.seq] 23 (0, 0))) :
    w.cell? ⟨g, 0, none⟩ = some (.int .i64 h.host) ∧ w.cell? ⟨g, 1, none⟩ = some (.int .i64 h.epoch) ∧ w.cell? ⟨g, 2, none⟩ = some (.int .i64 h.seq) := by
  have hc := fun i => cell_of_row w g i _ _ _ hb
  exact ⟨hc 0, hc 1, hc 2⟩

set_option maxRecDepth 100000 in
set_option maxHeartbeats 800000 in
theorem head_outer {h : Hdr} {w : World} (hf : fits (hnums h)) :
    Calls Try.prog 19 #[hdV h] w (Gv w (headB h).1 (headB h).2) := by
  have HF := fun (g : Nat) (w : World) (ht : Tk g 0 w) => Lib.hid (head_any ht (by omega) hf)
  have B1 : Hid ((w.alloc (.cells #[.int .i64 h.host, .int .i64 h.epoch, .int .i64 h.seq] 23)).heap[w.heap.size]? = some (.cells #[.int .i64 h.host, .int .i64 h.epoch, .int .i64 h.seq] 23 (0, 0))) := heap_alloc_new w _
  have L1 := Lib.hid ((Below.refl w.heap.size w).alloc (Nat.le_refl _) (.cells #[.int .i64 h.host, .int .i64 h.epoch, .int .i64 h.seq] 23))
  have S1 : Hid (w.heap.size < (w.alloc (.cells #[.int .i64 h.host, .int .i64 h.epoch, .int .i64 h.seq] 23)).heap.size) := by show _ < _; simp
  unfold hdV frV at *
  clear hf
  go_enter Try.func19, Try.ntmps19
  go_wp2_with fail
  have hc := hbox_cells B1.out
  generalize w.alloc (.cells #[.int .i64 h.host, .int .i64 h.epoch, .int .i64 h.seq] 23) = w1 at *
  refine wp_region_held_drew (S := fun W => W.cell? ⟨w.heap.size, 0, none⟩ = some (.int .i64 h.host) ∧ W.cell? ⟨w.heap.size, 1, none⟩ = some (.int .i64 h.epoch) ∧ W.cell? ⟨w.heap.size, 2, none⟩ = some (.int .i64 h.seq))
    (by kernel_rfl) hc (fun hHeld => ?_)
  (first | (refine Reg.take 1 (v := ?_) rfl (by kernel_rfl) (by kernel_rfl) (by kernel_rfl) (fun _ _ _ h => h) (Or.inl ⟨by rfl, ?_⟩) (by assumption) ?_; rotate_left; (focus ((intro W hSW); (try dsimp only at hSW); (try go_split_ands); go_simp; (try (with_reducible rfl)); done))) | (refine Reg.take 1 (v := undef) rfl (by kernel_rfl) (by kernel_rfl) (by kernel_rfl) (fun _ _ _ h => h) (Or.inr ⟨by rfl, rfl⟩) (by assumption) ?_))
  (try simp only [Act.put, List.setIfInBounds_toArray, List.set_cons_zero, List.set_cons_succ])
  refine Reg.step 0 rfl (by kernel_rfl) (by rfl) (fun K hK => ?_)
  go_simp
  refine (newFrames_any _).mono ?_
  rintro e w2 ⟨g, hg, rfl, hT, hb2⟩
  unfold frV
  have hb2 : Below w1.heap.size w1 w2 := (Below.refl _ w1).drew.trans hb2
  have L2 := Lib.hid (L1.out.trans (hb2.mono L1.out.size))
  have hgl : Hid (w.heap.size ≤ g) := Nat.le_trans L1.out.size hg
  have B2 := Lib.hid ((hb2.block _ S1.out).trans B1.out)
  have hwg : w.heap.size < g := Nat.lt_of_lt_of_le S1.out hg
  have S2 := Lib.hid (Nat.lt_of_lt_of_le S1.out hb2.size)
  have T2 := Lib.hid hT
  refine hK.out _ _ (hbox_cells B2.out) (fun hHeld2 => ?_)
  clear hK K hHeld hb2 hT hc
  (try simp only [Act.put, List.setIfInBounds_toArray, List.set_cons_zero, List.set_cons_succ])
  refine Reg.step 2 rfl (by kernel_rfl) (by rfl) (fun K hK => ?_)
  go_simp
  refine (HF g w2 T2.out).out.mono ?_
  rintro e w3 ⟨⟨X, j, d, rfl, hO, hK3⟩, -⟩
  have B3 := (Keep.block hK3 S2.out (Nat.ne_of_lt hwg)).trans B2.out
  have L3 := Lib.hid (L2.out.trans (hK3.low (B := w.heap.size) hgl.out L2.out.size))
  have O3 := Lib.hid (hO.mono L2.out.size)
  refine hK.out _ _ (hbox_cells B3) (fun hHeld3 => ?_)
  clear hK K hHeld2 hO hK3 HF B3
  (try simp only [Act.put, List.setIfInBounds_toArray, List.set_cons_zero, List.set_cons_succ])
  generalize headB h = q at *
  (first | (refine Reg.take 3 (v := ?_) rfl (by kernel_rfl) (by kernel_rfl) (by kernel_rfl) (fun _ _ _ h => h) (Or.inl ⟨by rfl, ?_⟩) (by assumption) ?_; rotate_left; (focus ((intro W hSW); (try dsimp only at hSW); (try go_split_ands); go_simp; (try (with_reducible rfl)); done))) | (refine Reg.take 3 (v := undef) rfl (by kernel_rfl) (by kernel_rfl) (by kernel_rfl) (fun _ _ _ h => h) (Or.inr ⟨by rfl, rfl⟩) (by assumption) ?_))
  (try simp only [Act.put, List.setIfInBounds_toArray, List.set_cons_zero, List.set_cons_succ])
  (first | (refine Reg.take 4 (v := ?_) rfl (by kernel_rfl) (by kernel_rfl) (by kernel_rfl) (fun _ _ _ h => h) (Or.inl ⟨by rfl, ?_⟩) (by assumption) ?_; rotate_left; (focus ((intro W hSW); (try dsimp only at hSW); (try go_split_ands); go_simp; (try (with_reducible rfl)); done))) | (refine Reg.take 4 (v := undef) rfl (by kernel_rfl) (by kernel_rfl) (by kernel_rfl) (fun _ _ _ h => h) (Or.inr ⟨by rfl, rfl⟩) (by assumption) ?_))
  (try simp only [Act.put, List.setIfInBounds_toArray, List.set_cons_zero, List.set_cons_succ])
  (first | (refine Reg.take 5 (v := ?_) rfl (by kernel_rfl) (by kernel_rfl) (by kernel_rfl) (fun _ _ _ h => h) (Or.inl ⟨by rfl, ?_⟩) (by assumption) ?_; rotate_left; (focus ((intro W hSW); (try dsimp only at hSW); (try go_split_ands); go_simp; (try (with_reducible rfl)); done))) | (refine Reg.take 5 (v := undef) rfl (by kernel_rfl) (by kernel_rfl) (by kernel_rfl) (fun _ _ _ h => h) (Or.inr ⟨by rfl, rfl⟩) (by assumption) ?_))
  (try simp only [Act.put, List.setIfInBounds_toArray, List.set_cons_zero, List.set_cons_succ])
  (first | (refine Reg.take 6 (v := ?_) rfl (by kernel_rfl) (by kernel_rfl) (by kernel_rfl) (fun _ _ _ h => h) (Or.inl ⟨by rfl, ?_⟩) (by assumption) ?_; rotate_left; (focus ((intro W hSW); (try dsimp only at hSW); (try go_split_ands); go_simp; (try (with_reducible rfl)); done))) | (refine Reg.take 6 (v := undef) rfl (by kernel_rfl) (by kernel_rfl) (by kernel_rfl) (fun _ _ _ h => h) (Or.inr ⟨by rfl, rfl⟩) (by assumption) ?_))
  (try simp only [Act.put, List.setIfInBounds_toArray, List.set_cons_zero, List.set_cons_succ])
  refine wpAnyH_done (by kernel_rfl) ?_ _
  go_wp2_with fail
  go_ret2
  exact ⟨X, j, d, rfl, O3.out, L3.out⟩
end Seg
end Go.Proofs.Ytedandbkdjmfhaa
