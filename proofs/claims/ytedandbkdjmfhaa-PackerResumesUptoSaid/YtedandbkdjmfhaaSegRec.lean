/-
  WALKS OVER seg'S rec, Head AND Rec.
-/
import Derived.Test.YtedandbkdjmfhaaSegWrite
namespace Go.Proofs.Ytedandbkdjmfhaa
open Go.RowKit Mem
namespace Seg
open Wire

theorem check_at {r : Rc} {e : Nat} (hc : check r = e) (hf : fits (nums r)) (D : Option Addr) (n c : Nat) (hn : r.data.length = n) (hb : n ≤ 140737488351232) (w : World) :
    Calls Try.prog 23 #[recV r D n c] w fun en w' => en = .returned (.int .i64 (e : Nat)) ∧ Below w.heap.size w w' := by
  rw [← hc]; exact check_any r hf D n c hn hb w

/-- What stays the same through rec: the table, the two boxes. -/
structure RS (g k : Nat) (w0 : World) (r : Rc) (D : Option Addr) (n c : Nat) (w : World) : Prop where
  keep : Crc.Keep g w0 w
  tab : Tk g k w
  fb : w.heap[w0.heap.size]? = some (.cells #[.pointer (some ⟨g, 0, none⟩)] 60 (0, 0))
  box : Box w (w0.heap.size + 1) r D n c
section
variable {g k : Nat} {w0 w w' : World} {r : Rc} {D : Option Addr} {n c : Nat}
theorem RS.below (h : RS g k w0 r D n c w) (hb : Below w.heap.size w w') : RS g k w0 r D n c w' :=
  ⟨h.keep.trans (keep_of_below hb), h.tab.below hb, (hb.block _ (Array.getElem?_eq_some_iff.1 h.fb).1).trans h.fb, h.box.below hb⟩
theorem RS.alloc (h : RS g k w0 r D n c w) (o : Obj) : RS g k w0 r D n c (w.alloc o) := h.below ((Below.refl _ w).alloc (Nat.le_refl _) o)
theorem RS.c0 (h : RS g k w0 r D n c w) : w.cell? ⟨w0.heap.size, 0, none⟩ = some (.pointer (some ⟨g, 0, none⟩)) := cell_of_row _ _ _ _ _ _ h.fb
theorem RS.size (h : RS g k w0 r D n c w) : w0.heap.size ≤ w.heap.size := h.keep.1.size
theorem RS.start (ht : Tk g k w) : RS g k w r D n c ((w.alloc (.cells #[.pointer (some ⟨g, 0, none⟩)] 60)).alloc (.cells #[.int .i64 r.kind, .int .i64 r.lba, .int .i64 r.n, .int .i64 r.ver, .int .i64 r.zone, .int .i64 r.off, .slice D n c] 34)) :=
  ⟨((Crc.Keep.refl g w).alloc _).alloc _, (ht.alloc _).alloc _, heap_alloc2_old w _ _, heap_alloc2_new w _ _⟩
end

set_option maxRecDepth 100000 in
set_option maxHeartbeats 800000 in
theorem rec_bad {g k : Nat} {r : Rc} {D : Option Addr} {n c : Nat} {w : World} (ht : Tk g k w) (hf : fits (nums r)) (h : RowO g w D n c r.data) (e : Nat) (he : e = 1 ∨ e = 2) (hc : check r = e) :
    Calls Try.prog 22 #[frV g, recV r D n c] w fun en w' => GaveK g w [] e en w' ∧ Tk g (k + 1) w' := by
  have HC := fun w => Lib.hid (check_at hc hf D n c h.row.len h.row.big w)
  have R1 := Lib.hid (RS.start (r := r) (D := D) (n := n) (c := c) ht)
  unfold frV recV at *
  clear ht hf h hc
  rcases he with rfl | rfl
  all_goals
    go_enter Try.func22, Try.ntmps22
    go_wp2_with fail
    generalize (w.alloc (.cells #[.pointer (some ⟨g, 0, none⟩)] 60)).alloc (.cells #[.int .i64 r.kind, .int .i64 r.lba, .int .i64 r.n, .int .i64 r.ver, .int .i64 r.zone, .int .i64 r.off, .slice D n c] 34) = w1 at *
    refine (HC w1).out.mono ?_
    rintro en w2 ⟨rfl, hb2⟩
    have R2 := Lib.hid (R1.out.below hb2)
    clear hb2 R1 HC
    go_wp2_with fail
    go_ret2
    exact ⟨⟨none, 0, 0, rfl, Owns.nil _ _ _ _, R2.out.keep⟩, R2.out.tab.mono (by omega)⟩

set_option maxRecDepth 100000 in
set_option maxHeartbeats 1600000 in
theorem rec_ok {g k : Nat} {r : Rc} {D : Option Addr} {n c : Nat} {w : World} (ht : Tk g k w) (hk : k ≤ 1000000000000000000) (hf : fits (nums r)) (h : RowO g w D n c r.data) (hc : check r = 0) :
    Calls Try.prog 22 #[frV g, recV r D n c] w fun en w' => GaveK g w (frame (recX r)) 0 en w' ∧ Tk g (k + 1) w' := by
  have hg := ht.lt
  obtain ⟨hnn, hd⟩ := check_ok hc
  have HC := fun w => Lib.hid (check_at hc hf D n c h.row.len h.row.big w)
  have HO := fun w => Lib.hid (numbersOf_any r D n c w)
  have HNm := fun w b (hr : Row ci w (some ⟨b, 0, none⟩) 6 6 (nums r)) => Lib.hid (nums_any hr hf (by omega))
  have HV := fun w (h : Row cb w D n c r.data) => Lib.hid (vec_ok h (by have := h.len; omega))
  have hx : Hid (encs ((nums r).map Int.toNat) ++ encV r.data = recX r) := rfl
  have hxl := recX_len hf hc
  have HF := fun w1 A n c (ht : Tk g k w1) (h : RowO g w1 A n c (recX r)) => Lib.hid (frame_any ht hk h (by have := h.row.len; omega))
  have R1 := Lib.hid (RS.start (r := r) (D := D) (n := n) (c := c) ht)
  have HR := Lib.hid h
  have HN := Lib.hid hnn
  have FN := Lib.hid (fits_nat hf hnn)
  have HX := Lib.hid hxl
  unfold frV recV numsV at *
  clear ht hf h hc hnn hxl
  go_enter Try.func22, Try.ntmps22
  go_wp2_with fail
  generalize (w.alloc (.cells #[.pointer (some ⟨g, 0, none⟩)] 60)).alloc (.cells #[.int .i64 r.kind, .int .i64 r.lba, .int .i64 r.n, .int .i64 r.ver, .int .i64 r.zone, .int .i64 r.off, .slice D n c] 34) = w1 at *
  refine (HC w1).out.mono ?_
  rintro en w2 ⟨rfl, hb2⟩
  have R2 := Lib.hid (R1.out.below hb2)
  obtain ⟨c0, c1, c2, c3, c4, c5, c6⟩ := R2.out.box.cells
  clear hb2 R1 HC
  go_wp2_with fail
  refine (HO w2).out.mono ?_
  rintro en w3 ⟨rfl, hb3⟩
  have R3 := Lib.hid (R2.out.below hb3)
  clear hb3 R2 c0 c1 c2 c3 c4 c5 c6 HO
  go_wp2_with fail
  have R4 := Lib.hid (R3.out.alloc (.cells #[.int .i64 r.kind, .int .i64 r.lba, .int .i64 r.n, .int .i64 r.ver, .int .i64 r.zone, .int .i64 r.off] 77))
  refine (HNm _ w3.heap.size (row_nums (heap_alloc_new w3 _))).out.mono ?_
  generalize w3.alloc (.cells #[.int .i64 r.kind, .int .i64 r.lba, .int .i64 r.n, .int .i64 r.ver, .int .i64 r.zone, .int .i64 r.off] 77) = w4 at *
  rintro en w5 (⟨-, X, j, d, rfl, hX, hb5⟩ | ⟨⟨z, hz, hneg⟩, -, -⟩)
  · have R5 := Lib.hid (R4.out.below hb5)
    have O5 := Lib.hid (hX.mono (base' := w.heap.size + 2) R4.out.box.lt)
    obtain ⟨c0, c1, c2, c3, c4, c5, c6⟩ := R5.out.box.cells
    have hj : Hid (j ≤ 60) := by
      have h1 := hX.len
      have h2 := encs_len (l := (nums r).map Int.toNat) (fun x hx => by
        have := FN.out x hx
        omega)
      have h3 : ((nums r).map Int.toNat).length = 6 := rfl
      show j ≤ 60
      omega
    clear hX hb5 R3 R4 HNm
    go_wp2_with fail
    refine (HV w5 (HR.out.keep R5.out.keep).row).out.mono ?_
    rintro en w6 ⟨Y, j2, d2, rfl, hY, hb6⟩
    have R6 := Lib.hid (R5.out.below hb6)
    have O6 := Lib.hid (O5.out.below hb6)
    have hj2 : Hid (j2 ≤ 40000) := by
      have h1 := hY.len
      have h2 := HX.out
      rw [← hx.out, List.length_append] at h2
      show j2 ≤ 40000
      omega
    obtain ⟨Y', c8, e5, hrow⟩ := hY.row (by have := hj2.out; omega)
    obtain ⟨rfl, -, rfl⟩ : Y = Y' ∧ j2 = j2 ∧ d2 = c8 := by simpa using e5
    have RY := Lib.hid hrow
    have e0 := R6.out.c0
    clear hY hb6 e5 hrow c0 c1 c2 c3 c4 c5 c6 R5 O5 HV
    go_wp2_with fail
    have e0d : w6.drew.cell? ⟨w.heap.size, 0, none⟩ = some (.pointer (some ⟨g, 0, none⟩)) := e0
    refine wp_region_held_drew (S := fun W => W.cell? ⟨w.heap.size, 0, none⟩ = some (.pointer (some ⟨g, 0, none⟩))) (by kernel_rfl) e0d (fun hHeld => ?_)
    (first | (refine Reg.take 0 (v := ?_) rfl (by kernel_rfl) (by kernel_rfl) (by kernel_rfl) (fun _ _ _ h => h) (Or.inl ⟨by rfl, ?_⟩) (by assumption) ?_; rotate_left; (focus ((intro W hSW); (try dsimp only at hSW); (try go_split_ands); go_simp; (try (with_reducible rfl)); done))) | (refine Reg.take 0 (v := undef) rfl (by kernel_rfl) (by kernel_rfl) (by kernel_rfl) (fun _ _ _ h => h) (Or.inr ⟨by rfl, rfl⟩) (by assumption) ?_))
    (try simp only [Act.put, List.setIfInBounds_toArray, List.set_cons_zero, List.set_cons_succ])
    (first | (refine Reg.take 1 (v := ?_) rfl (by kernel_rfl) (by kernel_rfl) (by kernel_rfl) (fun _ _ _ h => h) (Or.inl ⟨by rfl, ?_⟩) (by assumption) ?_; rotate_left; (focus ((intro W hSW); (try dsimp only at hSW); (try go_split_ands); go_simp; (try (with_reducible rfl)); done))) | (refine Reg.take 1 (v := undef) rfl (by kernel_rfl) (by kernel_rfl) (by kernel_rfl) (fun _ _ _ h => h) (Or.inr ⟨by rfl, rfl⟩) (by assumption) ?_))
    (try simp only [Act.put, List.setIfInBounds_toArray, List.set_cons_zero, List.set_cons_succ])
    (first | (refine Reg.take 2 (v := ?_) rfl (by kernel_rfl) (by kernel_rfl) (by kernel_rfl) (fun _ _ _ h => h) (Or.inl ⟨by rfl, ?_⟩) (by assumption) ?_; rotate_left; (focus ((intro W hSW); (try dsimp only at hSW); (try go_split_ands); go_simp; (try (with_reducible rfl)); done))) | (refine Reg.take 2 (v := undef) rfl (by kernel_rfl) (by kernel_rfl) (by kernel_rfl) (fun _ _ _ h => h) (Or.inr ⟨by rfl, rfl⟩) (by assumption) ?_))
    (try simp only [Act.put, List.setIfInBounds_toArray, List.set_cons_zero, List.set_cons_succ])
    refine Reg.step 3 rfl (by kernel_rfl) (by rfl) (fun K hK => ?_)
    refine wp_append_row cb_one Try.underlying27 info_byte rfl (.tmp 36) (.tmp 37) rfl rfl (w.heap.size + 2) (.slice X j d) j _ rfl O6.out.drew Y j2 d2 _ rfl RY.out.drew (by have := hj.out; have := hj2.out; omega) (by have := hj.out; have := hj2.out; omega) R6.out.box.lt ?_
    intro A7 k7 w7 hO7 hb7
    rw [hx.out] at hO7
    have hb7 : Below (w.heap.size + 2) w6 w7 := (Below.refl _ w6).drew.trans hb7
    have K7 := Lib.hid (Keep.then_below R6.out.keep (hb7.mono (by omega)))
    have T7 := Lib.hid (R6.out.tab.heap (hb7.block g (by omega)))
    have e7 : w7.cell? ⟨w.heap.size, 0, none⟩ = some (.pointer (some ⟨g, 0, none⟩)) := cell_of_row _ _ _ _ _ _ ((hb7.block w.heap.size (by omega)).trans R6.out.fb)
    have O7 := Lib.hid (hO7.mono (base' := w.heap.size) (by omega))
    have R7 := Lib.hid (RowO.of_own O7.out (by have := hj.out; have := hj2.out; omega) hg)
    refine hK.out _ _ e7 (fun hHeld7 => ?_)
    clear hK K hHeld e0d e0 hO7 hb7
    (try simp only [Act.put, List.setIfInBounds_toArray, List.set_cons_zero, List.set_cons_succ])
    refine Reg.step 4 rfl (by kernel_rfl) (by rfl) (fun K hK => ?_)
    go_simp
    refine (HF w7 _ _ _ T7.out R7.out).out.mono ?_
    rintro en w8 ⟨⟨B, k8, d8, rfl, hO8, hK8⟩, hT8⟩
    have O8 := Lib.hid (hO8.mono K7.out.1.size)
    have K8 := Lib.hid (K7.out.trans hK8)
    have T8 := Lib.hid hT8
    have e8 : w8.cell? ⟨w.heap.size, 0, none⟩ = some (.pointer (some ⟨g, 0, none⟩)) := hK8.cell (p := ⟨w.heap.size, 0, none⟩) e7 (by show w.heap.size ≠ g; omega)
    refine hK.out _ _ e8 (fun hHeld8 => ?_)
    clear hK K hHeld7 e7 hO8 hK8 hT8
    (try simp only [Act.put, List.setIfInBounds_toArray, List.set_cons_zero, List.set_cons_succ])
    (first | (refine Reg.take 5 (v := ?_) rfl (by kernel_rfl) (by kernel_rfl) (by kernel_rfl) (fun _ _ _ h => h) (Or.inl ⟨by rfl, ?_⟩) (by assumption) ?_; rotate_left; (focus ((intro W hSW); (try dsimp only at hSW); (try go_split_ands); go_simp; (try (with_reducible rfl)); done))) | (refine Reg.take 5 (v := undef) rfl (by kernel_rfl) (by kernel_rfl) (by kernel_rfl) (fun _ _ _ h => h) (Or.inr ⟨by rfl, rfl⟩) (by assumption) ?_))
    (try simp only [Act.put, List.setIfInBounds_toArray, List.set_cons_zero, List.set_cons_succ])
    (first | (refine Reg.take 6 (v := ?_) rfl (by kernel_rfl) (by kernel_rfl) (by kernel_rfl) (fun _ _ _ h => h) (Or.inl ⟨by rfl, ?_⟩) (by assumption) ?_; rotate_left; (focus ((intro W hSW); (try dsimp only at hSW); (try go_split_ands); go_simp; (try (with_reducible rfl)); done))) | (refine Reg.take 6 (v := undef) rfl (by kernel_rfl) (by kernel_rfl) (by kernel_rfl) (fun _ _ _ h => h) (Or.inr ⟨by rfl, rfl⟩) (by assumption) ?_))
    (try simp only [Act.put, List.setIfInBounds_toArray, List.set_cons_zero, List.set_cons_succ])
    (first | (refine Reg.take 7 (v := ?_) rfl (by kernel_rfl) (by kernel_rfl) (by kernel_rfl) (fun _ _ _ h => h) (Or.inl ⟨by rfl, ?_⟩) (by assumption) ?_; rotate_left; (focus ((intro W hSW); (try dsimp only at hSW); (try go_split_ands); go_simp; (try (with_reducible rfl)); done))) | (refine Reg.take 7 (v := undef) rfl (by kernel_rfl) (by kernel_rfl) (by kernel_rfl) (fun _ _ _ h => h) (Or.inr ⟨by rfl, rfl⟩) (by assumption) ?_))
    (try simp only [Act.put, List.setIfInBounds_toArray, List.set_cons_zero, List.set_cons_succ])
    (first | (refine Reg.take 8 (v := ?_) rfl (by kernel_rfl) (by kernel_rfl) (by kernel_rfl) (fun _ _ _ h => h) (Or.inl ⟨by rfl, ?_⟩) (by assumption) ?_; rotate_left; (focus ((intro W hSW); (try dsimp only at hSW); (try go_split_ands); go_simp; (try (with_reducible rfl)); done))) | (refine Reg.take 8 (v := undef) rfl (by kernel_rfl) (by kernel_rfl) (by kernel_rfl) (fun _ _ _ h => h) (Or.inr ⟨by rfl, rfl⟩) (by assumption) ?_))
    (try simp only [Act.put, List.setIfInBounds_toArray, List.set_cons_zero, List.set_cons_succ])
    refine wpAnyH_done (by kernel_rfl) ?_ _
    go_wp2_with fail
    go_ret2
    exact ⟨⟨B, k8, d8, rfl, O8.out, K8.out⟩, T8.out⟩
  · exact absurd (HN.out z hz) (by omega)

set_option maxRecDepth 100000 in
theorem rec_any {g k : Nat} {r : Rc} {D : Option Addr} {n c : Nat} {w : World} (ht : Tk g k w) (hk : k ≤ 1000000000000000000) (hf : fits (nums r)) (h : RowO g w D n c r.data) :
    Calls Try.prog 22 #[frV g, recV r D n c] w fun en w' => GaveK g w (recB r).1 (recB r).2 en w' ∧ Tk g (k + 1) w' := by
  unfold recB
  by_cases hc : check r = 0
  · rw [if_pos hc]
    exact rec_ok ht hk hf h hc
  · rw [if_neg hc]
    refine rec_bad ht hf h (check r) ?_ rfl
    rcases check_le r with h | h | h
    · exact absurd h hc
    · exact .inl h
    · exact .inr h
end Seg
end Go.Proofs.Ytedandbkdjmfhaa
