/-
  THE STATEMENT SegTwice: whatever the bytes, what Scan finds of them is written by Seg as the bytes that were whole, and scanned again it is the same; the argument stays as it was. For every input.
-/
import Derived.Test.YtpdmlimjhpgdiaaSegLive
import Derived.Test.YtpdmlimjhpgdiaaOpen
namespace Go.Proofs.Ytpdmlimjhpgdiaa
open Go.ChangeShapes Go.WideShapes Go.ChangeAt Go.RowKit Mem
namespace Seg
open Wire

/-- What is found of bytes, written again. -/
theorem again {b : List B8} {h : Hdr} {u0 : Nat} {acc : List (Rc × Nat)} (hh : headAt b = some (h, u0)) (hs : Scans (b.drop u0) acc) :
    segB h (acc.map (·.1)) = (b.take (u0 + total acc), 0) ∧ headAt (b.take (u0 + total acc)) = some (h, u0) ∧ (∀ acc', Scans ((b.take (u0 + total acc)).drop u0) acc' → acc' = acc) ∧ fits (hnums h) ∧ goods (acc.map (·.1)) ∧ (frames (acc.map (·.1))).length = total acc := by
  obtain ⟨a1, a2, a3, a4, a5⟩ := headAt_one hh
  obtain ⟨s1, s2, rest, s3, s4⟩ := scans_one hs
  have hu : (frame (headX h)).length = u0 := by rw [a1, List.length_take]; omega
  have ht : total acc = (frames (acc.map (·.1))).length := by rw [← sized_total, ← s1]
  have e : b.take (u0 + total acc) = frame (headX h) ++ frames (acc.map (·.1)) := by
    rw [List.take_add, ← a1, s3, ht, List.take_left]
  rw [e]
  refine ⟨?_, ?_, fun acc' h' => ?_, a4, fun r hr => (s2 r hr).2, ht.symm⟩
  · unfold segB
    rw [if_pos a3, recsB_ok _ fun r hr => (s2 r hr).1]
    simp
  · rw [headAt_seg h a4 a3, hu]
  · rw [← hu, List.drop_left] at h'
    rw [s1]
    exact h'.det (by have := scans_frames [] (by simpa using one_zeros 0) _ s2; rwa [List.append_nil] at this)

set_option maxRecDepth 100000 in
set_option maxHeartbeats 6400000 in
theorem segTwice_walk (A : Option Addr) (n c : Nat) (b : List B8) (w : World) (hr : Row cb w A n c b) :
    Calls Try.prog 6 #[.slice A n c] w fun e w' => e = .returned (.bool true) ∧ Below w.heap.size w w' := by
  have HR := Lib.hid hr
  have hbig := hr.big
  clear hr
  by_cases hn : 100000 < n
  · have hn' : (100000 : Int) < (n : Int) := by omega
    clear hn
    go_enter Try.func6, Try.ntmps6
    go_wp2_with (go_at_call 7; refine (live_any _).mono ?_; rintro e w1 ⟨rfl, hb⟩; have B1 := Lib.hid hb; clear hb)
    go_ret
    exact ⟨rfl, B1.out⟩
  · have hn' : (n : Int) ≤ 100000 := by omega
    rcases hh : headAt b with _ | ⟨h, u0⟩
    · have HC := fun w (h : Row cb w A n c b) => Lib.hid (scan_nothing h (by omega) hh)
      clear hn hh
      go_enter Try.func6, Try.ntmps6
      go_wp2_with (first
        | (go_at_call 7; refine (live_any _).mono ?_; rintro e w1 ⟨rfl, hb⟩; have B1 := Lib.hid hb; clear hb)
        | (go_at_call 10; refine (HC _ (HR.out.below B1.out)).out.mono ?_; rintro e w2 ⟨rfl, hb⟩; have B2 := Lib.hid (B1.out.trans (hb.mono B1.out.size)); clear hb))
      go_ret
      exact ⟨rfl, B2.out.alloc B2.out.size _⟩
    · have HC := fun w (h : Row cb w A n c b) => Lib.hid (scan_found h (by omega) hh)
      have HH := Lib.hid hh
      clear hn hh
      go_enter Try.func6, Try.ntmps6
      go_wp2_with fail
      refine (live_any _).mono ?_
      rintro e w1 ⟨rfl, hb⟩
      have B1 := Lib.hid hb
      clear hb
      go_wp2_with fail
      refine (HC w1 (HR.out.below B1.out)).out.mono ?_
      rintro e w2 ⟨acc, xs, LA, LC, AA, AC, h1, h2, rfl, h4, h5, h6, hb2⟩
      obtain ⟨g1, g2, g3, g4, g5, g6⟩ := again HH.out h1
      have B2 := Lib.hid (B1.out.trans (hb2.mono B1.out.size))
      have RL := Lib.hid h4
      have RA := Lib.hid h5
      have HX := Lib.hid h6
      have hbl := HR.out.len
      have hcap := HR.out.cap
      have hused : u0 + total acc ≤ n := by omega
      have hac : acc.length ≤ 100000 := by have := scans_count h1; omega
      generalize hU : u0 + total acc = U at *
      have hsl := run_head A n c U (by omega)
      have RK : Row cb w2 A U c (b.take U) := (HR.out.below B2.out).head (by omega)
      have HSeg := fun w (hr : RowR w LA acc.length LC xs) => Lib.hid (seg_any hr g4 (by rw [h6]; exact g5) (by rw [h6, g6]; omega))
      rw [h6, g1] at HSeg
      have HRK := Lib.hid RK
      have hbt : (b.take U).length = U := by rw [List.length_take]; omega
      have HC2 := fun w X d (h : Row cb w X U d (b.take U)) => Lib.hid (scan_found h (by omega) g2)
      have G3 := Lib.hid g3
      have HU := Lib.hid hU
      clear h1 h2 h4 h5 h6 hb2 g1 g2 g3 g4 g5 g6 HC B1 RK hU
      generalize b.take U = bt at *
      unfold hdV at HSeg
      go_wp2_with fail
      have B3 := Lib.hid (B2.out.alloc B2.out.size (.cells #[.bool true, .int .i64 h.host, .int .i64 h.epoch, .int .i64 h.seq, .slice LA acc.length LC, .slice AA acc.length AC, .int .i64 (U : Int)] 33))
      have C3 : Hid (Cells (w2.alloc (.cells #[.bool true, .int .i64 h.host, .int .i64 h.epoch, .int .i64 h.seq, .slice LA acc.length LC, .slice AA acc.length AC, .int .i64 (U : Int)] 33)) w2.heap.size 33 #[.bool true, .int .i64 h.host, .int .i64 h.epoch, .int .i64 h.seq, .slice LA acc.length LC, .slice AA acc.length AC, .int .i64 (U : Int)]) := heap_alloc_new w2 _
      have b23 : Below w2.heap.size w2 (w2.alloc (.cells #[.bool true, .int .i64 h.host, .int .i64 h.epoch, .int .i64 h.seq, .slice LA acc.length LC, .slice AA acc.length AC, .int .i64 (U : Int)] 33)) := (Below.refl _ w2).alloc (Nat.le_refl _) _
      have RL3 := Lib.hid (RL.out.below b23)
      have RA3 := Lib.hid (RA.out.below b23)
      have HRK3 := Lib.hid (HRK.out.below b23)
      clear b23 RL RA HRK B2
      generalize w2.alloc (.cells #[.bool true, .int .i64 h.host, .int .i64 h.epoch, .int .i64 h.seq, .slice LA acc.length LC, .slice AA acc.length AC, .int .i64 (U : Int)] 33) = w3 at *
      generalize w2.heap.size = f1 at *
      refine (HSeg w3 RL3.out).out.mono ?_
      rintro e w4 ⟨X, k, d, rfl, hX, hb4⟩
      obtain ⟨hrow, rfl⟩ := gave_row (w := w) hX (by omega)
      rw [hbt] at hrow ⊢
      have B4 := Lib.hid (B3.out.trans (hb4.mono B3.out.size))
      have C4 := Lib.hid (Cells.below C3.out hb4)
      have RL4 := Lib.hid (RL3.out.below hb4)
      have RA4 := Lib.hid (RA3.out.below hb4)
      have RX := Lib.hid hrow
      have hs1 := fun q => run_str (RX.out.drewN q)
      have hs2 := fun q => run_str ((HRK3.out.below hb4).drewN q)
      have c4 := Cells.seven C4.out
      obtain ⟨⟨c0, c1, c2, c3, c4, c5, c6⟩, -⟩ := c4
      have hu1 : decide ((U : Int) < 0) = false := by simp
      have hu2 : decide ((n : Int) < (U : Int)) = false := by simp; omega
      have hu3 : (0 : Int) ≤ (U : Int) := by omega
      have hu4 : (U : Int) ≤ (c : Int) := by omega
      clear hX hb4 hrow HSeg RL3 RA3 HRK3 B3 C3
      go_wp2_with fail
      go_quiet (fail)
      go_wp2_with fail
      have B5 := Lib.hid ((B4.out.trans (below_drewN w.heap.size w4 nq)).drew)
      have C5 : Hid (Cells (w4.drewN nq).drew f1 33 #[.bool true, .int .i64 h.host, .int .i64 h.epoch, .int .i64 h.seq, .slice LA acc.length LC, .slice AA acc.length AC, .int .i64 (U : Int)]) := C4.out
      have RL5 := Lib.hid (RL4.out.below (below_drewN _ w4 nq).drew)
      have RA5 := Lib.hid (RA4.out.below (below_drewN _ w4 nq).drew)
      have RX5 := Lib.hid ((RX.out.drewN nq).drew)
      clear B4 C4 RL4 RA4 RX hs1 hs2 c0 c1 c2 c3 c4 c5 c6 hu1 hu2 hu3 hu4
      refine wp_region_held_drew (S := fun W => W.cell? ⟨f1, 0, none⟩ = some (.bool true) ∧ W.cell? ⟨f1, 1, none⟩ = some (.int .i64 h.host) ∧ W.cell? ⟨f1, 2, none⟩ = some (.int .i64 h.epoch) ∧ W.cell? ⟨f1, 3, none⟩ = some (.int .i64 h.seq) ∧ W.cell? ⟨f1, 4, none⟩ = some (.slice LA acc.length LC) ∧ W.cell? ⟨f1, 5, none⟩ = some (.slice AA acc.length AC) ∧ W.cell? ⟨f1, 6, none⟩ = some (.int .i64 (U : Int)))
        (by kernel_rfl) (Cells.seven C5.out).1 (fun hHeld => ?_)
      (first | (refine Reg.take 0 (v := ?_) rfl (by kernel_rfl) (by kernel_rfl) (by kernel_rfl) (fun _ _ _ h => h) (Or.inl ⟨by rfl, ?_⟩) (by assumption) ?_; rotate_left; (focus ((intro W hSW); (try dsimp only at hSW); (try go_split_ands); go_simp; (try (with_reducible rfl)); done))) | (refine Reg.take 0 (v := undef) rfl (by kernel_rfl) (by kernel_rfl) (by kernel_rfl) (fun _ _ _ h => h) (Or.inr ⟨by rfl, rfl⟩) (by assumption) ?_))
      (try simp only [Act.put, List.setIfInBounds_toArray, List.set_cons_zero, List.set_cons_succ])
      (first | (refine Reg.take 1 (v := ?_) rfl (by kernel_rfl) (by kernel_rfl) (by kernel_rfl) (fun _ _ _ h => h) (Or.inl ⟨by rfl, ?_⟩) (by assumption) ?_; rotate_left; (focus ((intro W hSW); (try dsimp only at hSW); (try go_split_ands); go_simp; (try (with_reducible rfl)); done))) | (refine Reg.take 1 (v := undef) rfl (by kernel_rfl) (by kernel_rfl) (by kernel_rfl) (fun _ _ _ h => h) (Or.inr ⟨by rfl, rfl⟩) (by assumption) ?_))
      (try simp only [Act.put, List.setIfInBounds_toArray, List.set_cons_zero, List.set_cons_succ])
      (first | (refine Reg.take 2 (v := ?_) rfl (by kernel_rfl) (by kernel_rfl) (by kernel_rfl) (fun _ _ _ h => h) (Or.inl ⟨by rfl, ?_⟩) (by assumption) ?_; rotate_left; (focus ((intro W hSW); (try dsimp only at hSW); (try go_split_ands); go_simp; (try (with_reducible rfl)); done))) | (refine Reg.take 2 (v := undef) rfl (by kernel_rfl) (by kernel_rfl) (by kernel_rfl) (fun _ _ _ h => h) (Or.inr ⟨by rfl, rfl⟩) (by assumption) ?_))
      (try simp only [Act.put, List.setIfInBounds_toArray, List.set_cons_zero, List.set_cons_succ])
      (first | (refine Reg.take 4 (v := ?_) rfl (by kernel_rfl) (by kernel_rfl) (by kernel_rfl) (fun _ _ _ h => h) (Or.inl ⟨by rfl, ?_⟩) (by assumption) ?_; rotate_left; (focus ((intro W hSW); (try dsimp only at hSW); (try go_split_ands); go_simp; (try (with_reducible rfl)); done))) | (refine Reg.take 4 (v := undef) rfl (by kernel_rfl) (by kernel_rfl) (by kernel_rfl) (fun _ _ _ h => h) (Or.inr ⟨by rfl, rfl⟩) (by assumption) ?_))
      (try simp only [Act.put, List.setIfInBounds_toArray, List.set_cons_zero, List.set_cons_succ])
      refine Reg.step 3 rfl (by kernel_rfl) (by rfl) (fun K hK => ?_)
      go_simp
      refine (HC2 _ X d RX5.out).out.mono ?_
      rintro e w6 ⟨acc2, ys, LB, LD, AB, AD, q1, q2, rfl, q4, q5, q6, hb6⟩
      have hacc := G3.out _ q1
      subst hacc
      rw [HU.out]
      have B6 := Lib.hid (B5.out.trans (hb6.mono B5.out.size))
      have C6 := Lib.hid (Cells.below C5.out hb6)
      have RL6 := Lib.hid (RL5.out.below hb6)
      have RA6 := Lib.hid (RA5.out.below hb6)
      have RY6 := Lib.hid q4
      have RB6 := Lib.hid q5
      have HE := Lib.hid (q6.trans HX.out.symm)
      have hc6 := (Cells.seven C6.out).1
      refine hK.out _ _ hc6 (fun hHeld2 => ?_)
      clear hK K hHeld q1 q2 q4 q5 q6 hb6 hc6 HC2 G3 B5 C5 RL5 RA5 RX5
      (try simp only [Act.put, List.setIfInBounds_toArray, List.set_cons_zero, List.set_cons_succ])
      refine Reg.step 5 rfl (by kernel_rfl) (by rfl) (fun K hK => ?_)
      go_simp
      refine (sameFound_any (hd := true) (h := h) (u := (U : Int)) RY6.out RL6.out HE.out RB6.out RA6.out).mono ?_
      rintro e w7 ⟨rfl, hb7⟩
      have B7 := Lib.hid (B6.out.trans (hb7.mono B6.out.size))
      have hc7 := (Cells.seven (Cells.below C6.out hb7)).1
      refine hK.out _ _ hc7 (fun hHeld3 => ?_)
      clear hK K hHeld2 hb7 hc7 RY6 RL6 RB6 RA6 C6 B6
      (try simp only [Act.put, List.setIfInBounds_toArray, List.set_cons_zero, List.set_cons_succ])
      (first | (refine Reg.take 6 (v := ?_) rfl (by kernel_rfl) (by kernel_rfl) (by kernel_rfl) (fun _ _ _ h => h) (Or.inl ⟨by rfl, ?_⟩) (by assumption) ?_; rotate_left; (focus ((intro W hSW); (try dsimp only at hSW); (try go_split_ands); go_simp; (try (with_reducible rfl)); done))) | (refine Reg.take 6 (v := undef) rfl (by kernel_rfl) (by kernel_rfl) (by kernel_rfl) (fun _ _ _ h => h) (Or.inr ⟨by rfl, rfl⟩) (by assumption) ?_))
      (try simp only [Act.put, List.setIfInBounds_toArray, List.set_cons_zero, List.set_cons_succ])
      (first | (refine Reg.take 7 (v := ?_) rfl (by kernel_rfl) (by kernel_rfl) (by kernel_rfl) (fun _ _ _ h => h) (Or.inl ⟨by rfl, ?_⟩) (by assumption) ?_; rotate_left; (focus ((intro W hSW); (try dsimp only at hSW); (try go_split_ands); go_simp; (try (with_reducible rfl)); done))) | (refine Reg.take 7 (v := undef) rfl (by kernel_rfl) (by kernel_rfl) (by kernel_rfl) (fun _ _ _ h => h) (Or.inr ⟨by rfl, rfl⟩) (by assumption) ?_))
      (try simp only [Act.put, List.setIfInBounds_toArray, List.set_cons_zero, List.set_cons_succ])
      refine wpAnyH_done (by kernel_rfl) ?_ _
      go_wp2_with fail
      go_ret
      exact ⟨rfl, B7.out⟩

theorem segTwice_says : Frame.Says Rows.segTwiceSpec 1 := by
  refine ⟨rfl, fun H ds h => ?_, fun H ds h => ?_, fun H ds h => ?_⟩ <;>
  · match ds, h with
    | [d1], _ => rfl

set_option maxRecDepth 100000 in
theorem segTwice_walks : Frame.Walks 6 [27] := by
  intro H enc W args ds ps base hok hA hsz
  obtain ⟨v0, vs0, d0, ds0, p0, q0, hargs, rfl, rfl, h0, r0⟩ := trodAll_cons hA
  obtain ⟨rfl, rfl, rfl⟩ := trodAll_nil r0
  obtain rfl : args = #[v0] := by cases args; simp_all
  obtain ⟨A, len, cap, l, rfl, l0⟩ := Args.open_bytes (hok 0 _ v0 rfl rfl) h0 (Args.sized_arg hsz (j := 0) rfl rfl)
  exact segTwice_walk A len cap l W l0

set_option maxRecDepth 100000 in
theorem segTwice_over : Rows.segTwiceRow.holds Try.pinned (OpenSpec.ofChange Rows.segTwiceSpec) :=
  OpenClaim.holds_of_wide 6 Try.f6 rfl rfl rfl rfl rfl rfl rfl ⟨rfl, rfl, rfl, rfl, rfl⟩ rfl rfl rfl rfl rfl (by kernel_rfl) Try.func6 (by kernel_rfl)
    (of_decide_eq_true (by kernel_rfl)) (by unfold Func.isWrapper; first | (rw [if_pos (by decide +kernel)]; kernel_rfl) | (rw [if_neg (by decide +kernel)]; exact ⟨rfl, rfl⟩))
    (fun os started H enc _ => Frame.lifted (started := started) Try.underlying4 (by kernel_rfl) Try.func6 (n := 1) (by rw [Try.params6]; rfl) segTwice_says (by rw [Try.params6]; kernel_rfl) (by kernel_rfl)
      (ChangeSpec.witness6 (enc := enc) (C := Try.checked) false ⟨#[], #[.slice none 0 0], []⟩ 8 (by kernel_rfl) (by kernel_rfl) (by kernel_rfl) (by kernel_rfl))
      (by rw [Try.params6]; exact segTwice_walks))
end Seg
/-- The given statement. -/
theorem segTwice_holds : Rows.SegTwiceSaid := Seg.segTwice_over
end Go.Proofs.Ytpdmlimjhpgdiaa
