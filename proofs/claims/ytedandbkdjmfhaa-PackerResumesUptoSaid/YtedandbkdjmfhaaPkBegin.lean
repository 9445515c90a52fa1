/-
  WALKS: packer.Begin, packer.Resume.
-/
import Derived.Test.YtedandbkdjmfhaaPkCloned
namespace Go.Proofs.Ytedandbkdjmfhaa
open Go.RowKit Mem Box
namespace Pk
open Seg (Hdr Rc Rv cellsOf cellsOf_len RowR hdV recV fits nums hnums nn goods frame headX recX frames check recB headB)
/-- A pack of its own, and an error, as a call gave them. -/
def GaveE (w : World) (p : Pp) (er : Int) (e : Ending) (w' : World) : Prop := ∃ y, e = .returned (.tuple #[pxv y, .int .i64 er]) ∧ y.p = p ∧ OwnP w.heap.size w' y ∧ Below w.heap.size w w'
set_option maxRecDepth 100000 in
set_option maxHeartbeats 6400000 in
theorem begin_any {h : Hdr} {zone most : Int} {w : World} (hf : fits (hnums h)) : Calls Try.prog 8 #[hdV h, .int .i64 zone, .int .i64 most] w (GaveE w (beginP h zone most).1 (beginP h zone most).2) := by
  have HH := fun w => Lib.hid (Seg.head_outer (h := h) (w := w) hf)
  have HMB := fun w => Lib.hid (mayBe_any zone most w)
  have HGR := fun (X : Option Addr) (k d : Nat) (b : Nat) (w : World) (hn : nn (hnums h)) (ho : Mem.Owns cb 5 b w (.slice X k d) k (frame (headX h))) => show k = (frame (headX h)).length from (Wire.gave_row ho (by have := head_len hf hn; omega)).2
  have L1 : Hid (Below w.heap.size w ((w.alloc (.cells #[.int .i64 h.host, .int .i64 h.epoch, .int .i64 h.seq] 23)).alloc (.cells #[.int .i64 0, .int .i64 0, .int .i64 0, .int .i64 0, .int .i64 0, .int .i64 0, .slice none 0 0, .slice none 0 0] 29))) := (((Below.refl _ w).alloc (by first | exact Nat.le_refl _ | (simp; try omega)) _).alloc (by first | exact Nat.le_refl _ | (simp; try omega)) _)
  have X1 : Hid (Cells ((w.alloc (.cells #[.int .i64 h.host, .int .i64 h.epoch, .int .i64 h.seq] 23)).alloc (.cells #[.int .i64 0, .int .i64 0, .int .i64 0, .int .i64 0, .int .i64 0, .int .i64 0, .slice none 0 0, .slice none 0 0] 29)) w.heap.size 23 #[.int .i64 h.host, .int .i64 h.epoch, .int .i64 h.seq]) := Cells.alloc (Cells.new _ _ _) _
  have Z1 : Hid (ZBox ((w.alloc (.cells #[.int .i64 h.host, .int .i64 h.epoch, .int .i64 h.seq] 23)).alloc (.cells #[.int .i64 0, .int .i64 0, .int .i64 0, .int .i64 0, .int .i64 0, .int .i64 0, .slice none 0 0, .slice none 0 0] 29)) (w.heap.size + 1)) := by
    have := Cells.new (w.alloc (.cells #[.int .i64 h.host, .int .i64 h.epoch, .int .i64 h.seq] 23)) #[.int .i64 0, .int .i64 0, .int .i64 0, .int .i64 0, .int .i64 0, .int .i64 0, .slice none 0 0, .slice none 0 0] 29
    rw [World.size_alloc] at this
    exact this
  have hbp : Hid (beginP h zone most = if nn (hnums h) then (if mayZ zone most then (if ((frame (headX h)).length : Int) ≤ most then (⟨h, zone, most, 0, frame (headX h), []⟩, 0) else (zeroP, 40)) else (zeroP, 1)) else (zeroP, 1)) := rfl
  unfold GaveE
  have HLN : Hid (nn (hnums h) → (frame (headX h)).length ≤ 100) := fun hn => head_len hf hn
  generalize beginP h zone most = bp at *
  unfold hdV
  unfold hdV at HH
  clear hf
  go_enter Try.func8, Try.ntmps8
  go_upto_region 1 with fail
  generalize (w.alloc (.cells #[.int .i64 h.host, .int .i64 h.epoch, .int .i64 h.seq] 23)).alloc (.cells #[.int .i64 0, .int .i64 0, .int .i64 0, .int .i64 0, .int .i64 0, .int .i64 0, .slice none 0 0, .slice none 0 0] 29) = w1 at *
  have m0 := Cells.cell X1.out 0
  have m1 := Cells.cell X1.out 1
  have m2 := Cells.cell X1.out 2
  (try dsimp only at m0 m1 m2)
  by_cases hn : nn (hnums h)
  · have hB : headB h = (frame (headX h), 0) := by unfold headB; rw [if_pos hn]
    rw [hB] at HH
    have hl := HLN.out hn
    have hbq := hbp.out
    rw [if_pos hn] at hbq
    have HG2 := fun X k d b w h => HGR X k d b w hn h
    have HBQ := Lib.hid hbq
    clear hbq hbp HGR hB HLN hn
    generalize hfr : frame (headX h) = fr at *
    have HFR := Lib.hid hfr
    clear hfr
    go_upto_region 2 with (go_at_call 19; refine (HH w1).out.mono ?_; rintro e w2 ⟨X, k, d, rfl, hO, hb⟩; have L2 := Lib.hid (L1.out.trans (hb.mono L1.out.size)); have X2 := Lib.hid (Cells.below X1.out hb); have Z2 : Hid (ZBox w2 (w.heap.size + 1)) := Cells.below Z1.out hb; have O2 := Lib.hid (hO.mono L1.out.size); obtain rfl := HG2 _ _ _ _ _ hO; clear hO hb m0 m1 m2 L1 X1 Z1 HH HG2)
    have m0 := Cells.cell X2.out 0
    have m1 := Cells.cell X2.out 1
    have m2 := Cells.cell X2.out 2
    (try dsimp only at m0 m1 m2)
    obtain ⟨z0, z1, z2, z3, z4, z5, z6, z7⟩ := eight_cells Z2.out
    obtain ⟨f0, f1, f2, f3, f4, f5, f6, f7⟩ := eight_free Z2.out
    by_cases hm : mayZ zone most
    · have hd : decide (mayZ zone most) = true := by simpa using hm
      rw [hd] at HMB
      have hbq := HBQ.out
      rw [if_pos hm] at hbq
      by_cases hle : (fr.length : Int) ≤ most
      · rw [if_pos hle] at hbq
        have HBP := Lib.hid hbq
        have hlt : ¬ most < (fr.length : Int) := by omega
        clear hd hm HBQ hbq
        go_wp2_with (go_at_call 20; refine (HMB w2).out.mono ?_; rintro e w3 ⟨rfl, rfl⟩)
        rw [HBP.out]
        have bt := mov8 w3 (w.heap.size + 1) (.int .i64 h.host) (.int .i64 h.epoch) (.int .i64 h.seq) (.int .i64 zone) (.int .i64 most) (.int .i64 0) (.slice X fr.length d) (.slice none 0 0)
        have cg := Chg.mov Z2.out bt
        refine bodyPost_ret_by (results_c1 rfl _ _ (w.heap.size + 1) _ _ _ _ rfl (set8 Z2.out (.int .i64 h.host) (.int .i64 h.epoch) (.int .i64 h.seq) (.int .i64 zone) (.int .i64 most) (.int .i64 0) (.slice X fr.length d) (.slice none 0 0)) Try.underlying29 rfl (by kernel_rfl)) rfl ?_
        exact ⟨⟨⟨h, zone, most, 0, fr, []⟩, X, d, none, 0, []⟩, rfl, rfl, ⟨cg.ownI O2.out (by decide), OwnS.Owns.nil _ _ _ _ _, by simp, by simp, rfl⟩, L2.out.trans (bt.up L2.out.size (by omega))⟩
      · rw [if_neg hle] at hbq
        have HBP := Lib.hid hbq
        have hlt : most < (fr.length : Int) := by omega
        clear hd hm HBQ hbq
        go_wp2_with (go_at_call 20; refine (HMB w2).out.mono ?_; rintro e w3 ⟨rfl, rfl⟩)
        rw [HBP.out]
        have bt := mov8 w3 (w.heap.size + 1) (.int .i64 0) (.int .i64 0) (.int .i64 0) (.int .i64 0) (.int .i64 0) (.int .i64 0) (.slice none 0 0) (.slice none 0 0)
        have cg := Chg.mov Z2.out bt
        refine bodyPost_ret_by (results_c1 rfl _ _ (w.heap.size + 1) _ _ _ _ rfl (set8 Z2.out (.int .i64 0) (.int .i64 0) (.int .i64 0) (.int .i64 0) (.int .i64 0) (.int .i64 0) (.slice none 0 0) (.slice none 0 0)) Try.underlying29 rfl (by kernel_rfl)) rfl ?_
        exact ⟨⟨zeroP, none, 0, none, 0, []⟩, rfl, rfl, OwnP.zero _ _, L2.out.trans (bt.up L2.out.size (by omega))⟩
    · have hd : decide (mayZ zone most) = false := by simpa using hm
      rw [hd] at HMB
      have hbq := HBQ.out
      rw [if_neg hm] at hbq
      have HBP := Lib.hid hbq
      clear hd hm HBQ hbq
      go_wp2_with (go_at_call 20; refine (HMB w2).out.mono ?_; rintro e w3 ⟨rfl, rfl⟩)
      rw [HBP.out]
      have bt := mov8 w3 (w.heap.size + 1) (.int .i64 0) (.int .i64 0) (.int .i64 0) (.int .i64 0) (.int .i64 0) (.int .i64 0) (.slice none 0 0) (.slice none 0 0)
      have cg := Chg.mov Z2.out bt
      refine bodyPost_ret_by (results_c1 rfl _ _ (w.heap.size + 1) _ _ _ _ rfl (set8 Z2.out (.int .i64 0) (.int .i64 0) (.int .i64 0) (.int .i64 0) (.int .i64 0) (.int .i64 0) (.slice none 0 0) (.slice none 0 0)) Try.underlying29 rfl (by kernel_rfl)) rfl ?_
      exact ⟨⟨zeroP, none, 0, none, 0, []⟩, rfl, rfl, OwnP.zero _ _, L2.out.trans (bt.up L2.out.size (by omega))⟩
  · have hB : headB h = ([], 1) := by unfold headB; rw [if_neg hn]
    rw [hB] at HH
    have hbq := hbp.out
    rw [if_neg hn] at hbq
    have HBP := Lib.hid hbq
    clear hbq hbp HGR hB HLN hn HMB
    go_upto_region 2 with (go_at_call 19; refine (HH w1).out.mono ?_; rintro e w2 ⟨X, k, d, rfl, hO, hb⟩; have L2 := Lib.hid (L1.out.trans (hb.mono L1.out.size)); have X2 := Lib.hid (Cells.below X1.out hb); have Z2 : Hid (ZBox w2 (w.heap.size + 1)) := Cells.below Z1.out hb; clear hO hb m0 m1 m2 L1 X1 Z1 HH)
    obtain ⟨z0, z1, z2, z3, z4, z5, z6, z7⟩ := eight_cells Z2.out
    obtain ⟨f0, f1, f2, f3, f4, f5, f6, f7⟩ := eight_free Z2.out
    go_wp2_with fail
    rw [HBP.out]
    have bt := mov8 w2 (w.heap.size + 1) (.int .i64 0) (.int .i64 0) (.int .i64 0) (.int .i64 0) (.int .i64 0) (.int .i64 0) (.slice none 0 0) (.slice none 0 0)
    have cg := Chg.mov Z2.out bt
    refine bodyPost_ret_by (results_c1 rfl _ _ (w.heap.size + 1) _ _ _ _ rfl (set8 Z2.out (.int .i64 0) (.int .i64 0) (.int .i64 0) (.int .i64 0) (.int .i64 0) (.int .i64 0) (.slice none 0 0) (.slice none 0 0)) Try.underlying29 rfl (by kernel_rfl)) rfl ?_
    exact ⟨⟨zeroP, none, 0, none, 0, []⟩, rfl, rfl, OwnP.zero _ _, L2.out.trans (bt.up L2.out.size (by omega))⟩

set_option maxRecDepth 100000 in
set_option maxHeartbeats 6400000 in
theorem resume_ok {h : Hdr} {LA AA : Option Addr} {n LC m AC : Nat} {u zone most at_ : Int} {w : World} (hm : mayZ zone most) (h1 : u ≤ at_) (h2 : at_ ≤ most) :
    Calls Try.prog 14 #[.agg #[.bool true, .int .i64 h.host, .int .i64 h.epoch, .int .i64 h.seq, .slice LA n LC, .slice AA m AC, .int .i64 u], .int .i64 zone, .int .i64 most, .int .i64 at_] w (GaveE w ⟨h, zone, most, at_, [], []⟩ 0) := by
  have HMB := fun w => Lib.hid (mayBe_any zone most w)
  have hd : decide (mayZ zone most) = true := by simpa using hm
  rw [hd] at HMB
  have hlt1 : ¬ at_ < u := by omega
  have hlt2 : ¬ most < at_ := by omega
  have L1 : Hid (Below w.heap.size w ((w.alloc (.cells #[.bool true, .int .i64 h.host, .int .i64 h.epoch, .int .i64 h.seq, .slice LA n LC, .slice AA m AC, .int .i64 u] 44)).alloc (.cells #[.int .i64 0, .int .i64 0, .int .i64 0, .int .i64 0, .int .i64 0, .int .i64 0, .slice none 0 0, .slice none 0 0] 29))) := (((Below.refl _ w).alloc (by first | exact Nat.le_refl _ | (simp; try omega)) _).alloc (by first | exact Nat.le_refl _ | (simp; try omega)) _)
  have X1 : Hid (Cells ((w.alloc (.cells #[.bool true, .int .i64 h.host, .int .i64 h.epoch, .int .i64 h.seq, .slice LA n LC, .slice AA m AC, .int .i64 u] 44)).alloc (.cells #[.int .i64 0, .int .i64 0, .int .i64 0, .int .i64 0, .int .i64 0, .int .i64 0, .slice none 0 0, .slice none 0 0] 29)) w.heap.size 44 #[.bool true, .int .i64 h.host, .int .i64 h.epoch, .int .i64 h.seq, .slice LA n LC, .slice AA m AC, .int .i64 u]) := Cells.alloc (Cells.new _ _ _) _
  have Z1 : Hid (ZBox ((w.alloc (.cells #[.bool true, .int .i64 h.host, .int .i64 h.epoch, .int .i64 h.seq, .slice LA n LC, .slice AA m AC, .int .i64 u] 44)).alloc (.cells #[.int .i64 0, .int .i64 0, .int .i64 0, .int .i64 0, .int .i64 0, .int .i64 0, .slice none 0 0, .slice none 0 0] 29)) (w.heap.size + 1)) := by
    have := Cells.new (w.alloc (.cells #[.bool true, .int .i64 h.host, .int .i64 h.epoch, .int .i64 h.seq, .slice LA n LC, .slice AA m AC, .int .i64 u] 44)) #[.int .i64 0, .int .i64 0, .int .i64 0, .int .i64 0, .int .i64 0, .int .i64 0, .slice none 0 0, .slice none 0 0] 29
    rw [World.size_alloc] at this
    exact this
  clear hd hm h1 h2
  go_enter Try.func14, Try.ntmps14
  go_upto_region 1 with fail
  generalize (w.alloc (.cells #[.bool true, .int .i64 h.host, .int .i64 h.epoch, .int .i64 h.seq, .slice LA n LC, .slice AA m AC, .int .i64 u] 44)).alloc (.cells #[.int .i64 0, .int .i64 0, .int .i64 0, .int .i64 0, .int .i64 0, .int .i64 0, .slice none 0 0, .slice none 0 0] 29) = w1 at *
  obtain ⟨m0, m1, m2, m3, m4, m5, m6⟩ := seven_cells X1.out
  obtain ⟨z0, z1, z2, z3, z4, z5, z6, z7⟩ := eight_cells Z1.out
  obtain ⟨f0, f1, f2, f3, f4, f5, f6, f7⟩ := eight_free Z1.out
  go_wp2_with (go_at_call 20; refine (HMB w1).out.mono ?_; rintro e w3 ⟨rfl, rfl⟩)
  have bt := mov8 w3 (w.heap.size + 1) (.int .i64 h.host) (.int .i64 h.epoch) (.int .i64 h.seq) (.int .i64 zone) (.int .i64 most) (.int .i64 at_) (.slice none 0 0) (.slice none 0 0)
  have cg := Chg.mov Z1.out bt
  refine bodyPost_ret_by (results_c1 rfl _ _ (w.heap.size + 1) _ _ _ _ rfl (set8 Z1.out (.int .i64 h.host) (.int .i64 h.epoch) (.int .i64 h.seq) (.int .i64 zone) (.int .i64 most) (.int .i64 at_) (.slice none 0 0) (.slice none 0 0)) Try.underlying29 rfl (by kernel_rfl)) rfl ?_
  exact ⟨⟨⟨h, zone, most, at_, [], []⟩, none, 0, none, 0, []⟩, rfl, rfl, OwnP.nil _ _ _ _ _ _, L1.out.trans (bt.up L1.out.size (by omega))⟩
end Pk
end Go.Proofs.Ytedandbkdjmfhaa
