/-
  SEVERAL TEXTS IN ONE FILE: PkSame, PkLive, PkOne, PkFar, PkResP, PkRes, PkResRow.
-/
import Derived.Test.YtedandbkdjmfhaaPkAdd
import Derived.Laws.MakeOwn
import Derived.Test.YtedandbkdjmfhaaCut
import Derived.Test.YtedandbkdjmfhaaFrameU
/-
  WALKS OVER THE DOCUMENT: two packs the same; ints the same. The chapter's example in plain.
-/
namespace Go.Proofs.Ytedandbkdjmfhaa
open Go.RowKit Mem Box
namespace Pk
open Seg (Hdr Rc Rv cellsOf cellsOf_len RowR hdV recV fits nums hnums nn goods frame headX recX frames check recB headB)
set_option maxRecDepth 100000 in
set_option maxHeartbeats 800000 in
theorem sameInts_any {A B : Option Addr} {n c m d : Nat} {l : List Int} {w : World} (h1 : Row ci w A n c l) (h2 : Row ci w B m d l) :
    Calls Try.prog 17 #[.slice A n c, .slice B m d] w fun e w' => e = .returned (.bool true) ∧ Below w.heap.size w w' := by
  obtain rfl : n = m := by rw [← h1.len, h2.len]
  have H1 := Lib.hid h1
  have H2 := Lib.hid h2
  have hb := h1.big
  clear h1 h2
  go_enter Try.func17, Try.ntmps17
  go_wp2_with fail
  go_loopw [13] (fun i wr => ∃ k : Nat, i = .int .i64 k ∧ k ≤ n ∧ Hid (Below w.heap.size w wr)) (fun i _ => n - (intOf i).toNat)
  case atStart => exact ⟨0, rfl, by omega, Below.refl _ _⟩
  case round =>
    obtain ⟨k, rfl, hk, hB⟩ := hrel
    by_cases hlt : k < n
    · obtain ⟨z, hz⟩ := H1.out.get hlt
      obtain ⟨b1, o1, rfl, hc1⟩ := (H1.out.below hB.out).cell hz
      obtain ⟨b2, o2, rfl, hc2⟩ := (H2.out.below hB.out).cell hz
      have hc1' : wr.cell? ⟨b1, o1 + k, none⟩ = some (.int .i64 z) := hc1
      have hc2' : wr.cell? ⟨b2, o2 + k, none⟩ = some (.int .i64 z) := hc2
      have hk0 : (0 : Int) ≤ (k : Int) := by omega
      have hk1 : (k : Int) < (n : Int) := by omega
      clear hc1 hc2 hz
      go_wp2_with fail
      go_quiet (fail)
      go_wp2_with fail
      go_roundw
      case rel => exact ⟨k + 1, by go_num, by omega, below_drewN hB.out _⟩
      case measure => simp [intOf]; omega
    · go_wp2_with fail
      go_ret
      exact ⟨rfl, hB.out⟩

set_option maxRecDepth 100000 in
set_option maxHeartbeats 6400000 in
theorem same_pk {x : Px} {B L : Option Addr} {bc lc : Nat} {ys : List Rv} {w : World} (hx : PackAt w x) (hy : PackAt w ⟨x.p, B, bc, L, lc, ys⟩) :
    Calls Try.prog 18 #[pxv x, .agg #[.int .i64 x.p.h.host, .int .i64 x.p.h.epoch, .int .i64 x.p.h.seq, .int .i64 x.p.zone, .int .i64 x.p.cap, .int .i64 x.p.at_, .slice B x.p.buf.length bc, .slice L x.p.l.length lc]] w fun e w' => e = .returned (.bool true) ∧ Below w.heap.size w w' := by
  have L1 : Below w.heap.size w ((w.alloc (.cells #[.int .i64 x.p.h.host, .int .i64 x.p.h.epoch, .int .i64 x.p.h.seq, .int .i64 x.p.zone, .int .i64 x.p.cap, .int .i64 x.p.at_, .slice x.B x.p.buf.length x.bc, .slice x.L x.p.l.length x.lc] 29)).alloc (.cells #[.int .i64 x.p.h.host, .int .i64 x.p.h.epoch, .int .i64 x.p.h.seq, .int .i64 x.p.zone, .int .i64 x.p.cap, .int .i64 x.p.at_, .slice B x.p.buf.length bc, .slice L x.p.l.length lc] 29)) := (((Below.refl _ w).alloc (by first | exact Nat.le_refl _ | (simp; try omega)) _).alloc (by first | exact Nat.le_refl _ | (simp; try omega)) _)
  have X1 : Hid (PBox ((w.alloc (.cells #[.int .i64 x.p.h.host, .int .i64 x.p.h.epoch, .int .i64 x.p.h.seq, .int .i64 x.p.zone, .int .i64 x.p.cap, .int .i64 x.p.at_, .slice x.B x.p.buf.length x.bc, .slice x.L x.p.l.length x.lc] 29)).alloc (.cells #[.int .i64 x.p.h.host, .int .i64 x.p.h.epoch, .int .i64 x.p.h.seq, .int .i64 x.p.zone, .int .i64 x.p.cap, .int .i64 x.p.at_, .slice B x.p.buf.length bc, .slice L x.p.l.length lc] 29)) w.heap.size x) := Cells.alloc (Cells.new _ _ _) _
  have Y1 : Hid (Cells ((w.alloc (.cells #[.int .i64 x.p.h.host, .int .i64 x.p.h.epoch, .int .i64 x.p.h.seq, .int .i64 x.p.zone, .int .i64 x.p.cap, .int .i64 x.p.at_, .slice x.B x.p.buf.length x.bc, .slice x.L x.p.l.length x.lc] 29)).alloc (.cells #[.int .i64 x.p.h.host, .int .i64 x.p.h.epoch, .int .i64 x.p.h.seq, .int .i64 x.p.zone, .int .i64 x.p.cap, .int .i64 x.p.at_, .slice B x.p.buf.length bc, .slice L x.p.l.length lc] 29)) (w.heap.size + 1) 29 #[.int .i64 x.p.h.host, .int .i64 x.p.h.epoch, .int .i64 x.p.h.seq, .int .i64 x.p.zone, .int .i64 x.p.cap, .int .i64 x.p.at_, .slice B x.p.buf.length bc, .slice L x.p.l.length lc]) := by
    have := Cells.new (w.alloc (.cells #[.int .i64 x.p.h.host, .int .i64 x.p.h.epoch, .int .i64 x.p.h.seq, .int .i64 x.p.zone, .int .i64 x.p.cap, .int .i64 x.p.at_, .slice x.B x.p.buf.length x.bc, .slice x.L x.p.l.length x.lc] 29)) #[.int .i64 x.p.h.host, .int .i64 x.p.h.epoch, .int .i64 x.p.h.seq, .int .i64 x.p.zone, .int .i64 x.p.cap, .int .i64 x.p.at_, .slice B x.p.buf.length bc, .slice L x.p.l.length lc] 29
    rw [World.size_alloc] at this
    exact this
  have s1 := run_str (hx.buf.below L1)
  have s2 := run_str (hy.buf.below L1)
  have HS := fun W (hW : Below w.heap.size w W) => Lib.hid (Seg.sameRecs_any (hx.recs.below hW) (hy.recs.below hW) (hx.eq.trans hy.eq.symm))
  have L1 := Lib.hid L1
  unfold pxv
  dsimp only at s2 HS
  generalize str x.p.buf = sx at *
  clear hx hy
  go_enter Try.func18, Try.ntmps18
  go_upto_region 1 with fail
  generalize (w.alloc (.cells #[.int .i64 x.p.h.host, .int .i64 x.p.h.epoch, .int .i64 x.p.h.seq, .int .i64 x.p.zone, .int .i64 x.p.cap, .int .i64 x.p.at_, .slice x.B x.p.buf.length x.bc, .slice x.L x.p.l.length x.lc] 29)).alloc (.cells #[.int .i64 x.p.h.host, .int .i64 x.p.h.epoch, .int .i64 x.p.h.seq, .int .i64 x.p.zone, .int .i64 x.p.cap, .int .i64 x.p.at_, .slice B x.p.buf.length bc, .slice L x.p.l.length lc] 29) = w1 at *
  obtain ⟨m0, m1, m2, m3, m4, m5, m6, m7⟩ := eight_cells X1.out
  obtain ⟨k0, k1, k2, k3, k4, k5, k6, k7⟩ := eight_cells Y1.out
  go_wp2_with (go_at_call 16; refine (HS w1 L1.out).out.mono ?_; rintro e w2 ⟨rfl, hb⟩; have L2 := Lib.hid (L1.out.trans (hb.mono L1.out.size)); clear hb)
  go_ret
  exact ⟨rfl, L2.out⟩

/-! ### The example -/
def exH : Hdr := ⟨1, 2, 0⟩
def exR : Rc := ⟨1, 0, 1, 0, 0, 0, List.replicate 16 0#8⟩
theorem exH_nn : nn (hnums exH) := by intro z hz; simp [hnums, exH] at hz; omega
theorem exH_fits : fits (hnums exH) := by intro z hz; simp [hnums, exH] at hz; omega
theorem exR_fits : fits (nums exR) := by intro z hz; simp [nums, exR] at hz; omega
theorem exR_check : check exR = 0 := by decide
theorem enc_one {n : Nat} (h : n < 128) : (Wire.enc n).length = 1 := by rw [Wire.enc_lt h]; rfl
theorem exH_len : (frame (headX exH)).length = 9 := by
  have h : (headX exH).length = 4 := by simp [headX, hnums, exH, Wire.encs, Wire.enc_lt]
  rw [Seg.frame_len, h, enc_one (by omega)]
theorem exR_len : flen exR = 28 := by
  have h : (recX exR).length = 23 := by simp [recX, nums, exR, Wire.encs, Wire.enc_lt, Wire.encV]
  unfold flen
  rw [Seg.frame_len, h, enc_one (by omega)]
def exP : Pp := ⟨exH, 3, 200, 0, frame (headX exH), []⟩
theorem exP_len : exP.buf.length = 9 := exH_len
theorem ex_may : mayZ 3 200 := by unfold mayZ; omega
theorem ex_begin : beginP exH 3 200 = (exP, 0) := by
  unfold beginP
  rw [if_pos exH_nn, if_pos ex_may, if_pos (by rw [exH_len]; omega)]
  rfl
theorem exP_ok : OkP exP := OkP.begun (h := exH) ex_may (by rw [exH_len]; omega)
theorem ex_fits : fitsP exP [exR] := by
  unfold fitsP
  rw [exP_len, frames_one, exR_len]
  show (0 : Int) + _ + _ ≤ 200
  omega
theorem ex_errB : errB [exR] = 0 := by rw [errB_one]; exact exR_check
theorem ex_place : placeR exR = 8 := by unfold placeR; rw [exR_len]; rfl
theorem ex_add : addP exP [exR] = (moreP exP [exR], [17], 0) := by
  rw [addP_ok ex_errB ex_fits, places_one, exP_len, ex_place]
  rfl
theorem exM_ok : OkP (moreP exP [exR]) := exP_ok.more ex_errB ex_fits
theorem exM_len : (moreP exP [exR]).buf.length = 37 := by
  show (exP.buf ++ frames [exR]).length = 37
  rw [List.length_append, exP_len, frames_one, exR_len]
end Pk
end Go.Proofs.Ytedandbkdjmfhaa
/-
  A WALK: the chapter's example (live).
-/
namespace Go.Proofs.Ytedandbkdjmfhaa
open Go.RowKit Mem Box
namespace Pk
open Seg (Hdr Rc Rv cellsOf cellsOf_len RowR hdV recV fits nums hnums nn goods frame headX recX frames check recB headB)
theorem run_make16 (w : World) : (Instr.makeSlice 27 (.int .i64 16) (.int .i64 16)).run Try.prog w = .ok (.slice (some ⟨w.heap.size, 0, none⟩) 16 16) (w.alloc (.cells (madeCells #[.int .u8 0] 16) 5)) := by
  obtain ⟨i, hi, hz0, hz1, hz2⟩ := info_parts info_byte
  have h := run_make (P := Try.prog) w 27 5 i _ Try.underlying27 hi hz0 .i64 .i64 16 16 (by omega) (by omega) (by rw [hz2]; omega) (by omega)
  rw [hz1] at h
  exact h
theorem made16 (w : World) : Row cb (w.alloc (.cells (madeCells #[.int .u8 0] 16) 5)) (some ⟨w.heap.size, 0, none⟩) 16 16 (List.replicate 16 0#8) := by
  have h := Mem.Owns.made cb 5 w (List.replicate 16 0#8) (by decide) (Nat.le_refl _)
  have e : ((List.replicate 16 0#8).map cb).toArray = madeCells #[.int .u8 0] 16 := by
    apply Array.toList_inj.1
    apply List.ext_getElem?
    intro i
    unfold madeCells
    simp only [Array.getElem?_toList, Array.getElem?_map, Array.getElem?_range, List.getElem?_map, List.getElem?_replicate]
    split <;> simp [cb, u, Nat.mod_one]
  rw [e] at h
  exact (Wire.gave_row h (by decide)).1
theorem exBegin_any (w : World) : Calls Try.prog 8 #[.agg #[.int .i64 1, .int .i64 2, .int .i64 0], .int .i64 3, .int .i64 200] w fun e w' => ∃ B bc L lc ys, e = .returned (.tuple #[.agg #[.int .i64 1, .int .i64 2, .int .i64 0, .int .i64 3, .int .i64 200, .int .i64 0, .slice B 9 bc, .slice L 0 lc], .int .i64 0]) ∧ OwnP w.heap.size w' ⟨exP, B, bc, L, lc, ys⟩ ∧ Below w.heap.size w w' := by
  have h := begin_any (h := exH) (zone := 3) (most := 200) (w := w) exH_fits
  rw [ex_begin] at h
  refine h.mono ?_
  rintro e w' ⟨⟨p, B, bc, L, lc, ys⟩, rfl, hp, hO, hb⟩
  obtain rfl : p = exP := hp
  refine ⟨B, bc, L, lc, ys, ?_, hO, hb⟩
  unfold pxv
  dsimp only
  rw [exP_len]
  rfl
theorem exAdd_any {B : Option Addr} {bc : Nat} {L : Option Addr} {lc : Nat} {ys : List Rv} {base g r : Nat} {w : World} (hp : OwnP base w ⟨exP, B, bc, L, lc, ys⟩) (hr : RowS cellsOf 7 w (some ⟨r, 0, none⟩) 1 1 [⟨exR, some ⟨g, 0, none⟩, 16⟩]) (hd : Row cb w (some ⟨g, 0, none⟩) 16 16 (List.replicate 16 0#8)) :
    Calls Try.prog 10 #[.agg #[.int .i64 1, .int .i64 2, .int .i64 0, .int .i64 3, .int .i64 200, .int .i64 0, .slice B 9 bc, .slice L 0 lc], .slice (some ⟨r, 0, none⟩) 1 1] w fun e w' => ∃ B bc L lc ys T d, e = .returned (.tuple #[.agg #[.int .i64 1, .int .i64 2, .int .i64 0, .int .i64 3, .int .i64 200, .int .i64 0, .slice B 37 bc, .slice L 1 lc], .slice T 1 d, .int .i64 0]) ∧ OwnP w.heap.size w' ⟨moreP exP [exR], B, bc, L, lc, ys⟩ ∧ Mem.Owns ci 3 w.heap.size w' (.slice T 1 d) 1 [17] ∧ Below w.heap.size w w' := by
  have hR : RowR w (some ⟨r, 0, none⟩) 1 1 [⟨exR, some ⟨g, 0, none⟩, 16⟩] := rowR_of hr (by omega) (by intro x hx; rw [List.mem_singleton.1 hx]; exact hd)
  have h := add_any (hp.any exP_ok) exP_ok hR (by intro r hr; rw [List.mem_singleton.1 hr]; exact exR_fits)
  rw [show [(⟨exR, some ⟨g, 0, none⟩, 16⟩ : Rv)].map Rv.r = [exR] from rfl, ex_add] at h
  have hv : pxv ⟨exP, B, bc, L, lc, ys⟩ = .agg #[.int .i64 1, .int .i64 2, .int .i64 0, .int .i64 3, .int .i64 200, .int .i64 0, .slice B 9 bc, .slice L 0 lc] := by
    unfold pxv
    dsimp only
    rw [exP_len]
    rfl
  rw [hv] at h
  refine h.mono ?_
  rintro e w' ⟨⟨p, B, bc, L, lc, ys⟩, T, k, d, rfl, hp, hO, hT, hb⟩
  obtain rfl : p = moreP exP [exR] := hp
  obtain rfl : 1 = k := hT.len
  refine ⟨B, bc, L, lc, ys, T, d, ?_, hO, hT, hb⟩
  unfold pxv
  dsimp only
  rw [exM_len]
  rfl
theorem exFlush_any {B : Option Addr} {bc : Nat} {L : Option Addr} {lc : Nat} {ys : List Rv} {base : Nat} {w : World} (hp : OwnP base w ⟨moreP exP [exR], B, bc, L, lc, ys⟩) :
    Calls Try.prog 15 #[.agg #[.int .i64 1, .int .i64 2, .int .i64 0, .int .i64 3, .int .i64 200, .int .i64 0, .slice B 37 bc, .slice L 1 lc]] w fun e w' => ∃ B d L lc M mc, e = .returned (.tuple #[.agg #[.int .i64 1, .int .i64 3, .int .i64 2, .int .i64 0, .int .i64 0, .slice B 37 d], .agg #[.int .i64 1, .int .i64 2, .int .i64 0, .int .i64 3, .int .i64 200, .int .i64 37, .slice L 0 lc, .slice M 0 mc], .bool true]) ∧ Below w.heap.size w w' := by
  have h := flush_some (hp.any exM_ok) exM_ok (by show 0 < (moreP exP [exR]).buf.length; rw [exM_len]; omega)
  have hv : pxv ⟨moreP exP [exR], B, bc, L, lc, ys⟩ = .agg #[.int .i64 1, .int .i64 2, .int .i64 0, .int .i64 3, .int .i64 200, .int .i64 0, .slice B 37 bc, .slice L 1 lc] := by
    unfold pxv
    dsimp only
    rw [exM_len]
    rfl
  rw [hv] at h
  refine h.mono ?_
  rintro e w' ⟨B, d, ⟨p, L, lc, M, mc, ys⟩, rfl, hp, -, -, hb⟩
  obtain rfl : p = behindP (moreP exP [exR]) := hp
  refine ⟨B, d, L, lc, M, mc, ?_, hb⟩
  unfold pxv behindP
  dsimp only
  rw [exM_len]
  rfl
set_option maxRecDepth 100000 in
set_option maxHeartbeats 6400000 in
theorem live_any (w : World) : Calls Try.prog 6 #[] w fun e w' => e = .returned (.bool true) ∧ Below w.heap.size w w' := by
  have HBG := fun w => Lib.hid (exBegin_any w)
  have hmk := run_make16
  have L1 := Lib.hid (Below.refl w.heap.size w)
  go_enter Try.func6, Try.ntmps6
  go_upto_region 2 with (go_at_call 8; refine (HBG w).out.mono ?_; rintro e w2 ⟨B, bc, L, lc, ys, rfl, hO, hb⟩; have L2 := Lib.hid (L1.out.trans (hb.mono L1.out.size)); have O2 := Lib.hid hO; clear hO hb L1)
  have BB : Below w2.heap.size w2 (w2.alloc (.cells #[.int .i64 1, .int .i64 2, .int .i64 0, .int .i64 3, .int .i64 200, .int .i64 0, .slice B 9 bc, .slice L 0 lc] 29)) := (Below.refl _ w2).alloc (Nat.le_refl _) _
  have Q3 : Hid (Cells (w2.alloc (.cells #[.int .i64 1, .int .i64 2, .int .i64 0, .int .i64 3, .int .i64 200, .int .i64 0, .slice B 9 bc, .slice L 0 lc] 29)) w2.heap.size 29 #[.int .i64 1, .int .i64 2, .int .i64 0, .int .i64 3, .int .i64 200, .int .i64 0, .slice B 9 bc, .slice L 0 lc]) := Cells.new _ _ _
  have L3 := Lib.hid (L2.out.trans (BB.mono L2.out.size))
  have O3 := Lib.hid (O2.out.below BB)
  have GQ := Lib.hid (L2.out.size)
  clear BB L2 O2
  generalize w2.alloc (.cells #[.int .i64 1, .int .i64 2, .int .i64 0, .int .i64 3, .int .i64 200, .int .i64 0, .slice B 9 bc, .slice L 0 lc] 29) = w3 at *
  generalize w2.heap.size = q at *
  have L4 := Lib.hid L3.out.drew
  have Q4 := Lib.hid (Cells.below Q3.out ((Below.refl _ w3).drew))
  have O4 := Lib.hid (OwnP.below O3.out ((Below.refl _ w3).drew))
  refine wp_region_held_drew (S := fun W => True) (by kernel_rfl) (trivial) (fun hHeld => ?_)
  generalize w3.drew = w4 at *
  clear L3 Q3 O3 
  refine Reg.step2 0 1 rfl rfl (by kernel_rfl) (by rfl) (by rfl) (fun K hK => ?_) (fun K hK => ?_)
  · skip
    obtain ⟨m0, m1, m2, m3, m4, m5, m6, m7⟩ := eight_cells Q4.out
    go_simp
    refine hK.out _ _ trivial (fun hHeld => ?_)
    clear hK K m0 m1 m2 m3 m4 m5 m6 m7
    (try simp only [Act.put, List.setIfInBounds_toArray, List.set_cons_zero, List.set_cons_succ])
    refine Reg.step 1 rfl (by kernel_rfl) (by rfl) (fun K hK => ?_)
    go_simp
    have bb : Below w4.heap.size w4 (w4.alloc (.cells (madeCells #[.int .u8 0] 16) 5)) := (Below.refl _ w4).alloc (Nat.le_refl _) _
    have D5 := Lib.hid (made16 w4)
    have L5 := Lib.hid (L4.out.trans (bb.mono L4.out.size))
    have Q5 := Lib.hid (Cells.below Q4.out bb)
    have O5 := Lib.hid (OwnP.below O4.out bb)
    obtain ⟨g, hg⟩ : ∃ p, p = w4.heap.size := ⟨_, rfl⟩
    rw [← hg] at D5
    rw [← hg]
    have Gg : Hid (g = w4.heap.size) := hg
    clear bb hHeld hg
    clear L4 Q4 O4 
    generalize w4.alloc (.cells (madeCells #[.int .u8 0] 16) 5) = w5 at *
    refine hK.out _ _ (trivial) (fun hHeld => ?_)
    clear hK K
    (try simp only [Act.put, List.setIfInBounds_toArray, List.set_cons_zero, List.set_cons_succ])
    (first | (refine Reg.take 2 (v := ?_) rfl (by kernel_rfl) (by kernel_rfl) (by kernel_rfl) (fun _ _ _ h => h) (Or.inl ⟨by rfl, ?_⟩) (by assumption) ?_; rotate_left; (focus ((intro W hSW); (try dsimp only at hSW); (try go_split_ands); go_simp; (try (with_reducible rfl)); done))) | (refine Reg.take 2 (v := undef) rfl (by kernel_rfl) (by kernel_rfl) (by kernel_rfl) (fun _ _ _ h => h) (Or.inr ⟨by rfl, rfl⟩) (by assumption) ?_))
    (try simp only [Act.put, List.setIfInBounds_toArray, List.set_cons_zero, List.set_cons_succ])
    refine Reg.step 3 rfl (by kernel_rfl) (by rfl) (fun K hK => ?_)
    go_simp
    have bb : Below w5.heap.size w5 (w5.alloc (.cells #[.int .i64 1, .int .i64 0, .int .i64 1, .int .i64 0, .int .i64 0, .int .i64 0, .slice (some ⟨g, 0, none⟩) 16 16] 34)) := (Below.refl _ w5).alloc (Nat.le_refl _) _
    have R6 := Lib.hid (show RowS cellsOf 7 (w5.alloc (.cells #[.int .i64 1, .int .i64 0, .int .i64 1, .int .i64 0, .int .i64 0, .int .i64 0, .slice (some ⟨g, 0, none⟩) 16 16] 34)) (some ⟨w5.heap.size, 0, none⟩) 1 1 [⟨exR, some ⟨g, 0, none⟩, 16⟩] from row_oneR (w := w5) (y := ⟨exR, some ⟨g, 0, none⟩, 16⟩) rfl)
    have L6 := Lib.hid (L5.out.trans (bb.mono L5.out.size))
    have Q6 := Lib.hid (Cells.below Q5.out bb)
    have O6 := Lib.hid (OwnP.below O5.out bb)
    have D6 := Lib.hid (Row.below D5.out bb)
    obtain ⟨r, hr⟩ : ∃ p, p = w5.heap.size := ⟨_, rfl⟩
    rw [← hr] at R6
    rw [← hr]
    have Gr : Hid (r = w5.heap.size) := hr
    clear bb hHeld hr
    clear L5 Q5 O5 D5 
    generalize w5.alloc (.cells #[.int .i64 1, .int .i64 0, .int .i64 1, .int .i64 0, .int .i64 0, .int .i64 0, .slice (some ⟨g, 0, none⟩) 16 16] 34) = w6 at *
    refine hK.out _ _ (trivial) (fun hHeld => ?_)
    clear hK K
    (try simp only [Act.put, List.setIfInBounds_toArray, List.set_cons_zero, List.set_cons_succ])
    refine Reg.step 4 rfl (by kernel_rfl) (by rfl) (fun K hK => ?_)
    go_simp
    refine (exAdd_any O6.out R6.out D6.out).mono ?_
    rintro e w7 ⟨B2, bc2, L2, lc2, ys2, T, td, rfl, hO, hT, hb⟩
    have L7 := Lib.hid (L6.out.trans (hb.mono L6.out.size))
    have Q7 := Lib.hid (Cells.below Q6.out hb)
    have O7 := Lib.hid (OwnP.below O6.out hb)
    have D7 := Lib.hid (Row.below D6.out hb)
    have R7 := Lib.hid (RowS.below R6.out hb)
    clear O7 D7 R7
    have O7 := Lib.hid (hO.mono L6.out.size)
    have T7 := Lib.hid (hT.mono L6.out.size)
    clear hb hHeld hO hT
    clear L6 Q6 O6 D6 R6 
    refine hK.out _ _ (trivial) (fun hHeld => ?_)
    clear hK K
    (try simp only [Act.put, List.setIfInBounds_toArray, List.set_cons_zero, List.set_cons_succ])
    (first | (refine Reg.take 5 (v := ?_) rfl (by kernel_rfl) (by kernel_rfl) (by kernel_rfl) (fun _ _ _ h => h) (Or.inl ⟨by rfl, ?_⟩) (by assumption) ?_; rotate_left; (focus ((intro W hSW); (try dsimp only at hSW); (try go_split_ands); go_simp; (try (with_reducible rfl)); done))) | (refine Reg.take 5 (v := undef) rfl (by kernel_rfl) (by kernel_rfl) (by kernel_rfl) (fun _ _ _ h => h) (Or.inr ⟨by rfl, rfl⟩) (by assumption) ?_))
    (try simp only [Act.put, List.setIfInBounds_toArray, List.set_cons_zero, List.set_cons_succ])
    (first | (refine Reg.take 6 (v := ?_) rfl (by kernel_rfl) (by kernel_rfl) (by kernel_rfl) (fun _ _ _ h => h) (Or.inl ⟨by rfl, ?_⟩) (by assumption) ?_; rotate_left; (focus ((intro W hSW); (try dsimp only at hSW); (try go_split_ands); go_simp; (try (with_reducible rfl)); done))) | (refine Reg.take 6 (v := undef) rfl (by kernel_rfl) (by kernel_rfl) (by kernel_rfl) (fun _ _ _ h => h) (Or.inr ⟨by rfl, rfl⟩) (by assumption) ?_))
    (try simp only [Act.put, List.setIfInBounds_toArray, List.set_cons_zero, List.set_cons_succ])
    (first | (refine Reg.take 7 (v := ?_) rfl (by kernel_rfl) (by kernel_rfl) (by kernel_rfl) (fun _ _ _ h => h) (Or.inl ⟨by rfl, ?_⟩) (by assumption) ?_; rotate_left; (focus ((intro W hSW); (try dsimp only at hSW); (try go_split_ands); go_simp; (try (with_reducible rfl)); done))) | (refine Reg.take 7 (v := undef) rfl (by kernel_rfl) (by kernel_rfl) (by kernel_rfl) (fun _ _ _ h => h) (Or.inr ⟨by rfl, rfl⟩) (by assumption) ?_))
    (try simp only [Act.put, List.setIfInBounds_toArray, List.set_cons_zero, List.set_cons_succ])
    (first | (refine Reg.take 8 (v := ?_) rfl (by kernel_rfl) (by kernel_rfl) (by kernel_rfl) (fun _ _ _ h => h) (Or.inl ⟨by rfl, ?_⟩) (by assumption) ?_; rotate_left; (focus ((intro W hSW); (try dsimp only at hSW); (try go_split_ands); go_simp; (try (with_reducible rfl)); done))) | (refine Reg.take 8 (v := undef) rfl (by kernel_rfl) (by kernel_rfl) (by kernel_rfl) (fun _ _ _ h => h) (Or.inr ⟨by rfl, rfl⟩) (by assumption) ?_))
    (try simp only [Act.put, List.setIfInBounds_toArray, List.set_cons_zero, List.set_cons_succ])
    have y0 := Cells.cell Q7.out 0
    have f0 := Cells.frozen Q7.out 0
    have y1 := Cells.cell Q7.out 1
    have f1 := Cells.frozen Q7.out 1
    have y2 := Cells.cell Q7.out 2
    have f2 := Cells.frozen Q7.out 2
    have y3 := Cells.cell Q7.out 3
    have f3 := Cells.frozen Q7.out 3
    have y4 := Cells.cell Q7.out 4
    have f4 := Cells.frozen Q7.out 4
    have y5 := Cells.cell Q7.out 5
    have f5 := Cells.frozen Q7.out 5
    have y6 := Cells.cell Q7.out 6
    have f6 := Cells.frozen Q7.out 6
    have y7 := Cells.cell Q7.out 7
    have f7 := Cells.frozen Q7.out 7
    refine Reg.step 9 rfl (by kernel_rfl) (by rfl) (fun K hK => ?_)
    go_simp
    have bt := mov8 w7 q (.int .i64 1) (.int .i64 2) (.int .i64 0) (.int .i64 3) (.int .i64 200) (.int .i64 0) (.slice B2 37 bc2) (.slice L2 1 lc2)
    unfold set8W at bt
    have cg := Chg.mov Q7.out bt
    have L8 := Lib.hid (L7.out.trans (bt.up L7.out.size GQ.out))
    have Q8 : Hid (Cells ((((((((w7.setCell ⟨q, 0, none⟩ (.int .i64 1)).setCell ⟨q, 1, none⟩ (.int .i64 2)).setCell ⟨q, 2, none⟩ (.int .i64 0)).setCell ⟨q, 3, none⟩ (.int .i64 3)).setCell ⟨q, 4, none⟩ (.int .i64 200)).setCell ⟨q, 5, none⟩ (.int .i64 0)).setCell ⟨q, 6, none⟩ (.slice B2 37 bc2)).setCell ⟨q, 7, none⟩ (.slice L2 1 lc2)) q 29 #[.int .i64 1, .int .i64 2, .int .i64 0, .int .i64 3, .int .i64 200, .int .i64 0, .slice B2 37 bc2, .slice L2 1 lc2]) := set8 Q7.out (.int .i64 1) (.int .i64 2) (.int .i64 0) (.int .i64 3) (.int .i64 200) (.int .i64 0) (.slice B2 37 bc2) (.slice L2 1 lc2)
    have O8 := Lib.hid (O7.out.chg cg (by decide) (by decide))
    have T8 := Lib.hid (cg.ownI T7.out (by decide))
    clear bt cg hHeld L7 Q7 O7 T7 y0 f0 y1 f1 y2 f2 y3 f3 y4 f4 y5 f5 y6 f6 y7 f7
    generalize (((((((w7.setCell ⟨q, 0, none⟩ (.int .i64 1)).setCell ⟨q, 1, none⟩ (.int .i64 2)).setCell ⟨q, 2, none⟩ (.int .i64 0)).setCell ⟨q, 3, none⟩ (.int .i64 3)).setCell ⟨q, 4, none⟩ (.int .i64 200)).setCell ⟨q, 5, none⟩ (.int .i64 0)).setCell ⟨q, 6, none⟩ (.slice B2 37 bc2)).setCell ⟨q, 7, none⟩ (.slice L2 1 lc2) = w8 at *
    refine hK.out _ _ trivial (fun hHeld => ?_)
    clear hK K
    (try simp only [Act.put, List.setIfInBounds_toArray, List.set_cons_zero, List.set_cons_succ])
    (first | (refine Reg.take 10 (v := ?_) rfl (by kernel_rfl) (by kernel_rfl) (by kernel_rfl) (fun _ _ _ h => h) (Or.inl ⟨by rfl, ?_⟩) (by assumption) ?_; rotate_left; (focus ((intro W hSW); (try dsimp only at hSW); (try go_split_ands); go_simp; (try (with_reducible rfl)); done))) | (refine Reg.take 10 (v := undef) rfl (by kernel_rfl) (by kernel_rfl) (by kernel_rfl) (fun _ _ _ h => h) (Or.inr ⟨by rfl, rfl⟩) (by assumption) ?_))
    (try simp only [Act.put, List.setIfInBounds_toArray, List.set_cons_zero, List.set_cons_succ])
    (first | (refine Reg.take 11 (v := ?_) rfl (by kernel_rfl) (by kernel_rfl) (by kernel_rfl) (fun _ _ _ h => h) (Or.inl ⟨by rfl, ?_⟩) (by assumption) ?_; rotate_left; (focus ((intro W hSW); (try dsimp only at hSW); (try go_split_ands); go_simp; (try (with_reducible rfl)); done))) | (refine Reg.take 11 (v := undef) rfl (by kernel_rfl) (by kernel_rfl) (by kernel_rfl) (fun _ _ _ h => h) (Or.inr ⟨by rfl, rfl⟩) (by assumption) ?_))
    (try simp only [Act.put, List.setIfInBounds_toArray, List.set_cons_zero, List.set_cons_succ])
    refine wpAnyH_done (by kernel_rfl) ?_ _
    clear hHeld
    obtain ⟨m0, m1, m2, m3, m4, m5, m6, m7⟩ := eight_cells Q8.out
    have FL := Lib.hid (exFlush_any O8.out)
    obtain ⟨b, o, hTA, hc⟩ := ((Wire.gave_row T8.out (by decide)).1).cell (i := 0) (x := (17 : Int)) rfl
    subst hTA
    obtain ⟨hbt, hcc⟩ : b < w8.heap.size ∧ w8.cell? ⟨b, o, none⟩ = some (.int .i64 17) := by
      refine ⟨(OwnB.owns_lt T8.out b rfl).2, hc⟩
    have HT := Lib.hid hcc
    clear hc hcc
    go_upto_region 4 with (go_at_call 15; refine FL.out.mono ?_; rintro e w9 ⟨C, cc, N, nc, M, mc, rfl, hb⟩; have L9 := Lib.hid (L8.out.trans (hb.mono L8.out.size)); have T9 := Lib.hid ((World.cell?_of_block (hb.block b hbt)).trans HT.out); have hbt2 := Nat.lt_of_lt_of_le hbt hb.size; clear hb m0 m1 m2 m3 m4 m5 m6 m7 FL)
    have L10 : Hid (Below w.heap.size w ((w9.alloc (.cells #[.int .i64 1, .int .i64 3, .int .i64 2, .int .i64 0, .int .i64 0, .slice C 37 cc] 48)).alloc (.cells #[.int .i64 1, .int .i64 2, .int .i64 0, .int .i64 3, .int .i64 200, .int .i64 37, .slice N 0 nc, .slice M 0 mc] 29))) := Lib.hid ((L9.out.alloc L9.out.size _).alloc (by have := L9.out.size; simp; omega) _)
    have C10 : Hid (Cells ((w9.alloc (.cells #[.int .i64 1, .int .i64 3, .int .i64 2, .int .i64 0, .int .i64 0, .slice C 37 cc] 48)).alloc (.cells #[.int .i64 1, .int .i64 2, .int .i64 0, .int .i64 3, .int .i64 200, .int .i64 37, .slice N 0 nc, .slice M 0 mc] 29)) w9.heap.size 48 #[.int .i64 1, .int .i64 3, .int .i64 2, .int .i64 0, .int .i64 0, .slice C 37 cc]) := Lib.hid (Cells.alloc (Cells.new _ _ _) _)
    have P10 : Hid (Cells ((w9.alloc (.cells #[.int .i64 1, .int .i64 3, .int .i64 2, .int .i64 0, .int .i64 0, .slice C 37 cc] 48)).alloc (.cells #[.int .i64 1, .int .i64 2, .int .i64 0, .int .i64 3, .int .i64 200, .int .i64 37, .slice N 0 nc, .slice M 0 mc] 29)) (w9.heap.size + 1) 29 #[.int .i64 1, .int .i64 2, .int .i64 0, .int .i64 3, .int .i64 200, .int .i64 37, .slice N 0 nc, .slice M 0 mc]) := by
      have := Cells.new (w9.alloc (.cells #[.int .i64 1, .int .i64 3, .int .i64 2, .int .i64 0, .int .i64 0, .slice C 37 cc] 48)) #[.int .i64 1, .int .i64 2, .int .i64 0, .int .i64 3, .int .i64 200, .int .i64 37, .slice N 0 nc, .slice M 0 mc] 29
      rw [World.size_alloc] at this
      exact this
    have T10 : Hid (((w9.alloc (.cells #[.int .i64 1, .int .i64 3, .int .i64 2, .int .i64 0, .int .i64 0, .slice C 37 cc] 48)).alloc (.cells #[.int .i64 1, .int .i64 2, .int .i64 0, .int .i64 3, .int .i64 200, .int .i64 37, .slice N 0 nc, .slice M 0 mc] 29)).cell? ⟨b, o, none⟩ = some (.int .i64 17)) := Lib.hid ((World.cell?_of_block (((((Below.refl w9.heap.size w9).alloc (Nat.le_refl _) _).alloc (by simp) _).block b hbt2))).trans T9.out)
    generalize (w9.alloc (.cells #[.int .i64 1, .int .i64 3, .int .i64 2, .int .i64 0, .int .i64 0, .slice C 37 cc] 48)).alloc (.cells #[.int .i64 1, .int .i64 2, .int .i64 0, .int .i64 3, .int .i64 200, .int .i64 37, .slice N 0 nc, .slice M 0 mc] 29) = w10 at *
    generalize w9.heap.size = p at *
    obtain ⟨c0, c1, c2, c3, c4, c5⟩ := six_cells C10.out
    obtain ⟨p0, p1, p2, p3, p4, p5, p6, p7⟩ := eight_cells P10.out
    have t0 := T10.out
    go_quiet (fail)
    go_wp2_with fail
    go_ret
    exact ⟨rfl, below_drewN L10.out _⟩
  · skip
    go_simp
    have bb : Below w4.heap.size w4 (w4.alloc (.cells (madeCells #[.int .u8 0] 16) 5)) := (Below.refl _ w4).alloc (Nat.le_refl _) _
    have D5 := Lib.hid (made16 w4)
    have L5 := Lib.hid (L4.out.trans (bb.mono L4.out.size))
    have Q5 := Lib.hid (Cells.below Q4.out bb)
    have O5 := Lib.hid (OwnP.below O4.out bb)
    obtain ⟨g, hg⟩ : ∃ p, p = w4.heap.size := ⟨_, rfl⟩
    rw [← hg] at D5
    rw [← hg]
    have Gg : Hid (g = w4.heap.size) := hg
    clear bb hHeld hg
    clear L4 Q4 O4 
    generalize w4.alloc (.cells (madeCells #[.int .u8 0] 16) 5) = w5 at *
    refine hK.out _ _ (trivial) (fun hHeld => ?_)
    clear hK K
    (try simp only [Act.put, List.setIfInBounds_toArray, List.set_cons_zero, List.set_cons_succ])
    (first | (refine Reg.take 2 (v := ?_) rfl (by kernel_rfl) (by kernel_rfl) (by kernel_rfl) (fun _ _ _ h => h) (Or.inl ⟨by rfl, ?_⟩) (by assumption) ?_; rotate_left; (focus ((intro W hSW); (try dsimp only at hSW); (try go_split_ands); go_simp; (try (with_reducible rfl)); done))) | (refine Reg.take 2 (v := undef) rfl (by kernel_rfl) (by kernel_rfl) (by kernel_rfl) (fun _ _ _ h => h) (Or.inr ⟨by rfl, rfl⟩) (by assumption) ?_))
    (try simp only [Act.put, List.setIfInBounds_toArray, List.set_cons_zero, List.set_cons_succ])
    refine Reg.step2 0 3 rfl rfl (by kernel_rfl) (by rfl) (by rfl) (fun K hK => ?_) (fun K hK => ?_)
    · skip
      obtain ⟨m0, m1, m2, m3, m4, m5, m6, m7⟩ := eight_cells Q5.out
      go_simp
      refine hK.out _ _ trivial (fun hHeld => ?_)
      clear hK K m0 m1 m2 m3 m4 m5 m6 m7
      (try simp only [Act.put, List.setIfInBounds_toArray, List.set_cons_zero, List.set_cons_succ])
      refine Reg.step 3 rfl (by kernel_rfl) (by rfl) (fun K hK => ?_)
      go_simp
      have bb : Below w5.heap.size w5 (w5.alloc (.cells #[.int .i64 1, .int .i64 0, .int .i64 1, .int .i64 0, .int .i64 0, .int .i64 0, .slice (some ⟨g, 0, none⟩) 16 16] 34)) := (Below.refl _ w5).alloc (Nat.le_refl _) _
      have R6 := Lib.hid (show RowS cellsOf 7 (w5.alloc (.cells #[.int .i64 1, .int .i64 0, .int .i64 1, .int .i64 0, .int .i64 0, .int .i64 0, .slice (some ⟨g, 0, none⟩) 16 16] 34)) (some ⟨w5.heap.size, 0, none⟩) 1 1 [⟨exR, some ⟨g, 0, none⟩, 16⟩] from row_oneR (w := w5) (y := ⟨exR, some ⟨g, 0, none⟩, 16⟩) rfl)
      have L6 := Lib.hid (L5.out.trans (bb.mono L5.out.size))
      have Q6 := Lib.hid (Cells.below Q5.out bb)
      have O6 := Lib.hid (OwnP.below O5.out bb)
      have D6 := Lib.hid (Row.below D5.out bb)
      obtain ⟨r, hr⟩ : ∃ p, p = w5.heap.size := ⟨_, rfl⟩
      rw [← hr] at R6
      rw [← hr]
      have Gr : Hid (r = w5.heap.size) := hr
      clear bb hHeld hr
      clear L5 Q5 O5 D5 
      generalize w5.alloc (.cells #[.int .i64 1, .int .i64 0, .int .i64 1, .int .i64 0, .int .i64 0, .int .i64 0, .slice (some ⟨g, 0, none⟩) 16 16] 34) = w6 at *
      refine hK.out _ _ (trivial) (fun hHeld => ?_)
      clear hK K
      (try simp only [Act.put, List.setIfInBounds_toArray, List.set_cons_zero, List.set_cons_succ])
      refine Reg.step 4 rfl (by kernel_rfl) (by rfl) (fun K hK => ?_)
      go_simp
      refine (exAdd_any O6.out R6.out D6.out).mono ?_
      rintro e w7 ⟨B2, bc2, L2, lc2, ys2, T, td, rfl, hO, hT, hb⟩
      have L7 := Lib.hid (L6.out.trans (hb.mono L6.out.size))
      have Q7 := Lib.hid (Cells.below Q6.out hb)
      have O7 := Lib.hid (OwnP.below O6.out hb)
      have D7 := Lib.hid (Row.below D6.out hb)
      have R7 := Lib.hid (RowS.below R6.out hb)
      clear O7 D7 R7
      have O7 := Lib.hid (hO.mono L6.out.size)
      have T7 := Lib.hid (hT.mono L6.out.size)
      clear hb hHeld hO hT
      clear L6 Q6 O6 D6 R6 
      refine hK.out _ _ (trivial) (fun hHeld => ?_)
      clear hK K
      (try simp only [Act.put, List.setIfInBounds_toArray, List.set_cons_zero, List.set_cons_succ])
      (first | (refine Reg.take 5 (v := ?_) rfl (by kernel_rfl) (by kernel_rfl) (by kernel_rfl) (fun _ _ _ h => h) (Or.inl ⟨by rfl, ?_⟩) (by assumption) ?_; rotate_left; (focus ((intro W hSW); (try dsimp only at hSW); (try go_split_ands); go_simp; (try (with_reducible rfl)); done))) | (refine Reg.take 5 (v := undef) rfl (by kernel_rfl) (by kernel_rfl) (by kernel_rfl) (fun _ _ _ h => h) (Or.inr ⟨by rfl, rfl⟩) (by assumption) ?_))
      (try simp only [Act.put, List.setIfInBounds_toArray, List.set_cons_zero, List.set_cons_succ])
      (first | (refine Reg.take 6 (v := ?_) rfl (by kernel_rfl) (by kernel_rfl) (by kernel_rfl) (fun _ _ _ h => h) (Or.inl ⟨by rfl, ?_⟩) (by assumption) ?_; rotate_left; (focus ((intro W hSW); (try dsimp only at hSW); (try go_split_ands); go_simp; (try (with_reducible rfl)); done))) | (refine Reg.take 6 (v := undef) rfl (by kernel_rfl) (by kernel_rfl) (by kernel_rfl) (fun _ _ _ h => h) (Or.inr ⟨by rfl, rfl⟩) (by assumption) ?_))
      (try simp only [Act.put, List.setIfInBounds_toArray, List.set_cons_zero, List.set_cons_succ])
      (first | (refine Reg.take 7 (v := ?_) rfl (by kernel_rfl) (by kernel_rfl) (by kernel_rfl) (fun _ _ _ h => h) (Or.inl ⟨by rfl, ?_⟩) (by assumption) ?_; rotate_left; (focus ((intro W hSW); (try dsimp only at hSW); (try go_split_ands); go_simp; (try (with_reducible rfl)); done))) | (refine Reg.take 7 (v := undef) rfl (by kernel_rfl) (by kernel_rfl) (by kernel_rfl) (fun _ _ _ h => h) (Or.inr ⟨by rfl, rfl⟩) (by assumption) ?_))
      (try simp only [Act.put, List.setIfInBounds_toArray, List.set_cons_zero, List.set_cons_succ])
      (first | (refine Reg.take 8 (v := ?_) rfl (by kernel_rfl) (by kernel_rfl) (by kernel_rfl) (fun _ _ _ h => h) (Or.inl ⟨by rfl, ?_⟩) (by assumption) ?_; rotate_left; (focus ((intro W hSW); (try dsimp only at hSW); (try go_split_ands); go_simp; (try (with_reducible rfl)); done))) | (refine Reg.take 8 (v := undef) rfl (by kernel_rfl) (by kernel_rfl) (by kernel_rfl) (fun _ _ _ h => h) (Or.inr ⟨by rfl, rfl⟩) (by assumption) ?_))
      (try simp only [Act.put, List.setIfInBounds_toArray, List.set_cons_zero, List.set_cons_succ])
      have y0 := Cells.cell Q7.out 0
      have f0 := Cells.frozen Q7.out 0
      have y1 := Cells.cell Q7.out 1
      have f1 := Cells.frozen Q7.out 1
      have y2 := Cells.cell Q7.out 2
      have f2 := Cells.frozen Q7.out 2
      have y3 := Cells.cell Q7.out 3
      have f3 := Cells.frozen Q7.out 3
      have y4 := Cells.cell Q7.out 4
      have f4 := Cells.frozen Q7.out 4
      have y5 := Cells.cell Q7.out 5
      have f5 := Cells.frozen Q7.out 5
      have y6 := Cells.cell Q7.out 6
      have f6 := Cells.frozen Q7.out 6
      have y7 := Cells.cell Q7.out 7
      have f7 := Cells.frozen Q7.out 7
      refine Reg.step 9 rfl (by kernel_rfl) (by rfl) (fun K hK => ?_)
      go_simp
      have bt := mov8 w7 q (.int .i64 1) (.int .i64 2) (.int .i64 0) (.int .i64 3) (.int .i64 200) (.int .i64 0) (.slice B2 37 bc2) (.slice L2 1 lc2)
      unfold set8W at bt
      have cg := Chg.mov Q7.out bt
      have L8 := Lib.hid (L7.out.trans (bt.up L7.out.size GQ.out))
      have Q8 : Hid (Cells ((((((((w7.setCell ⟨q, 0, none⟩ (.int .i64 1)).setCell ⟨q, 1, none⟩ (.int .i64 2)).setCell ⟨q, 2, none⟩ (.int .i64 0)).setCell ⟨q, 3, none⟩ (.int .i64 3)).setCell ⟨q, 4, none⟩ (.int .i64 200)).setCell ⟨q, 5, none⟩ (.int .i64 0)).setCell ⟨q, 6, none⟩ (.slice B2 37 bc2)).setCell ⟨q, 7, none⟩ (.slice L2 1 lc2)) q 29 #[.int .i64 1, .int .i64 2, .int .i64 0, .int .i64 3, .int .i64 200, .int .i64 0, .slice B2 37 bc2, .slice L2 1 lc2]) := set8 Q7.out (.int .i64 1) (.int .i64 2) (.int .i64 0) (.int .i64 3) (.int .i64 200) (.int .i64 0) (.slice B2 37 bc2) (.slice L2 1 lc2)
      have O8 := Lib.hid (O7.out.chg cg (by decide) (by decide))
      have T8 := Lib.hid (cg.ownI T7.out (by decide))
      clear bt cg hHeld L7 Q7 O7 T7 y0 f0 y1 f1 y2 f2 y3 f3 y4 f4 y5 f5 y6 f6 y7 f7
      generalize (((((((w7.setCell ⟨q, 0, none⟩ (.int .i64 1)).setCell ⟨q, 1, none⟩ (.int .i64 2)).setCell ⟨q, 2, none⟩ (.int .i64 0)).setCell ⟨q, 3, none⟩ (.int .i64 3)).setCell ⟨q, 4, none⟩ (.int .i64 200)).setCell ⟨q, 5, none⟩ (.int .i64 0)).setCell ⟨q, 6, none⟩ (.slice B2 37 bc2)).setCell ⟨q, 7, none⟩ (.slice L2 1 lc2) = w8 at *
      refine hK.out _ _ trivial (fun hHeld => ?_)
      clear hK K
      (try simp only [Act.put, List.setIfInBounds_toArray, List.set_cons_zero, List.set_cons_succ])
      (first | (refine Reg.take 10 (v := ?_) rfl (by kernel_rfl) (by kernel_rfl) (by kernel_rfl) (fun _ _ _ h => h) (Or.inl ⟨by rfl, ?_⟩) (by assumption) ?_; rotate_left; (focus ((intro W hSW); (try dsimp only at hSW); (try go_split_ands); go_simp; (try (with_reducible rfl)); done))) | (refine Reg.take 10 (v := undef) rfl (by kernel_rfl) (by kernel_rfl) (by kernel_rfl) (fun _ _ _ h => h) (Or.inr ⟨by rfl, rfl⟩) (by assumption) ?_))
      (try simp only [Act.put, List.setIfInBounds_toArray, List.set_cons_zero, List.set_cons_succ])
      (first | (refine Reg.take 11 (v := ?_) rfl (by kernel_rfl) (by kernel_rfl) (by kernel_rfl) (fun _ _ _ h => h) (Or.inl ⟨by rfl, ?_⟩) (by assumption) ?_; rotate_left; (focus ((intro W hSW); (try dsimp only at hSW); (try go_split_ands); go_simp; (try (with_reducible rfl)); done))) | (refine Reg.take 11 (v := undef) rfl (by kernel_rfl) (by kernel_rfl) (by kernel_rfl) (fun _ _ _ h => h) (Or.inr ⟨by rfl, rfl⟩) (by assumption) ?_))
      (try simp only [Act.put, List.setIfInBounds_toArray, List.set_cons_zero, List.set_cons_succ])
      refine wpAnyH_done (by kernel_rfl) ?_ _
      clear hHeld
      obtain ⟨m0, m1, m2, m3, m4, m5, m6, m7⟩ := eight_cells Q8.out
      have FL := Lib.hid (exFlush_any O8.out)
      obtain ⟨b, o, hTA, hc⟩ := ((Wire.gave_row T8.out (by decide)).1).cell (i := 0) (x := (17 : Int)) rfl
      subst hTA
      obtain ⟨hbt, hcc⟩ : b < w8.heap.size ∧ w8.cell? ⟨b, o, none⟩ = some (.int .i64 17) := by
        refine ⟨(OwnB.owns_lt T8.out b rfl).2, hc⟩
      have HT := Lib.hid hcc
      clear hc hcc
      go_upto_region 4 with (go_at_call 15; refine FL.out.mono ?_; rintro e w9 ⟨C, cc, N, nc, M, mc, rfl, hb⟩; have L9 := Lib.hid (L8.out.trans (hb.mono L8.out.size)); have T9 := Lib.hid ((World.cell?_of_block (hb.block b hbt)).trans HT.out); have hbt2 := Nat.lt_of_lt_of_le hbt hb.size; clear hb m0 m1 m2 m3 m4 m5 m6 m7 FL)
      have L10 : Hid (Below w.heap.size w ((w9.alloc (.cells #[.int .i64 1, .int .i64 3, .int .i64 2, .int .i64 0, .int .i64 0, .slice C 37 cc] 48)).alloc (.cells #[.int .i64 1, .int .i64 2, .int .i64 0, .int .i64 3, .int .i64 200, .int .i64 37, .slice N 0 nc, .slice M 0 mc] 29))) := Lib.hid ((L9.out.alloc L9.out.size _).alloc (by have := L9.out.size; simp; omega) _)
      have C10 : Hid (Cells ((w9.alloc (.cells #[.int .i64 1, .int .i64 3, .int .i64 2, .int .i64 0, .int .i64 0, .slice C 37 cc] 48)).alloc (.cells #[.int .i64 1, .int .i64 2, .int .i64 0, .int .i64 3, .int .i64 200, .int .i64 37, .slice N 0 nc, .slice M 0 mc] 29)) w9.heap.size 48 #[.int .i64 1, .int .i64 3, .int .i64 2, .int .i64 0, .int .i64 0, .slice C 37 cc]) := Lib.hid (Cells.alloc (Cells.new _ _ _) _)
      have P10 : Hid (Cells ((w9.alloc (.cells #[.int .i64 1, .int .i64 3, .int .i64 2, .int .i64 0, .int .i64 0, .slice C 37 cc] 48)).alloc (.cells #[.int .i64 1, .int .i64 2, .int .i64 0, .int .i64 3, .int .i64 200, .int .i64 37, .slice N 0 nc, .slice M 0 mc] 29)) (w9.heap.size + 1) 29 #[.int .i64 1, .int .i64 2, .int .i64 0, .int .i64 3, .int .i64 200, .int .i64 37, .slice N 0 nc, .slice M 0 mc]) := by
        have := Cells.new (w9.alloc (.cells #[.int .i64 1, .int .i64 3, .int .i64 2, .int .i64 0, .int .i64 0, .slice C 37 cc] 48)) #[.int .i64 1, .int .i64 2, .int .i64 0, .int .i64 3, .int .i64 200, .int .i64 37, .slice N 0 nc, .slice M 0 mc] 29
        rw [World.size_alloc] at this
        exact this
      have T10 : Hid (((w9.alloc (.cells #[.int .i64 1, .int .i64 3, .int .i64 2, .int .i64 0, .int .i64 0, .slice C 37 cc] 48)).alloc (.cells #[.int .i64 1, .int .i64 2, .int .i64 0, .int .i64 3, .int .i64 200, .int .i64 37, .slice N 0 nc, .slice M 0 mc] 29)).cell? ⟨b, o, none⟩ = some (.int .i64 17)) := Lib.hid ((World.cell?_of_block (((((Below.refl w9.heap.size w9).alloc (Nat.le_refl _) _).alloc (by simp) _).block b hbt2))).trans T9.out)
      generalize (w9.alloc (.cells #[.int .i64 1, .int .i64 3, .int .i64 2, .int .i64 0, .int .i64 0, .slice C 37 cc] 48)).alloc (.cells #[.int .i64 1, .int .i64 2, .int .i64 0, .int .i64 3, .int .i64 200, .int .i64 37, .slice N 0 nc, .slice M 0 mc] 29) = w10 at *
      generalize w9.heap.size = p at *
      obtain ⟨c0, c1, c2, c3, c4, c5⟩ := six_cells C10.out
      obtain ⟨p0, p1, p2, p3, p4, p5, p6, p7⟩ := eight_cells P10.out
      have t0 := T10.out
      go_quiet (fail)
      go_wp2_with fail
      go_ret
      exact ⟨rfl, below_drewN L10.out _⟩
    · skip
      go_simp
      have bb : Below w5.heap.size w5 (w5.alloc (.cells #[.int .i64 1, .int .i64 0, .int .i64 1, .int .i64 0, .int .i64 0, .int .i64 0, .slice (some ⟨g, 0, none⟩) 16 16] 34)) := (Below.refl _ w5).alloc (Nat.le_refl _) _
      have R6 := Lib.hid (show RowS cellsOf 7 (w5.alloc (.cells #[.int .i64 1, .int .i64 0, .int .i64 1, .int .i64 0, .int .i64 0, .int .i64 0, .slice (some ⟨g, 0, none⟩) 16 16] 34)) (some ⟨w5.heap.size, 0, none⟩) 1 1 [⟨exR, some ⟨g, 0, none⟩, 16⟩] from row_oneR (w := w5) (y := ⟨exR, some ⟨g, 0, none⟩, 16⟩) rfl)
      have L6 := Lib.hid (L5.out.trans (bb.mono L5.out.size))
      have Q6 := Lib.hid (Cells.below Q5.out bb)
      have O6 := Lib.hid (OwnP.below O5.out bb)
      have D6 := Lib.hid (Row.below D5.out bb)
      obtain ⟨r, hr⟩ : ∃ p, p = w5.heap.size := ⟨_, rfl⟩
      rw [← hr] at R6
      rw [← hr]
      have Gr : Hid (r = w5.heap.size) := hr
      clear bb hHeld hr
      clear L5 Q5 O5 D5 
      generalize w5.alloc (.cells #[.int .i64 1, .int .i64 0, .int .i64 1, .int .i64 0, .int .i64 0, .int .i64 0, .slice (some ⟨g, 0, none⟩) 16 16] 34) = w6 at *
      refine hK.out _ _ (trivial) (fun hHeld => ?_)
      clear hK K
      (try simp only [Act.put, List.setIfInBounds_toArray, List.set_cons_zero, List.set_cons_succ])
      obtain ⟨m0, m1, m2, m3, m4, m5, m6, m7⟩ := eight_cells Q6.out
      refine Reg.step 0 rfl (by kernel_rfl) (by rfl) (fun K hK => ?_)
      go_simp
      refine hK.out _ _ trivial (fun hHeld => ?_)
      clear hK K m0 m1 m2 m3 m4 m5 m6 m7
      (try simp only [Act.put, List.setIfInBounds_toArray, List.set_cons_zero, List.set_cons_succ])
      refine Reg.step 4 rfl (by kernel_rfl) (by rfl) (fun K hK => ?_)
      go_simp
      refine (exAdd_any O6.out R6.out D6.out).mono ?_
      rintro e w7 ⟨B2, bc2, L2, lc2, ys2, T, td, rfl, hO, hT, hb⟩
      have L7 := Lib.hid (L6.out.trans (hb.mono L6.out.size))
      have Q7 := Lib.hid (Cells.below Q6.out hb)
      have O7 := Lib.hid (OwnP.below O6.out hb)
      have D7 := Lib.hid (Row.below D6.out hb)
      have R7 := Lib.hid (RowS.below R6.out hb)
      clear O7 D7 R7
      have O7 := Lib.hid (hO.mono L6.out.size)
      have T7 := Lib.hid (hT.mono L6.out.size)
      clear hb hHeld hO hT
      clear L6 Q6 O6 D6 R6 
      refine hK.out _ _ (trivial) (fun hHeld => ?_)
      clear hK K
      (try simp only [Act.put, List.setIfInBounds_toArray, List.set_cons_zero, List.set_cons_succ])
      (first | (refine Reg.take 5 (v := ?_) rfl (by kernel_rfl) (by kernel_rfl) (by kernel_rfl) (fun _ _ _ h => h) (Or.inl ⟨by rfl, ?_⟩) (by assumption) ?_; rotate_left; (focus ((intro W hSW); (try dsimp only at hSW); (try go_split_ands); go_simp; (try (with_reducible rfl)); done))) | (refine Reg.take 5 (v := undef) rfl (by kernel_rfl) (by kernel_rfl) (by kernel_rfl) (fun _ _ _ h => h) (Or.inr ⟨by rfl, rfl⟩) (by assumption) ?_))
      (try simp only [Act.put, List.setIfInBounds_toArray, List.set_cons_zero, List.set_cons_succ])
      (first | (refine Reg.take 6 (v := ?_) rfl (by kernel_rfl) (by kernel_rfl) (by kernel_rfl) (fun _ _ _ h => h) (Or.inl ⟨by rfl, ?_⟩) (by assumption) ?_; rotate_left; (focus ((intro W hSW); (try dsimp only at hSW); (try go_split_ands); go_simp; (try (with_reducible rfl)); done))) | (refine Reg.take 6 (v := undef) rfl (by kernel_rfl) (by kernel_rfl) (by kernel_rfl) (fun _ _ _ h => h) (Or.inr ⟨by rfl, rfl⟩) (by assumption) ?_))
      (try simp only [Act.put, List.setIfInBounds_toArray, List.set_cons_zero, List.set_cons_succ])
      (first | (refine Reg.take 7 (v := ?_) rfl (by kernel_rfl) (by kernel_rfl) (by kernel_rfl) (fun _ _ _ h => h) (Or.inl ⟨by rfl, ?_⟩) (by assumption) ?_; rotate_left; (focus ((intro W hSW); (try dsimp only at hSW); (try go_split_ands); go_simp; (try (with_reducible rfl)); done))) | (refine Reg.take 7 (v := undef) rfl (by kernel_rfl) (by kernel_rfl) (by kernel_rfl) (fun _ _ _ h => h) (Or.inr ⟨by rfl, rfl⟩) (by assumption) ?_))
      (try simp only [Act.put, List.setIfInBounds_toArray, List.set_cons_zero, List.set_cons_succ])
      (first | (refine Reg.take 8 (v := ?_) rfl (by kernel_rfl) (by kernel_rfl) (by kernel_rfl) (fun _ _ _ h => h) (Or.inl ⟨by rfl, ?_⟩) (by assumption) ?_; rotate_left; (focus ((intro W hSW); (try dsimp only at hSW); (try go_split_ands); go_simp; (try (with_reducible rfl)); done))) | (refine Reg.take 8 (v := undef) rfl (by kernel_rfl) (by kernel_rfl) (by kernel_rfl) (fun _ _ _ h => h) (Or.inr ⟨by rfl, rfl⟩) (by assumption) ?_))
      (try simp only [Act.put, List.setIfInBounds_toArray, List.set_cons_zero, List.set_cons_succ])
      have y0 := Cells.cell Q7.out 0
      have f0 := Cells.frozen Q7.out 0
      have y1 := Cells.cell Q7.out 1
      have f1 := Cells.frozen Q7.out 1
      have y2 := Cells.cell Q7.out 2
      have f2 := Cells.frozen Q7.out 2
      have y3 := Cells.cell Q7.out 3
      have f3 := Cells.frozen Q7.out 3
      have y4 := Cells.cell Q7.out 4
      have f4 := Cells.frozen Q7.out 4
      have y5 := Cells.cell Q7.out 5
      have f5 := Cells.frozen Q7.out 5
      have y6 := Cells.cell Q7.out 6
      have f6 := Cells.frozen Q7.out 6
      have y7 := Cells.cell Q7.out 7
      have f7 := Cells.frozen Q7.out 7
      refine Reg.step 9 rfl (by kernel_rfl) (by rfl) (fun K hK => ?_)
      go_simp
      have bt := mov8 w7 q (.int .i64 1) (.int .i64 2) (.int .i64 0) (.int .i64 3) (.int .i64 200) (.int .i64 0) (.slice B2 37 bc2) (.slice L2 1 lc2)
      unfold set8W at bt
      have cg := Chg.mov Q7.out bt
      have L8 := Lib.hid (L7.out.trans (bt.up L7.out.size GQ.out))
      have Q8 : Hid (Cells ((((((((w7.setCell ⟨q, 0, none⟩ (.int .i64 1)).setCell ⟨q, 1, none⟩ (.int .i64 2)).setCell ⟨q, 2, none⟩ (.int .i64 0)).setCell ⟨q, 3, none⟩ (.int .i64 3)).setCell ⟨q, 4, none⟩ (.int .i64 200)).setCell ⟨q, 5, none⟩ (.int .i64 0)).setCell ⟨q, 6, none⟩ (.slice B2 37 bc2)).setCell ⟨q, 7, none⟩ (.slice L2 1 lc2)) q 29 #[.int .i64 1, .int .i64 2, .int .i64 0, .int .i64 3, .int .i64 200, .int .i64 0, .slice B2 37 bc2, .slice L2 1 lc2]) := set8 Q7.out (.int .i64 1) (.int .i64 2) (.int .i64 0) (.int .i64 3) (.int .i64 200) (.int .i64 0) (.slice B2 37 bc2) (.slice L2 1 lc2)
      have O8 := Lib.hid (O7.out.chg cg (by decide) (by decide))
      have T8 := Lib.hid (cg.ownI T7.out (by decide))
      clear bt cg hHeld L7 Q7 O7 T7 y0 f0 y1 f1 y2 f2 y3 f3 y4 f4 y5 f5 y6 f6 y7 f7
      generalize (((((((w7.setCell ⟨q, 0, none⟩ (.int .i64 1)).setCell ⟨q, 1, none⟩ (.int .i64 2)).setCell ⟨q, 2, none⟩ (.int .i64 0)).setCell ⟨q, 3, none⟩ (.int .i64 3)).setCell ⟨q, 4, none⟩ (.int .i64 200)).setCell ⟨q, 5, none⟩ (.int .i64 0)).setCell ⟨q, 6, none⟩ (.slice B2 37 bc2)).setCell ⟨q, 7, none⟩ (.slice L2 1 lc2) = w8 at *
      refine hK.out _ _ trivial (fun hHeld => ?_)
      clear hK K
      (try simp only [Act.put, List.setIfInBounds_toArray, List.set_cons_zero, List.set_cons_succ])
      (first | (refine Reg.take 10 (v := ?_) rfl (by kernel_rfl) (by kernel_rfl) (by kernel_rfl) (fun _ _ _ h => h) (Or.inl ⟨by rfl, ?_⟩) (by assumption) ?_; rotate_left; (focus ((intro W hSW); (try dsimp only at hSW); (try go_split_ands); go_simp; (try (with_reducible rfl)); done))) | (refine Reg.take 10 (v := undef) rfl (by kernel_rfl) (by kernel_rfl) (by kernel_rfl) (fun _ _ _ h => h) (Or.inr ⟨by rfl, rfl⟩) (by assumption) ?_))
      (try simp only [Act.put, List.setIfInBounds_toArray, List.set_cons_zero, List.set_cons_succ])
      (first | (refine Reg.take 11 (v := ?_) rfl (by kernel_rfl) (by kernel_rfl) (by kernel_rfl) (fun _ _ _ h => h) (Or.inl ⟨by rfl, ?_⟩) (by assumption) ?_; rotate_left; (focus ((intro W hSW); (try dsimp only at hSW); (try go_split_ands); go_simp; (try (with_reducible rfl)); done))) | (refine Reg.take 11 (v := undef) rfl (by kernel_rfl) (by kernel_rfl) (by kernel_rfl) (fun _ _ _ h => h) (Or.inr ⟨by rfl, rfl⟩) (by assumption) ?_))
      (try simp only [Act.put, List.setIfInBounds_toArray, List.set_cons_zero, List.set_cons_succ])
      refine wpAnyH_done (by kernel_rfl) ?_ _
      clear hHeld
      obtain ⟨m0, m1, m2, m3, m4, m5, m6, m7⟩ := eight_cells Q8.out
      have FL := Lib.hid (exFlush_any O8.out)
      obtain ⟨b, o, hTA, hc⟩ := ((Wire.gave_row T8.out (by decide)).1).cell (i := 0) (x := (17 : Int)) rfl
      subst hTA
      obtain ⟨hbt, hcc⟩ : b < w8.heap.size ∧ w8.cell? ⟨b, o, none⟩ = some (.int .i64 17) := by
        refine ⟨(OwnB.owns_lt T8.out b rfl).2, hc⟩
      have HT := Lib.hid hcc
      clear hc hcc
      go_upto_region 4 with (go_at_call 15; refine FL.out.mono ?_; rintro e w9 ⟨C, cc, N, nc, M, mc, rfl, hb⟩; have L9 := Lib.hid (L8.out.trans (hb.mono L8.out.size)); have T9 := Lib.hid ((World.cell?_of_block (hb.block b hbt)).trans HT.out); have hbt2 := Nat.lt_of_lt_of_le hbt hb.size; clear hb m0 m1 m2 m3 m4 m5 m6 m7 FL)
      have L10 : Hid (Below w.heap.size w ((w9.alloc (.cells #[.int .i64 1, .int .i64 3, .int .i64 2, .int .i64 0, .int .i64 0, .slice C 37 cc] 48)).alloc (.cells #[.int .i64 1, .int .i64 2, .int .i64 0, .int .i64 3, .int .i64 200, .int .i64 37, .slice N 0 nc, .slice M 0 mc] 29))) := Lib.hid ((L9.out.alloc L9.out.size _).alloc (by have := L9.out.size; simp; omega) _)
      have C10 : Hid (Cells ((w9.alloc (.cells #[.int .i64 1, .int .i64 3, .int .i64 2, .int .i64 0, .int .i64 0, .slice C 37 cc] 48)).alloc (.cells #[.int .i64 1, .int .i64 2, .int .i64 0, .int .i64 3, .int .i64 200, .int .i64 37, .slice N 0 nc, .slice M 0 mc] 29)) w9.heap.size 48 #[.int .i64 1, .int .i64 3, .int .i64 2, .int .i64 0, .int .i64 0, .slice C 37 cc]) := Lib.hid (Cells.alloc (Cells.new _ _ _) _)
      have P10 : Hid (Cells ((w9.alloc (.cells #[.int .i64 1, .int .i64 3, .int .i64 2, .int .i64 0, .int .i64 0, .slice C 37 cc] 48)).alloc (.cells #[.int .i64 1, .int .i64 2, .int .i64 0, .int .i64 3, .int .i64 200, .int .i64 37, .slice N 0 nc, .slice M 0 mc] 29)) (w9.heap.size + 1) 29 #[.int .i64 1, .int .i64 2, .int .i64 0, .int .i64 3, .int .i64 200, .int .i64 37, .slice N 0 nc, .slice M 0 mc]) := by
        have := Cells.new (w9.alloc (.cells #[.int .i64 1, .int .i64 3, .int .i64 2, .int .i64 0, .int .i64 0, .slice C 37 cc] 48)) #[.int .i64 1, .int .i64 2, .int .i64 0, .int .i64 3, .int .i64 200, .int .i64 37, .slice N 0 nc, .slice M 0 mc] 29
        rw [World.size_alloc] at this
        exact this
      have T10 : Hid (((w9.alloc (.cells #[.int .i64 1, .int .i64 3, .int .i64 2, .int .i64 0, .int .i64 0, .slice C 37 cc] 48)).alloc (.cells #[.int .i64 1, .int .i64 2, .int .i64 0, .int .i64 3, .int .i64 200, .int .i64 37, .slice N 0 nc, .slice M 0 mc] 29)).cell? ⟨b, o, none⟩ = some (.int .i64 17)) := Lib.hid ((World.cell?_of_block (((((Below.refl w9.heap.size w9).alloc (Nat.le_refl _) _).alloc (by simp) _).block b hbt2))).trans T9.out)
      generalize (w9.alloc (.cells #[.int .i64 1, .int .i64 3, .int .i64 2, .int .i64 0, .int .i64 0, .slice C 37 cc] 48)).alloc (.cells #[.int .i64 1, .int .i64 2, .int .i64 0, .int .i64 3, .int .i64 200, .int .i64 37, .slice N 0 nc, .slice M 0 mc] 29) = w10 at *
      generalize w9.heap.size = p at *
      obtain ⟨c0, c1, c2, c3, c4, c5⟩ := six_cells C10.out
      obtain ⟨p0, p1, p2, p3, p4, p5, p6, p7⟩ := eight_cells P10.out
      have t0 := T10.out
      go_quiet (fail)
      go_wp2_with fail
      go_ret
      exact ⟨rfl, below_drewN L10.out _⟩
end Pk
end Go.Proofs.Ytedandbkdjmfhaa
/-
  ONE RECORD ADDED; remainders.
-/
namespace Go.Proofs.Ytedandbkdjmfhaa
open Go.RowKit Mem Box
namespace Pk
open Seg (Hdr Rc Rv cellsOf cellsOf_len RowR hdV recV fits nums hnums nn goods frame headX recX frames check recB headB)
theorem rowR_one {w : World} {y : Rv} {r : Nat} (hr : RowS cellsOf 7 w (some ⟨r, 0, none⟩) 1 1 [y]) (hd : Row cb w y.D y.r.data.length y.c y.r.data) : RowR w (some ⟨r, 0, none⟩) 1 1 [y] :=
  rowR_of hr (by omega) (by intro x hx; rw [List.mem_singleton.1 hx]; exact hd)
/-- One record added: what comes of it. -/
theorem add1_any {x : Px} {y : Rv} {r : Nat} {w : World} (hx : PackAt w x) (ho : OkP x.p) (hr : RowS cellsOf 7 w (some ⟨r, 0, none⟩) 1 1 [y]) (hd : Row cb w y.D y.r.data.length y.c y.r.data) (hf : fits (nums y.r)) :
    Calls Try.prog 10 #[pxv x, .slice (some ⟨r, 0, none⟩) 1 1] w (GaveA w (addP x.p [y.r])) :=
  add_any hx ho (rowR_one hr hd) (by intro r hr; rw [List.mem_singleton.1 hr]; exact hf)
theorem add1_bad {x : Px} {y : Rv} {r : Nat} {w : World} (hx : PackAt w x) (ho : OkP x.p) (hr : RowS cellsOf 7 w (some ⟨r, 0, none⟩) 1 1 [y]) (hd : Row cb w y.D y.r.data.length y.c y.r.data) (hf : fits (nums y.r)) {e : Nat} (he : addP x.p [y.r] = (zeroP, [], e)) :
    Calls Try.prog 10 #[pxv x, .slice (some ⟨r, 0, none⟩) 1 1] w fun en w' => ∃ B bc L lc T d, en = .returned (.tuple #[.agg #[.int .i64 0, .int .i64 0, .int .i64 0, .int .i64 0, .int .i64 0, .int .i64 0, .slice B 0 bc, .slice L 0 lc], .slice T 0 d, .int .i64 (e : Int)]) ∧ Below w.heap.size w w' := by
  have h := add1_any hx ho hr hd hf
  rw [he] at h
  refine h.mono ?_
  rintro en w' ⟨⟨p, B, bc, L, lc, ys⟩, T, k, d, rfl, hp, hO, hT, hb⟩
  obtain rfl : p = zeroP := hp
  obtain rfl : 0 = k := hT.len
  exact ⟨B, bc, L, lc, T, d, rfl, hb⟩
theorem add1_ok {x : Px} {y : Rv} {r : Nat} {w : World} (hx : PackAt w x) (ho : OkP x.p) (hr : RowS cellsOf 7 w (some ⟨r, 0, none⟩) 1 1 [y]) (hd : Row cb w y.D y.r.data.length y.c y.r.data) (hf : fits (nums y.r)) (hc : check y.r = 0) (h2 : fitsP x.p [y.r]) :
    Calls Try.prog 10 #[pxv x, .slice (some ⟨r, 0, none⟩) 1 1] w fun en w' => ∃ Y T d, en = .returned (.tuple #[pxv Y, .slice T 1 d, .int .i64 0]) ∧ Y.p = moreP x.p [y.r] ∧ OwnP w.heap.size w' Y ∧ Mem.Owns ci 3 w.heap.size w' (.slice T 1 d) 1 [x.p.at_ + (x.p.buf.length : Int) + placeR y.r] ∧ Below w.heap.size w w' := by
  have h := add1_any hx ho hr hd hf
  rw [addP_ok (by rw [errB_one]; exact hc) h2] at h
  refine h.mono ?_
  rintro en w' ⟨Y, T, k, d, rfl, hp, hO, hT, hb⟩
  obtain rfl : 1 = k := hT.len
  exact ⟨Y, T, d, rfl, hp, hO, hT, hb⟩
theorem cut2000 (z : Int) : ∃ (r : Int) (j : Nat), Int.tmod z 2000 = r ∧ -2000 < r ∧ r < 2000 ∧ Int.tmod (r + 2000) 2000 = j ∧ (r + 2000) % 2000 = j ∧ j < 2000 := Cut.cut_at z 2000 (by omega)
theorem fitsP_one (p : Pp) (r : Rc) : fitsP p [r] ↔ p.at_ + (p.buf.length : Int) + (flen r : Int) ≤ p.cap := by unfold fitsP; rw [frames_one]
theorem more_buf (p : Pp) (r : Rc) : (moreP p [r]).buf.length = p.buf.length + flen r := by
  show (p.buf ++ frames [r]).length = _
  rw [List.length_append, frames_one]
theorem more_l (p : Pp) (r : Rc) : (moreP p [r]).l.length = p.l.length + 1 := by
  show (p.l ++ [r]).length = _
  simp
end Pk
end Go.Proofs.Ytedandbkdjmfhaa
/-
  WHAT STANDS APART FROM BYTES THAT GROW; one record added behind others.
-/
namespace Go.Proofs.Ytedandbkdjmfhaa
open Go.RowKit Mem Box
namespace Pk
open Seg (Hdr Rc Rv cellsOf cellsOf_len RowR hdV recV fits nums hnums nn goods frame headX recX frames check recB headB)
/-- No bytes of the pack lie in that row's block. -/
def Far (Y : Px) (s : Value) : Prop := ((Value.slice Y.B Y.p.buf.length Y.bc).ownBlock = none ∨ (Value.slice Y.B Y.p.buf.length Y.bc).ownBlock ≠ s.ownBlock) ∧ ∀ y ∈ Y.xs, (Value.slice y.D y.r.data.length y.c).ownBlock = none ∨ (Value.slice y.D y.r.data.length y.c).ownBlock ≠ s.ownBlock
theorem far_nil (Y : Px) : Far Y (.slice none 0 0) := by
  have h : ∀ o : Option Nat, o = none ∨ o ≠ (Value.slice none 0 0).ownBlock := fun o => by
    rcases o with _ | q
    · exact .inl rfl
    · exact .inr (by intro h; cases h)
  exact ⟨h _, fun y _ => h _⟩
theorem far_new {base : Nat} {w : World} {Y : Px} {s s' : Value} (h : Far Y s) (ho : OwnP base w Y) (hn : s'.ownBlock = s.ownBlock ∨ s'.ownBlock = some w.heap.size) : Far Y s' := by
  have one : ∀ (A : Option Addr) (n c : Nat) (l : List (BitVec 8)), Mem.Owns cb 5 base w (.slice A n c) n l → ((Value.slice A n c).ownBlock = none ∨ (Value.slice A n c).ownBlock ≠ s.ownBlock) → ((Value.slice A n c).ownBlock = none ∨ (Value.slice A n c).ownBlock ≠ s'.ownBlock) := fun A n c l h1 h2 => by
    rcases h2 with h2 | h2
    · exact .inl h2
    · rcases hn with hn | hn
      · exact .inr (by rw [hn]; exact h2)
      · refine .inr fun e => ?_
        rw [hn] at e
        have := (OwnB.owns_lt h1 _ e).2
        omega
  exact ⟨one _ _ _ _ ho.buf h.1, fun y hy => one _ _ _ _ (ho.data y hy) (h.2 y hy)⟩
theorem far_later {base : Nat} {w w' : World} {Y : Px} {s : Value} {n : Nat} {l : List (BitVec 8)} (hs : Mem.Owns cb 5 base w s n l) (ho : OwnP w.heap.size w' Y) : Far Y s := by
  have one : ∀ (A : Option Addr) (n c : Nat) (l : List (BitVec 8)), Mem.Owns cb 5 w.heap.size w' (.slice A n c) n l → ((Value.slice A n c).ownBlock = none ∨ (Value.slice A n c).ownBlock ≠ s.ownBlock) := fun A n c l h1 => by
    rcases e : (Value.slice A n c).ownBlock with _ | q
    · exact .inl rfl
    · refine .inr fun h => ?_
      have h2 := (OwnB.owns_lt hs q h.symm).2
      have h3 := (OwnB.owns_lt h1 q e).1
      omega
  exact ⟨one _ _ _ _ ho.buf, fun y hy => one _ _ _ _ (ho.data y hy)⟩
/-- A pack stays where bytes of another row grow. -/
theorem OwnP.bytes {base b n c : Nat} {w w' : World} {Y : Px} {A : Option Addr} {l : List (BitVec 8)} (ho : OwnP base w Y) (hs : Mem.Owns cb 5 b w (.slice A n c) n l) (hf : Far Y (.slice A n c)) (hg : w.grownBy w' (Value.slice A n c).ownBlock) : OwnP base w' Y := by
  have cg : Chg 5 _ w w' := Chg.own (OwnB.to hs) hg
  exact ⟨OwnB.back (cg.owns_ne (OwnB.to ho.buf) hf.1), cg.owns ho.recs (by decide), fun y hy => OwnB.back (cg.owns_ne (OwnB.to (ho.data y hy)) (hf.2 y hy)), ho.off, ho.eq⟩
/-- Two rows in other blocks. -/
def Ap (s2 s : Value) : Prop := s2.ownBlock = none ∨ s2.ownBlock ≠ s.ownBlock
theorem ap_nil (s2 : Value) : Ap s2 (.slice none 0 0) := by
  unfold Ap
  rcases s2.ownBlock with _ | q
  · exact .inl rfl
  · exact .inr (by intro h; cases h)
theorem ap_new {α : Type} {f : α → Value} {e : TypeId} {base n : Nat} {w : World} {s s' s2 : Value} {l : List α} (h : Ap s2 s) (ho : Mem.Owns f e base w s2 n l) (hn : s'.ownBlock = s.ownBlock ∨ s'.ownBlock = some w.heap.size) : Ap s2 s' := by
  rcases h with h | h
  · exact .inl h
  · rcases hn with hn | hn
    · exact .inr (by rw [hn]; exact h)
    · refine .inr fun e => ?_
      rw [hn] at e
      have := (OwnB.owns_lt ho _ e).2
      omega
theorem ap_later {α β : Type} {f : α → Value} {g : β → Value} {e e' : TypeId} {base n m : Nat} {w w' : World} {s s2 : Value} {l : List α} {l' : List β} (hs : Mem.Owns f e base w s n l) (ho : Mem.Owns g e' w.heap.size w' s2 m l') : Ap s2 s := by
  unfold Ap
  rcases e : s2.ownBlock with _ | q
  · exact .inl rfl
  · refine .inr fun h => ?_
    have h2 := (OwnB.owns_lt hs q h.symm).2
    have h3 := (OwnB.owns_lt ho q e).1
    omega
theorem add_prefix_bad {p : Pp} {l : List Rc} {k : Nat} {r : Rc} {e : Nat} (hr : l[k]? = some r) (he : e ≠ 0) (h : addP (moreP p (l.take k)) [r] = (zeroP, [], e)) : (addP p l).2.2 ≠ 0 := by
  intro h0
  rcases addP_cases p l with ⟨h1, h2, h3⟩ | ⟨e', he', _, h3⟩
  · have hc : check r = 0 := errB_zero h1 r (List.mem_of_getElem? hr)
    have ht : l.take (k + 1) = l.take k ++ [r] := by rw [List.take_add_one, hr]; rfl
    have hf : fitsP p (l.take k ++ [r]) := by
      rw [← ht]
      have e : l = l.take (k + 1) ++ l.drop (k + 1) := (List.take_append_drop _ _).symm
      rw [e] at h2
      exact fitsP_left h2
    rw [addP_ok (by rw [errB_one]; exact hc) ((fitsP_more _ _ _).2 hf)] at h
    have := congrArg (fun t => t.2.2) h
    exact he this.symm
  · rw [h3] at h0
    exact he' h0
theorem add_ok_one {r : Rc} (h1 : errB [r] = 0) : check r = 0 := by rw [← errB_one]; exact h1
end Pk
end Go.Proofs.Ytedandbkdjmfhaa
/-
  WHAT PackerResumes ASKS IN PLAIN.
-/
namespace Go.Proofs.Ytedandbkdjmfhaa
open Go.RowKit Mem Box
namespace Pk
open Seg (Hdr Rc Rv cellsOf cellsOf_len RowR hdV recV fits nums hnums nn goods frame headX recX frames check recB headB)
theorem row_ownR {base : Nat} {w : World} {A : Option Addr} {n c : Nat} {xs : List Rv} (h : OwnS.Owns cellsOf 7 34 base w (.slice A n c) n xs) (hn : n ≤ 1954687338211) (hd : ∀ x ∈ xs, Row cb w x.D x.r.data.length x.c x.r.data) : RowR w A n c xs := rowR_of (h.row fitR (by omega)) hn hd
theorem seg_cases (h : Hdr) (l : List Rc) : (nn (hnums h) ∧ (∀ r ∈ l, check r = 0) ∧ Seg.segB h l = (frame (headX h) ++ frames l, 0)) ∨ Seg.segB h l = ([], 1) ∨ Seg.segB h l = ([], 2) := by
  by_cases hn : nn (hnums h)
  · rcases hr : Seg.recsB l with ⟨b, e⟩
    rcases Seg.recsB_bad l b e hr with ⟨rfl, hc⟩ | ⟨he, rfl, i, r, -, hc, -⟩
    · refine .inl ⟨hn, hc, ?_⟩
      unfold Seg.segB
      rw [if_pos hn, Seg.recsB_ok l hc]
      simp
    · right
      have hs : Seg.segB h l = ([], e) := by unfold Seg.segB; rw [if_pos hn, hr]; simp [he]
      rcases Seg.check_le r with h1 | h1 | h1
      · omega
      · left; rw [hs, ← hc, h1]
      · right; rw [hs, ← hc, h1]
  · right; left
    unfold Seg.segB
    rw [if_neg hn]
theorem frames_light {l : List Rc} (hg : goods l) (h : Seg.weigh l ≤ 3145728) : (frames l).length ≤ 15728640 := by
  have one : ∀ {r : Rc} {l : List Rc}, r ∈ l → r.data.length + 20 ≤ Seg.weigh l := by
    intro r l
    induction l with
    | nil => intro h; cases h
    | cons x l ih =>
      intro h
      rw [Seg.weigh_cons]
      rcases List.mem_cons.1 h with rfl | h
      · omega
      · have := ih h; omega
  have := Seg.frames_weigh l hg (fun r hr => by have := one hr; omega)
  omega
/-- What was scanned, of one's own. -/
def FndO (h : Hdr) (U : Int) (l : List Rc) (w : World) (en : Ending) (w' : World) : Prop :=
  ∃ zs LA LC AA AC, en = .returned (.agg #[.bool true, .int .i64 h.host, .int .i64 h.epoch, .int .i64 h.seq, .slice LA l.length LC, .slice AA l.length AC, .int .i64 U]) ∧
    OwnRs w.heap.size w' LA l.length LC zs ∧ (∀ z ∈ zs, OwnB1 w.heap.size w' z.D z.c z.r.data) ∧ zs.map Rv.r = l ∧ Below w.heap.size w w'
theorem scan_own {h : Hdr} {b : List (BitVec 8)} {l : List Rc} {U : Int} (hU : (((frame (headX h)).length + (frames l).length : Nat) : Int) = U) {A : Option Addr} {n c : Nat} {w : World} (hr : Row cb w A n c (frame (headX h) ++ b)) (hn : n ≤ 1000000) (hf : fits (hnums h)) (hnn : nn (hnums h)) (hs : Seg.Scans b (Seg.sized l)) :
    Calls Try.prog 13 #[.slice A n c] w (FndO h U l w) := by
  subst hU
  have hh := Seg.headAt_seg h hf hnn b
  have hcall : Calls Try.prog 13 #[.slice A n c] w (Seg.Scanned (frame (headX h) ++ b) w) := by
    have hh2 := hh
    unfold Seg.headAt at hh2
    split at hh2
    · rename_i x k ht
      split at hh2
      · rename_i h' hth
        exact Seg.scan_some hr hn ht hth
      · cases hh2
    · cases hh2
  refine hcall.mono ?_
  intro e w' hS
  unfold Seg.Scanned at hS
  rw [hh] at hS
  obtain ⟨⟨acc, L, At, xs, h1, h2, rfl, h4⟩, h5⟩ := hS
  rw [List.drop_left] at h1
  obtain rfl : acc = Seg.sized l := h1.det hs
  obtain ⟨LA, LC, rfl⟩ := h4.rows.slice
  obtain ⟨AA, AC, rfl⟩ := h4.ats.slice
  have h6 := h4.rows
  have h7 := h4.recs
  unfold Seg.foundV
  rw [Seg.sized_len] at h6 ⊢
  rw [Seg.sized_fst] at h7
  rw [Seg.sized_total]
  exact ⟨xs, LA, LC, AA, AC, rfl, h6, h4.data, h7, h5⟩
theorem scans_all {l : List Rc} (h1 : ∀ r ∈ l, check r = 0) (h2 : goods l) : Seg.Scans (frames l) (Seg.sized l) := by
  have := Seg.scans_frames [] (by simpa using Seg.one_zeros 0) l (fun r hr => ⟨h1 r hr, h2 r hr⟩)
  rwa [List.append_nil] at this
theorem ap_earlier {α β : Type} {ca : α → List Value} {cc : β → List Value} {ka kc : Nat} {e e' : TypeId} {base n m : Nat} {w w' : World} {s s2 : Value} {l : List α} {l' : List β} (hs : OwnS.Owns ca ka e base w s n l) (ho : OwnS.Owns cc kc e' w.heap.size w' s2 m l') : Ap s s2 := by
  unfold Ap
  rcases e : s.ownBlock with _ | q
  · exact .inl rfl
  · refine .inr fun h => ?_
    have h2 := (OwnS.Owns.lt hs q e).2
    have h3 := (OwnS.Owns.lt ho q h.symm).1
    omega
end Pk
end Go.Proofs.Ytedandbkdjmfhaa
/-
  THE STATEMENT PackerResumes: its walk.
-/
namespace Go.Proofs.Ytedandbkdjmfhaa
open Go.RowKit Mem Box
namespace Pk
open Seg (Hdr Rc Rv cellsOf cellsOf_len RowR hdV recV fits nums hnums nn goods frame headX recX frames check recB headB)
set_option maxRecDepth 100000 in
set_option maxHeartbeats 51200000 in
theorem resumes_walk (h : Hdr) {A : Option Addr} {n c : Nat} {xs : List Rv} {A2 : Option Addr} {n2 c2 : Nat} {ys : List Rv} {w : World} (hr : RowR w A n c xs) (hr2 : RowR w A2 n2 c2 ys) (hf : fits (hnums h)) (hg : goods (xs.map Rv.r)) (hg2 : goods (ys.map Rv.r)) (hw : Seg.weigh (xs.map Rv.r) ≤ 3145728) :
    Calls Try.prog 4 #[hdV h, .slice A n c, .slice A2 n2 c2] w fun e w' => e = .returned (.bool true) ∧ Below w.heap.size w w' := by
  have HR := Lib.hid hr
  have HR2 := Lib.hid hr2
  have HLV := fun w => Lib.hid (live_any w)
  have HB1 := fun W (hW : Below w.heap.size w W) => Lib.hid (Seg.big_any (most := 8000) (hr.below hW))
  have HB2 := fun W (hW : Below w.heap.size w W) => Lib.hid (Seg.big_any (most := 8000) (hr2.below hW))
  obtain ⟨b1, hb1⟩ : ∃ b, b = decide ((8000 : Int) < Seg.bulkR (xs.map Rv.r)) := ⟨_, rfl⟩
  obtain ⟨b2, hb2⟩ : ∃ b, b = decide ((8000 : Int) < Seg.bulkR (ys.map Rv.r)) := ⟨_, rfl⟩
  rw [← hb1] at HB1
  rw [← hb2] at HB2
  have HSG := fun W (hW : Below w.heap.size w W) => Lib.hid (Seg.seg_any (hr.below hW) hf hg (by have := frames_light hg hw; omega))
  have HADD := fun (x : Px) W (hW : Below w.heap.size w W) (hx : PackAt W x) (ho : OkP x.p) => Lib.hid (add_any hx ho (hr2.below hW) hg2)
  obtain ⟨l, hl⟩ : ∃ l, xs.map Rv.r = l := ⟨_, rfl⟩
  obtain ⟨m, hm⟩ : ∃ m, ys.map Rv.r = m := ⟨_, rfl⟩
  have HLN : Hid (l.length = n) := by show _ = _; rw [← hl, List.length_map, hr.len]
  have HMN : Hid (m.length = n2) := by show _ = _; rw [← hm, List.length_map, hr2.len]
  rw [hl] at hg HSG
  rw [hm] at hg2 HADD
  have HL := Lib.hid hl
  have HM := Lib.hid hm
  have HG := Lib.hid hg
  have HG2 := Lib.hid hg2
  have HF := Lib.hid hf
  have HSC := Lib.hid (seg_cases h l)
  generalize Seg.segB h l = sg at *
  have HEQ := fun w => Seg.eql_same_hdr h w
  unfold hdV at HEQ
  unfold hdV at HSG
  clear hr hr2 hf hg hg2 hw hb1 hb2 hl hm
  have L1 : Hid (Below w.heap.size w (w.alloc (.cells #[.int .i64 h.host, .int .i64 h.epoch, .int .i64 h.seq] 23))) := (Below.refl _ w).alloc (Nat.le_refl _) _
  have X1 : Hid (Cells (w.alloc (.cells #[.int .i64 h.host, .int .i64 h.epoch, .int .i64 h.seq] 23)) w.heap.size 23 #[.int .i64 h.host, .int .i64 h.epoch, .int .i64 h.seq]) := Cells.new _ _ _
  unfold hdV
  go_enter Try.func4, Try.ntmps4
  go_upto_region 1 with fail
  generalize w.alloc (.cells #[.int .i64 h.host, .int .i64 h.epoch, .int .i64 h.seq] 23) = w1 at *
  go_upto_region 2 with (go_at_call 6; refine (HLV w1).out.mono ?_; rintro e w2 ⟨rfl, hb⟩; have L2 := Lib.hid (L1.out.trans (hb.mono L1.out.size)); have X2 := Lib.hid (Cells.below X1.out hb); clear hb L1 X1 HLV)
  rcases b1 with _ | _
  · rcases b2 with _ | _
    · go_upto_region 4 with (first | (go_at_call 7; with_reducible refine (HB1 w2 L2.out).out.mono ?_; rintro e w3 ⟨rfl, hb⟩; have L3 := Lib.hid (L2.out.trans (hb.mono L2.out.size)); have X3 := Lib.hid (Cells.below X2.out hb); clear hb X2) | (go_at_call 7; with_reducible refine (HB2 w3 L3.out).out.mono ?_; rintro e w4 ⟨rfl, hb⟩; have L4 := Lib.hid (L3.out.trans (hb.mono L3.out.size)); have X4 := Lib.hid (Cells.below X3.out hb); clear hb X3) | fail)
      obtain ⟨h0, h1, h2⟩ : w4.cell? ⟨w.heap.size, 0, none⟩ = some (.int .i64 h.host) ∧ w4.cell? ⟨w.heap.size, 1, none⟩ = some (.int .i64 h.epoch) ∧ w4.cell? ⟨w.heap.size, 2, none⟩ = some (.int .i64 h.seq) := ⟨Cells.cell X4.out 0, Cells.cell X4.out 1, Cells.cell X4.out 2⟩
      rcases HSC.out with ⟨hnn, hck, rfl⟩ | rfl | rfl
      · have HNN := Lib.hid hnn
        have HCK := Lib.hid hck
        clear hnn hck
        dsimp only at HSG
        obtain ⟨bs, hbs⟩ : ∃ bs, bs = frame (headX h) ++ frames l := ⟨_, rfl⟩
        rw [← hbs] at HSG
        have HBS := Lib.hid hbs
        clear hbs
        by_cases hbig : 20000 < bs.length
        · have hd : decide ((20000 : Int) < (bs.length : Int)) = true := by simp; omega
          clear hbig
          go_wp2_with (go_at_call 12; refine (HSG w4 L4.out).out.mono ?_; rintro e w5 ⟨X, k, d, rfl, hX, hb⟩; obtain rfl : bs.length = k := hX.len; have L5 := Lib.hid (L4.out.trans (hb.mono L4.out.size)); clear hb hX)
          go_ret
          exact ⟨rfl, L5.out⟩
        · have hd : decide ((20000 : Int) < (bs.length : Int)) = false := by simp; omega
          have HBL : Hid (bs.length ≤ 20000) := by show _ ≤ _; omega
          clear hbig
          go_upto_region 5 with (go_at_call 12; refine (HSG w4 L4.out).out.mono ?_; rintro e w5 ⟨X, k, d, rfl, hX, hb⟩; obtain rfl : bs.length = k := hX.len; have L5 := Lib.hid (L4.out.trans (hb.mono L4.out.size)); have X5 := Lib.hid (Cells.below X4.out hb); have B5 := Lib.hid (hX.mono L4.out.size); clear hb hX h0 h1 h2 L4 X4 HSG)
          have HU : Hid ((((frame (headX h)).length + (frames l).length : Nat) : Int) = (bs.length : Int)) := by show _ = _; rw [HBS.out, List.length_append]
          have h0 := (Seg.scan_to (l := l) (b := frames l) (w := w5) (by rw [← HBS.out]; exact (Wire.gave_row B5.out (by have := HBL.out; omega)).1) (by have := HBL.out; omega) HF.out HNN.out (by
            have := Seg.scans_frames [] (by simpa using Seg.one_zeros 0) l (fun r hr => ⟨HCK.out r hr, HG.out r hr⟩)
            rwa [List.append_nil] at this))
          unfold Seg.FndL at h0
          rw [HU.out] at h0
          have HSCN := Lib.hid h0
          clear h0
          obtain ⟨lm, hlm⟩ : ∃ x, l ++ m = x := ⟨_, rfl⟩
          have HLM := Lib.hid hlm
          clear hlm
          obtain ⟨UU, hUU⟩ : ∃ U : Int, (((frame (headX h)).length + (frames lm).length : Nat) : Int) = U := ⟨_, rfl⟩
          have HUU := Lib.hid hUU
          clear hUU
          go_upto_region 8 with (go_at_call 13; refine HSCN.out.mono ?_; rintro e w6 ⟨zs, LA, LC, AA, AC, rfl, -, -, -, hb⟩; have L6 := Lib.hid (L5.out.trans (hb.mono L5.out.size)); have X6 := Lib.hid (Cells.below X5.out hb); have B6 := Lib.hid (Mem.Owns.below B5.out hb); clear hb L5 X5 B5 HSCN hd)
          have BB : Below w6.heap.size w6 (w6.alloc (.cells #[.bool true, .int .i64 h.host, .int .i64 h.epoch, .int .i64 h.seq, .slice LA l.length LC, .slice AA l.length AC, .int .i64 (bs.length : Int)] 44)) := (Below.refl _ w6).alloc (Nat.le_refl _) _
          have F7 : Hid (Cells (w6.alloc (.cells #[.bool true, .int .i64 h.host, .int .i64 h.epoch, .int .i64 h.seq, .slice LA l.length LC, .slice AA l.length AC, .int .i64 (bs.length : Int)] 44)) w6.heap.size 44 #[.bool true, .int .i64 h.host, .int .i64 h.epoch, .int .i64 h.seq, .slice LA l.length LC, .slice AA l.length AC, .int .i64 (bs.length : Int)]) := Cells.new _ _ _
          have L7 := Lib.hid (L6.out.trans (BB.mono L6.out.size))
          have X7 := Lib.hid (Cells.below X6.out BB)
          have B7 := Lib.hid (Mem.Owns.below B6.out BB)
          clear L6 X6 B6 BB
          generalize w6.alloc (.cells #[.bool true, .int .i64 h.host, .int .i64 h.epoch, .int .i64 h.seq, .slice LA l.length LC, .slice AA l.length AC, .int .i64 (bs.length : Int)] 44) = w7 at *
          generalize w6.heap.size = fb at *
          obtain ⟨m0, m1, m2, m3, m4, m5, m6⟩ := seven_cells F7.out
          have HRS := Lib.hid (resume_ok (h := h) (LA := LA) (AA := AA) (n := l.length) (LC := LC) (m := l.length) (AC := AC) (u := (bs.length : Int)) (zone := 4) (most := 60000) (at_ := (bs.length : Int)) (w := w7) (by unfold mayZ; omega) (by omega) (by have := HBL.out; omega))
          go_upto_region 9 with (go_at_call 14; refine HRS.out.mono ?_; rintro e w8 ⟨Y, rfl, hp, hO, hb⟩; have L8 := Lib.hid (L7.out.trans (hb.mono L7.out.size)); have X8 := Lib.hid (Cells.below X7.out hb); have B8 := Lib.hid (Mem.Owns.below B7.out hb); have O8 := Lib.hid (hO.mono L7.out.size); have HP := Lib.hid hp; clear L7 X7 B7 hb hO hp m0 m1 m2 m3 m4 m5 m6 F7 HRS; unfold pxv)
          have BB : Below w8.heap.size w8 (w8.alloc (.cells #[.int .i64 Y.p.h.host, .int .i64 Y.p.h.epoch, .int .i64 Y.p.h.seq, .int .i64 Y.p.zone, .int .i64 Y.p.cap, .int .i64 Y.p.at_, .slice Y.B Y.p.buf.length Y.bc, .slice Y.L Y.p.l.length Y.lc] 29)) := (Below.refl _ w8).alloc (Nat.le_refl _) _
          have Q9 : Hid (PBox (w8.alloc (.cells #[.int .i64 Y.p.h.host, .int .i64 Y.p.h.epoch, .int .i64 Y.p.h.seq, .int .i64 Y.p.zone, .int .i64 Y.p.cap, .int .i64 Y.p.at_, .slice Y.B Y.p.buf.length Y.bc, .slice Y.L Y.p.l.length Y.lc] 29)) w8.heap.size Y) := Cells.new _ _ _
          have L9 := Lib.hid (L8.out.trans (BB.mono L8.out.size))
          have X9 := Lib.hid (Cells.below X8.out BB)
          have B9 := Lib.hid (Mem.Owns.below B8.out BB)
          have O9 := Lib.hid (OwnP.below O8.out BB)
          have GQ := Lib.hid L8.out.size
          have NX : Hid (w.heap.size ≠ w8.heap.size) := by have := Cells.lt X8.out; show _ ≠ _; omega
          clear L8 X8 B8 O8 BB
          generalize w8.alloc (.cells #[.int .i64 Y.p.h.host, .int .i64 Y.p.h.epoch, .int .i64 Y.p.h.seq, .int .i64 Y.p.zone, .int .i64 Y.p.cap, .int .i64 Y.p.at_, .slice Y.B Y.p.buf.length Y.bc, .slice Y.L Y.p.l.length Y.lc] 29) = w9 at *
          generalize w8.heap.size = q at *
          have OKY : Hid (OkP Y.p) := by
            show OkP _
            rw [HP.out]
            exact OkP.resumed (by unfold mayZ; omega) (by omega) (by have := HBL.out; omega)
          have HA := Lib.hid (HADD Y w9 L9.out (O9.out.any OKY.out) OKY.out).out
          obtain ⟨ap, hap⟩ : ∃ ap, addP Y.p m = ap := ⟨_, rfl⟩
          rw [hap] at HA
          have HAP := Lib.hid hap
          unfold pxv at HA
          clear hap HADD
          obtain ⟨k0, k1, k2, k3, k4, k5, k6, k7⟩ := eight_cells Q9.out
          have ADDK := addP_cases Y.p m
          rw [HAP.out] at ADDK
          rcases ADDK with ⟨he, hfit, rfl⟩ | ⟨e, he, -, rfl⟩
          · have HE := Lib.hid he
            have HFT := Lib.hid hfit
            clear he hfit
            (try dsimp only at HA)
            go_upto_region 12 with (go_at_call 10; refine HA.out.mono ?_; rintro e w10 ⟨V, T, tn, td, rfl, hp, hO, -, hb⟩; have L10 := Lib.hid (L9.out.trans (hb.mono L9.out.size)); have X10 := Lib.hid (Cells.below X9.out hb); have B10 := Lib.hid (Mem.Owns.below B9.out hb); have O10 := Lib.hid (OwnP.below O9.out hb); have Q10 := Lib.hid (Cells.below Q9.out hb); have V10 := Lib.hid (hO.mono L9.out.size); have HV := Lib.hid hp; clear L9 X9 B9 O9 Q9; clear hp hO hb k0 k1 k2 k3 k4 k5 k6 k7 HA; obtain ⟨k0, k1, k2, k3, k4, k5, k6, k7⟩ := eight_cells Q10.out; obtain ⟨f0, f1, f2, f3, f4, f5, f6, f7⟩ := eight_free Q10.out; unfold pxv)
            have bt := mov8 w10 q (.int .i64 V.p.h.host) (.int .i64 V.p.h.epoch) (.int .i64 V.p.h.seq) (.int .i64 V.p.zone) (.int .i64 V.p.cap) (.int .i64 V.p.at_) (.slice V.B V.p.buf.length V.bc) (.slice V.L V.p.l.length V.lc)
            unfold set8W at bt
            have cg := Chg.mov Q10.out bt
            have L11 := Lib.hid (L10.out.trans (bt.up L10.out.size GQ.out))
            have Q11 : Hid (PBox _ q V) := Lib.hid (set8 Q10.out (.int .i64 V.p.h.host) (.int .i64 V.p.h.epoch) (.int .i64 V.p.h.seq) (.int .i64 V.p.zone) (.int .i64 V.p.cap) (.int .i64 V.p.at_) (.slice V.B V.p.buf.length V.bc) (.slice V.L V.p.l.length V.lc))
            unfold set8W at Q11
            have V11 := Lib.hid (OwnP.chg V10.out cg (by decide) (by decide))
            have X11 := Lib.hid (cg.cells X10.out (by decide))
            have B11 := Lib.hid (cg.ownI B10.out (by decide))
            clear bt cg k0 k1 k2 k3 k4 k5 k6 k7 f0 f1 f2 f3 f4 f5 f6 f7 L10 Q10 O10 V10 X10 B10
            generalize (((((((w10.setCell ⟨q, 0, none⟩ (.int .i64 V.p.h.host)).setCell ⟨q, 1, none⟩ (.int .i64 V.p.h.epoch)).setCell ⟨q, 2, none⟩ (.int .i64 V.p.h.seq)).setCell ⟨q, 3, none⟩ (.int .i64 V.p.zone)).setCell ⟨q, 4, none⟩ (.int .i64 V.p.cap)).setCell ⟨q, 5, none⟩ (.int .i64 V.p.at_)).setCell ⟨q, 6, none⟩ (.slice V.B V.p.buf.length V.bc)).setCell ⟨q, 7, none⟩ (.slice V.L V.p.l.length V.lc) = w11 at *
            (try dsimp only at HV)
            have OKV : Hid (OkP V.p) := by show OkP _; rw [HV.out]; exact OKY.out.more HE.out HFT.out
            have HVB : Hid (V.p.buf = frames m) := by show _ = _; rw [HV.out]; show Y.p.buf ++ frames m = _; rw [HP.out]; rfl
            have HVZ : Hid (V.p.zone = 4) := by show _ = _; rw [HV.out]; show Y.p.zone = _; rw [HP.out]
            have HVE : Hid (V.p.h.epoch = h.epoch) := by show _ = _; rw [HV.out]; show Y.p.h.epoch = _; rw [HP.out]
            have HN1 : Hid (n ≤ 20000) := by
              have h1 := frames_ge l
              have h2 := HBL.out
              rw [HBS.out, List.length_append] at h2
              have h3 := HLN.out
              show _ ≤ _
              omega
            have HN2 : Hid (n2 ≤ 65536) := by
              have h1 := frames_ge m
              have h2 := OKV.out.buf_le
              rw [HVB.out] at h2
              have h3 := HMN.out
              show _ ≤ _
              omega
            obtain ⟨k0, k1, k2, k3, k4, k5, k6, k7⟩ := eight_cells Q11.out
            rcases Nat.eq_zero_or_pos n2 with h0 | h0
            · have hdl : decide (0 < n2) = false := by rw [decide_eq_false_iff_not]; omega
              have HM0 : Hid (m = []) := by show _ = _; exact List.eq_nil_of_length_eq_zero (by rw [HMN.out, h0])
              have hb0 : V.p.buf.length = 0 := by rw [HVB.out, HM0.out]; rfl
              have HFL := Lib.hid (flush_none (V11.out.any OKV.out) OKV.out hb0)
              clear h0 hb0
              unfold pxv at HFL
              go_upto_region 15 with (go_at_call 15; refine HFL.out.mono ?_; rintro e w12 ⟨Z, rfl, hZ, hO, hb⟩; have L12 := Lib.hid (L11.out.trans (hb.mono L11.out.size)); have X12 := Lib.hid (Cells.below X11.out hb); have B12 := Lib.hid (Mem.Owns.below B11.out hb); clear L11 X11 B11 hb hZ hO k0 k1 k2 k3 k4 k5 k6 k7 HFL Q11 V11; unfold pxv)
              have BB : Below w12.heap.size w12 ((w12.alloc (.cells #[.int .i64 0, .int .i64 0, .int .i64 0, .int .i64 0, .int .i64 0, .slice none 0 0] 48)).alloc (.cells #[.int .i64 Z.p.h.host, .int .i64 Z.p.h.epoch, .int .i64 Z.p.h.seq, .int .i64 Z.p.zone, .int .i64 Z.p.cap, .int .i64 Z.p.at_, .slice Z.B Z.p.buf.length Z.bc, .slice Z.L Z.p.l.length Z.lc] 29)) := ((Below.refl _ w12).alloc (Nat.le_refl _) _).alloc (by simp) _
              have K13 : Hid (Cells ((w12.alloc (.cells #[.int .i64 0, .int .i64 0, .int .i64 0, .int .i64 0, .int .i64 0, .slice none 0 0] 48)).alloc (.cells #[.int .i64 Z.p.h.host, .int .i64 Z.p.h.epoch, .int .i64 Z.p.h.seq, .int .i64 Z.p.zone, .int .i64 Z.p.cap, .int .i64 Z.p.at_, .slice Z.B Z.p.buf.length Z.bc, .slice Z.L Z.p.l.length Z.lc] 29)) w12.heap.size 48 #[.int .i64 0, .int .i64 0, .int .i64 0, .int .i64 0, .int .i64 0, .slice none 0 0]) := Lib.hid (Cells.alloc (Cells.new _ _ _) _)
              have C13 : Hid (Mem.Owns cb 5 w.heap.size ((w12.alloc (.cells #[.int .i64 0, .int .i64 0, .int .i64 0, .int .i64 0, .int .i64 0, .slice none 0 0] 48)).alloc (.cells #[.int .i64 Z.p.h.host, .int .i64 Z.p.h.epoch, .int .i64 Z.p.h.seq, .int .i64 Z.p.zone, .int .i64 Z.p.cap, .int .i64 Z.p.at_, .slice Z.B Z.p.buf.length Z.bc, .slice Z.L Z.p.l.length Z.lc] 29)) (.slice none 0 0) 0 (frames m)) := by
                have := Mem.Owns.nil cb 5 w.heap.size ((w12.alloc (.cells #[.int .i64 0, .int .i64 0, .int .i64 0, .int .i64 0, .int .i64 0, .slice none 0 0] 48)).alloc (.cells #[.int .i64 Z.p.h.host, .int .i64 Z.p.h.epoch, .int .i64 Z.p.h.seq, .int .i64 Z.p.zone, .int .i64 Z.p.cap, .int .i64 Z.p.at_, .slice Z.B Z.p.buf.length Z.bc, .slice Z.L Z.p.l.length Z.lc] 29))
                rw [HM0.out]
                exact this
              have L13 := Lib.hid (L12.out.trans (BB.mono L12.out.size))
              have X13 := Lib.hid (Cells.below X12.out BB)
              have B13 := Lib.hid (Mem.Owns.below B12.out BB)
              clear L12 X12 B12 BB
              generalize (w12.alloc (.cells #[.int .i64 0, .int .i64 0, .int .i64 0, .int .i64 0, .int .i64 0, .slice none 0 0] 48)).alloc (.cells #[.int .i64 Z.p.h.host, .int .i64 Z.p.h.epoch, .int .i64 Z.p.h.seq, .int .i64 Z.p.zone, .int .i64 Z.p.cap, .int .i64 Z.p.at_, .slice Z.B Z.p.buf.length Z.bc, .slice Z.L Z.p.l.length Z.lc] 29) = w13 at *
              generalize w12.heap.size = kb at *
              obtain ⟨c0, c1, c2, c3, c4, c5⟩ := six_cells K13.out
              go_upto_region 17 with fail
              clear c0 c1 c2 c3 c4 c5
              have HVL : Hid ((frames m).length ≤ 60000) := by
                have h1 := OKV.out.room
                have h2 := OKV.out.at0
                have h3 : V.p.cap = 60000 := by rw [HV.out]; show Y.p.cap = _; rw [HP.out]
                rw [HVB.out] at h1
                show _ ≤ _
                omega
              have HVN : Hid (0 ≤ 60000) := by
                have h1 := HVL.out
                show _ ≤ _
                omega
              have HCA : Hid (∀ r ∈ lm, check r = 0) := Lib.hid fun r hr => by
                rw [← HLM.out] at hr
                rcases List.mem_append.1 hr with hr | hr
                · exact HCK.out r hr
                · exact errB_zero HE.out r hr
              have HGA : Hid (goods lm) := Lib.hid fun r hr => by
                rw [← HLM.out] at hr
                rcases List.mem_append.1 hr with hr | hr
                · exact HG.out r hr
                · exact HG2.out r hr
              go_cut [18] from 73 to 79 (fun s wx => ∃ (xb : Nat) (MA : Option Addr) (MC : Nat) (NA : Option Addr) (NC : Nat) (zs : List Rv), s = .pointer (some ⟨xb, 0, none⟩) ∧ Hid (Below w.heap.size w wx) ∧ Hid (Cells wx w.heap.size 23 #[.int .i64 h.host, .int .i64 h.epoch, .int .i64 h.seq]) ∧ Hid (Cells wx kb 48 #[.int .i64 0, .int .i64 0, .int .i64 0, .int .i64 0, .int .i64 0, .slice none 0 0]) ∧ Hid (Cells wx xb 44 #[.bool true, .int .i64 h.host, .int .i64 h.epoch, .int .i64 h.seq, .slice MA lm.length MC, .slice NA lm.length NC, .int .i64 UU]) ∧ Hid (OwnRs w.heap.size wx MA lm.length MC zs) ∧ Hid (∀ z ∈ zs, OwnB1 w.heap.size wx z.D z.c z.r.data) ∧ Hid (zs.map Rv.r = lm))
              case first =>
                have L14 := Lib.hid L13.out.drew
                have X14 := Lib.hid (Cells.below X13.out ((Below.refl _ w13).drew))
                have B14 := Lib.hid (Mem.Owns.below B13.out ((Below.refl _ w13).drew))
                have K14 := Lib.hid (Cells.below K13.out ((Below.refl _ w13).drew))
                have C14 := Lib.hid (Mem.Owns.below C13.out ((Below.refl _ w13).drew))
                refine wp_region_held_drew (S := fun W => W.cell? ⟨kb, 5, none⟩ = some (.slice none 0 0)) (by kernel_rfl) (Cells.cell K14.out 5) (fun hHeld => ?_)
                generalize w13.drew = w14 at *
                clear L13 X13 B13 K13 C13 
                (first | (refine Reg.take 0 (v := ?_) rfl (by kernel_rfl) (by kernel_rfl) (by kernel_rfl) (fun _ _ _ h => h) (Or.inl ⟨by rfl, ?_⟩) (by assumption) ?_; rotate_left; (focus ((intro W hSW); (try dsimp only at hSW); (try go_split_ands); go_simp; (try (with_reducible rfl)); done))) | (refine Reg.take 0 (v := undef) rfl (by kernel_rfl) (by kernel_rfl) (by kernel_rfl) (fun _ _ _ h => h) (Or.inr ⟨by rfl, rfl⟩) (by assumption) ?_))
                (try simp only [Act.put, List.setIfInBounds_toArray, List.set_cons_zero, List.set_cons_succ])
                (first | (refine Reg.take 2 (v := ?_) rfl (by kernel_rfl) (by kernel_rfl) (by kernel_rfl) (fun _ _ _ h => h) (Or.inl ⟨by rfl, ?_⟩) (by assumption) ?_; rotate_left; (focus ((intro W hSW); (try dsimp only at hSW); (try go_split_ands); go_simp; (try (with_reducible rfl)); done))) | (refine Reg.take 2 (v := undef) rfl (by kernel_rfl) (by kernel_rfl) (by kernel_rfl) (fun _ _ _ h => h) (Or.inr ⟨by rfl, rfl⟩) (by assumption) ?_))
                (try simp only [Act.put, List.setIfInBounds_toArray, List.set_cons_zero, List.set_cons_succ])
                (first | (refine Reg.take 3 (v := ?_) rfl (by kernel_rfl) (by kernel_rfl) (by kernel_rfl) (fun _ _ _ h => h) (Or.inl ⟨by rfl, ?_⟩) (by assumption) ?_; rotate_left; (focus ((intro W hSW); (try dsimp only at hSW); (try go_split_ands); go_simp; (try (with_reducible rfl)); done))) | (refine Reg.take 3 (v := undef) rfl (by kernel_rfl) (by kernel_rfl) (by kernel_rfl) (fun _ _ _ h => h) (Or.inr ⟨by rfl, rfl⟩) (by assumption) ?_))
                (try simp only [Act.put, List.setIfInBounds_toArray, List.set_cons_zero, List.set_cons_succ])
                refine Reg.step2 1 6 rfl rfl (by kernel_rfl) (by rfl) (by rfl) (fun K hK => ?_) (fun K hK => ?_)
                · skip
                  refine OwnS.wp_append1 (OwnB.fit1 cb_one) Try.underlying27 info_byte rfl (by omega) (.const (.slice none 0 0)) (.tmp 73) rfl rfl w.heap.size (.slice none 0 0) 0 [] rfl (OwnS.Owns.nil _ _ _ _ _) X bs.length d bs rfl (OwnB.row_to (Wire.gave_row B14.out (by have := HBL.out; omega)).1) (by have := HBL.out; omega) L14.out.size ?_
                  intro A1 a1 w15 ho hg hn
                  rw [Nat.zero_add, List.nil_append] at ho
                  rw [Nat.zero_add] at hn ⊢
                  have hb : Below w14.heap.size w14 w15 := ⟨hg.os, hg.tape, hg.output, hg.size, fun i hi => hg.block i hi (by intro h; cases h)⟩
                  have L15 := Lib.hid (L14.out.trans (hb.mono L14.out.size))
                  have X15 := Lib.hid (Cells.below X14.out hb)
                  have B15 := Lib.hid (Mem.Owns.below B14.out hb)
                  have K15 := Lib.hid (Cells.below K14.out hb)
                  have C15 := Lib.hid (Mem.Owns.below C14.out hb)
                  have D15 := Lib.hid (OwnB.back ho)
                  have AC : Hid (Ap (.slice none 0 0) (.slice A1 bs.length a1)) := by
                    show Ap _ _
                    unfold Ap
                    rcases e1 : (Value.slice none 0 0).ownBlock with _ | z
                    · exact .inl rfl
                    · refine .inr fun e2 => ?_
                      have h3 := (OwnB.owns_lt C14.out z e1).2
                      rcases hn with hn | hn
                      · rw [hn] at e2; cases e2
                      · rw [hn] at e2; injection e2 with e2; omega
                  clear hb hHeld ho hg hn
                  clear L14 X14 B14 K14 C14 
                  refine hK.out _ _ (Cells.cell K15.out 5) (fun hHeld => ?_)
                  clear hK K
                  (try simp only [Act.put, List.setIfInBounds_toArray, List.set_cons_zero, List.set_cons_succ])
                  clear B15
                  refine Reg.step2 4 6 rfl rfl (by kernel_rfl) (by rfl) (by rfl) (fun K hK => ?_) (fun K hK => ?_)
                  · skip
                    refine OwnS.wp_append1 (OwnB.fit1 cb_one) Try.underlying27 info_byte rfl (by omega) (.tmp 74) (.tmp 76) rfl rfl w.heap.size (.slice A1 bs.length a1) bs.length bs rfl (OwnB.to D15.out) none 0 0 (frames m) rfl (OwnB.row_to (Wire.gave_row C15.out (by have := HVL.out; omega)).1) (by have := HBL.out; have := HVN.out; omega) L15.out.size ?_
                    intro A3 a3 w16 ho hg hn
                    have cg : Chg 5 _ w15 w16 := Chg.own (OwnB.to D15.out) hg
                    have L16 := Lib.hid (L15.out.trans (OwnS.below_row (OwnB.to D15.out) hg L15.out.size))
                    have X16 := Lib.hid (cg.cells X15.out (by decide))
                    have K16 := Lib.hid (cg.cells K15.out (by decide))
                    have D16 := Lib.hid (OwnB.back ho)
                    clear ho hg hn cg hHeld
                    clear L15 X15 K15 C15 D15 
                    refine hK.out _ _ (Cells.cell K16.out 5) (fun hHeld => ?_)
                    clear hK K
                    (try simp only [Act.put, List.setIfInBounds_toArray, List.set_cons_zero, List.set_cons_succ])
                    refine Reg.step2 5 6 rfl rfl (by kernel_rfl) (by rfl) (by rfl) (fun K hK => ?_) (fun K hK => ?_)
                    · skip
                      go_simp
                      refine (scan_own (U := UU) HUU.out (h := h) (l := lm) (b := frames l ++ frames m) (by rw [← List.append_assoc, ← HBS.out]; exact (Wire.gave_row D16.out (by rw [List.length_append]; have := HBL.out; have := HVL.out; have := HVN.out; omega)).1) (by have := HBL.out; have := HVN.out; omega) HF.out HNN.out (by rw [← Seg.frames_append, HLM.out]; exact scans_all HCA.out HGA.out)).mono ?_
                      rintro e w17 ⟨zs, MA, MC, NA, NC, rfl, hZR, hZD, hzs, hb⟩
                      have L17 := Lib.hid (L16.out.trans (hb.mono L16.out.size))
                      have X17 := Lib.hid (Cells.below X16.out hb)
                      have K17 := Lib.hid (Cells.below K16.out hb)
                      have D17 := Lib.hid (Mem.Owns.below D16.out hb)
                      have Z17 := Lib.hid (hZR.mono L16.out.size)
                      have Y17 := Lib.hid (fun z hz => (hZD z hz).mono L16.out.size)
                      have HZS := Lib.hid hzs
                      clear hb hHeld hZR hZD hzs
                      clear L16 X16 K16 D16 
                      clear D17
                      refine hK.out _ _ (Cells.cell K17.out 5) (fun hHeld => ?_)
                      clear hK K
                      (try simp only [Act.put, List.setIfInBounds_toArray, List.set_cons_zero, List.set_cons_succ])
                      refine Reg.step 6 rfl (by kernel_rfl) (by rfl) (fun K hK => ?_)
                      go_simp
                      have bb : Below w17.heap.size w17 (w17.alloc (.cells #[.bool false, .int .i64 0, .int .i64 0, .int .i64 0, .slice none 0 0, .slice none 0 0, .int .i64 0] 44)) := (Below.refl _ w17).alloc (Nat.le_refl _) _
                      have G18 : Hid (Cells (w17.alloc (.cells #[.bool false, .int .i64 0, .int .i64 0, .int .i64 0, .slice none 0 0, .slice none 0 0, .int .i64 0] 44)) w17.heap.size 44 #[.bool false, .int .i64 0, .int .i64 0, .int .i64 0, .slice none 0 0, .slice none 0 0, .int .i64 0]) := Cells.new _ _ _
                      have L18 := Lib.hid (L17.out.trans (bb.mono L17.out.size))
                      have X18 := Lib.hid (Cells.below X17.out bb)
                      have K18 := Lib.hid (Cells.below K17.out bb)
                      have Z18 := Lib.hid (Z17.out.below bb)
                      have Y18 := Lib.hid (fun z hz => (Y17.out z hz).below bb)
                      clear Z17 Y17
                      have GX : Hid (w.heap.size ≤ w17.heap.size ∧ w.heap.size ≠ w17.heap.size ∧ kb ≠ w17.heap.size) := ⟨L17.out.size, by have := Cells.lt X17.out; omega, by have := Cells.lt K17.out; omega⟩
                      clear bb hHeld
                      clear L17 X17 K17 
                      generalize w17.alloc (.cells #[.bool false, .int .i64 0, .int .i64 0, .int .i64 0, .slice none 0 0, .slice none 0 0, .int .i64 0] 44) = w18 at *
                      generalize w17.heap.size = xb at *
                      refine hK.out _ _ (Cells.cell K18.out 5) (fun hHeld => ?_)
                      clear hK K
                      (try simp only [Act.put, List.setIfInBounds_toArray, List.set_cons_zero, List.set_cons_succ])
                      have y0 := Cells.cell G18.out 0
                      have f0 := Cells.frozen G18.out 0
                      have y1 := Cells.cell G18.out 1
                      have f1 := Cells.frozen G18.out 1
                      have y2 := Cells.cell G18.out 2
                      have f2 := Cells.frozen G18.out 2
                      have y3 := Cells.cell G18.out 3
                      have f3 := Cells.frozen G18.out 3
                      have y4 := Cells.cell G18.out 4
                      have f4 := Cells.frozen G18.out 4
                      have y5 := Cells.cell G18.out 5
                      have f5 := Cells.frozen G18.out 5
                      have y6 := Cells.cell G18.out 6
                      have f6 := Cells.frozen G18.out 6
                      refine Reg.step 7 rfl (by kernel_rfl) (by rfl) (fun K hK => ?_)
                      go_simp
                      have bt := mov7 w18 xb (.bool true) (.int .i64 h.host) (.int .i64 h.epoch) (.int .i64 h.seq) (.slice MA lm.length MC) (.slice NA lm.length NC) (.int .i64 UU)
                      unfold set7W at bt
                      have cg := Chg.mov G18.out bt
                      have L19 := Lib.hid (L18.out.trans (bt.up L18.out.size GX.out.1))
                      have X19 := Lib.hid (cg.cells X18.out (by decide))
                      have K19 := Lib.hid (cg.cells K18.out (by decide))
                      have G19 : Hid (Cells _ xb 44 #[.bool true, .int .i64 h.host, .int .i64 h.epoch, .int .i64 h.seq, .slice MA lm.length MC, .slice NA lm.length NC, .int .i64 UU]) := Lib.hid (set7 G18.out (.bool true) (.int .i64 h.host) (.int .i64 h.epoch) (.int .i64 h.seq) (.slice MA lm.length MC) (.slice NA lm.length NC) (.int .i64 UU))
                      unfold set7W at G19
                      have Z19 := Lib.hid (cg.owns Z18.out (by decide))
                      have Y19 := Lib.hid (fun z hz => cg.ownI (Y18.out z hz) (by decide))
                      clear bt cg hHeld y0 f0 y1 f1 y2 f2 y3 f3 y4 f4 y5 f5 y6 f6 L18 X18 K18 G18 Z18 Y18
                      generalize ((((((w18.setCell ⟨xb, 0, none⟩ (.bool true)).setCell ⟨xb, 1, none⟩ (.int .i64 h.host)).setCell ⟨xb, 2, none⟩ (.int .i64 h.epoch)).setCell ⟨xb, 3, none⟩ (.int .i64 h.seq)).setCell ⟨xb, 4, none⟩ (.slice MA lm.length MC)).setCell ⟨xb, 5, none⟩ (.slice NA lm.length NC)).setCell ⟨xb, 6, none⟩ (.int .i64 UU) = w19 at *
                      refine hK.out _ _ (Cells.cell K19.out 5) (fun hHeld => ?_)
                      clear hK K
                      (try simp only [Act.put, List.setIfInBounds_toArray, List.set_cons_zero, List.set_cons_succ])
                      refine wpAnyH_done (by kernel_rfl) ?_ _
                      clear hHeld
                      go_wp2_with fail
                      go_meet
                      exact ⟨xb, MA, MC, NA, NC, zs, rfl, L19, X19, K19, G19, Z19, Y19, HZS⟩
                    · skip
                      go_simp
                      have bb : Below w16.heap.size w16 (w16.alloc (.cells #[.bool false, .int .i64 0, .int .i64 0, .int .i64 0, .slice none 0 0, .slice none 0 0, .int .i64 0] 44)) := (Below.refl _ w16).alloc (Nat.le_refl _) _
                      have G17 : Hid (Cells (w16.alloc (.cells #[.bool false, .int .i64 0, .int .i64 0, .int .i64 0, .slice none 0 0, .slice none 0 0, .int .i64 0] 44)) w16.heap.size 44 #[.bool false, .int .i64 0, .int .i64 0, .int .i64 0, .slice none 0 0, .slice none 0 0, .int .i64 0]) := Cells.new _ _ _
                      have L17 := Lib.hid (L16.out.trans (bb.mono L16.out.size))
                      have X17 := Lib.hid (Cells.below X16.out bb)
                      have K17 := Lib.hid (Cells.below K16.out bb)
                      have D17 := Lib.hid (Mem.Owns.below D16.out bb)
                      have GX : Hid (w.heap.size ≤ w16.heap.size ∧ w.heap.size ≠ w16.heap.size ∧ kb ≠ w16.heap.size) := ⟨L16.out.size, by have := Cells.lt X16.out; omega, by have := Cells.lt K16.out; omega⟩
                      clear bb hHeld
                      clear L16 X16 K16 D16 
                      generalize w16.alloc (.cells #[.bool false, .int .i64 0, .int .i64 0, .int .i64 0, .slice none 0 0, .slice none 0 0, .int .i64 0] 44) = w17 at *
                      generalize w16.heap.size = xb at *
                      refine hK.out _ _ (Cells.cell K17.out 5) (fun hHeld => ?_)
                      clear hK K
                      (try simp only [Act.put, List.setIfInBounds_toArray, List.set_cons_zero, List.set_cons_succ])
                      refine Reg.step 5 rfl (by kernel_rfl) (by rfl) (fun K hK => ?_)
                      go_simp
                      refine (scan_own (U := UU) HUU.out (h := h) (l := lm) (b := frames l ++ frames m) (by rw [← List.append_assoc, ← HBS.out]; exact (Wire.gave_row D17.out (by rw [List.length_append]; have := HBL.out; have := HVL.out; have := HVN.out; omega)).1) (by have := HBL.out; have := HVN.out; omega) HF.out HNN.out (by rw [← Seg.frames_append, HLM.out]; exact scans_all HCA.out HGA.out)).mono ?_
                      rintro e w18 ⟨zs, MA, MC, NA, NC, rfl, hZR, hZD, hzs, hb⟩
                      have L18 := Lib.hid (L17.out.trans (hb.mono L17.out.size))
                      have X18 := Lib.hid (Cells.below X17.out hb)
                      have K18 := Lib.hid (Cells.below K17.out hb)
                      have D18 := Lib.hid (Mem.Owns.below D17.out hb)
                      have G18 := Lib.hid (Cells.below G17.out hb)
                      have Z18 := Lib.hid (hZR.mono L17.out.size)
                      have Y18 := Lib.hid (fun z hz => (hZD z hz).mono L17.out.size)
                      have HZS := Lib.hid hzs
                      clear hb hHeld hZR hZD hzs
                      clear L17 X17 K17 D17 G17 
                      clear D18
                      refine hK.out _ _ (Cells.cell K18.out 5) (fun hHeld => ?_)
                      clear hK K
                      (try simp only [Act.put, List.setIfInBounds_toArray, List.set_cons_zero, List.set_cons_succ])
                      have y0 := Cells.cell G18.out 0
                      have f0 := Cells.frozen G18.out 0
                      have y1 := Cells.cell G18.out 1
                      have f1 := Cells.frozen G18.out 1
                      have y2 := Cells.cell G18.out 2
                      have f2 := Cells.frozen G18.out 2
                      have y3 := Cells.cell G18.out 3
                      have f3 := Cells.frozen G18.out 3
                      have y4 := Cells.cell G18.out 4
                      have f4 := Cells.frozen G18.out 4
                      have y5 := Cells.cell G18.out 5
                      have f5 := Cells.frozen G18.out 5
                      have y6 := Cells.cell G18.out 6
                      have f6 := Cells.frozen G18.out 6
                      refine Reg.step 7 rfl (by kernel_rfl) (by rfl) (fun K hK => ?_)
                      go_simp
                      have bt := mov7 w18 xb (.bool true) (.int .i64 h.host) (.int .i64 h.epoch) (.int .i64 h.seq) (.slice MA lm.length MC) (.slice NA lm.length NC) (.int .i64 UU)
                      unfold set7W at bt
                      have cg := Chg.mov G18.out bt
                      have L19 := Lib.hid (L18.out.trans (bt.up L18.out.size GX.out.1))
                      have X19 := Lib.hid (cg.cells X18.out (by decide))
                      have K19 := Lib.hid (cg.cells K18.out (by decide))
                      have G19 : Hid (Cells _ xb 44 #[.bool true, .int .i64 h.host, .int .i64 h.epoch, .int .i64 h.seq, .slice MA lm.length MC, .slice NA lm.length NC, .int .i64 UU]) := Lib.hid (set7 G18.out (.bool true) (.int .i64 h.host) (.int .i64 h.epoch) (.int .i64 h.seq) (.slice MA lm.length MC) (.slice NA lm.length NC) (.int .i64 UU))
                      unfold set7W at G19
                      have Z19 := Lib.hid (cg.owns Z18.out (by decide))
                      have Y19 := Lib.hid (fun z hz => cg.ownI (Y18.out z hz) (by decide))
                      clear bt cg hHeld y0 f0 y1 f1 y2 f2 y3 f3 y4 f4 y5 f5 y6 f6 L18 X18 K18 G18 Z18 Y18
                      generalize ((((((w18.setCell ⟨xb, 0, none⟩ (.bool true)).setCell ⟨xb, 1, none⟩ (.int .i64 h.host)).setCell ⟨xb, 2, none⟩ (.int .i64 h.epoch)).setCell ⟨xb, 3, none⟩ (.int .i64 h.seq)).setCell ⟨xb, 4, none⟩ (.slice MA lm.length MC)).setCell ⟨xb, 5, none⟩ (.slice NA lm.length NC)).setCell ⟨xb, 6, none⟩ (.int .i64 UU) = w19 at *
                      refine hK.out _ _ (Cells.cell K19.out 5) (fun hHeld => ?_)
                      clear hK K
                      (try simp only [Act.put, List.setIfInBounds_toArray, List.set_cons_zero, List.set_cons_succ])
                      refine wpAnyH_done (by kernel_rfl) ?_ _
                      clear hHeld
                      go_wp2_with fail
                      go_meet
                      exact ⟨xb, MA, MC, NA, NC, zs, rfl, L19, X19, K19, G19, Z19, Y19, HZS⟩
                  · skip
                    go_simp
                    have bb : Below w15.heap.size w15 (w15.alloc (.cells #[.bool false, .int .i64 0, .int .i64 0, .int .i64 0, .slice none 0 0, .slice none 0 0, .int .i64 0] 44)) := (Below.refl _ w15).alloc (Nat.le_refl _) _
                    have G16 : Hid (Cells (w15.alloc (.cells #[.bool false, .int .i64 0, .int .i64 0, .int .i64 0, .slice none 0 0, .slice none 0 0, .int .i64 0] 44)) w15.heap.size 44 #[.bool false, .int .i64 0, .int .i64 0, .int .i64 0, .slice none 0 0, .slice none 0 0, .int .i64 0]) := Cells.new _ _ _
                    have L16 := Lib.hid (L15.out.trans (bb.mono L15.out.size))
                    have X16 := Lib.hid (Cells.below X15.out bb)
                    have K16 := Lib.hid (Cells.below K15.out bb)
                    have C16 := Lib.hid (Mem.Owns.below C15.out bb)
                    have D16 := Lib.hid (Mem.Owns.below D15.out bb)
                    have GX : Hid (w.heap.size ≤ w15.heap.size ∧ w.heap.size ≠ w15.heap.size ∧ kb ≠ w15.heap.size) := ⟨L15.out.size, by have := Cells.lt X15.out; omega, by have := Cells.lt K15.out; omega⟩
                    clear bb hHeld
                    clear L15 X15 K15 C15 D15 
                    generalize w15.alloc (.cells #[.bool false, .int .i64 0, .int .i64 0, .int .i64 0, .slice none 0 0, .slice none 0 0, .int .i64 0] 44) = w16 at *
                    generalize w15.heap.size = xb at *
                    refine hK.out _ _ (Cells.cell K16.out 5) (fun hHeld => ?_)
                    clear hK K
                    (try simp only [Act.put, List.setIfInBounds_toArray, List.set_cons_zero, List.set_cons_succ])
                    refine Reg.step 4 rfl (by kernel_rfl) (by rfl) (fun K hK => ?_)
                    refine OwnS.wp_append1 (OwnB.fit1 cb_one) Try.underlying27 info_byte rfl (by omega) (.tmp 74) (.tmp 76) rfl rfl w.heap.size (.slice A1 bs.length a1) bs.length bs rfl (OwnB.to D16.out) none 0 0 (frames m) rfl (OwnB.row_to (Wire.gave_row C16.out (by have := HVL.out; omega)).1) (by have := HBL.out; have := HVN.out; omega) L16.out.size ?_
                    intro A3 a3 w17 ho hg hn
                    have cg : Chg 5 _ w16 w17 := Chg.own (OwnB.to D16.out) hg
                    have L17 := Lib.hid (L16.out.trans (OwnS.below_row (OwnB.to D16.out) hg L16.out.size))
                    have X17 := Lib.hid (cg.cells X16.out (by decide))
                    have K17 := Lib.hid (cg.cells K16.out (by decide))
                    have G17 := Lib.hid (cg.cells G16.out (by decide))
                    have D17 := Lib.hid (OwnB.back ho)
                    clear ho hg hn cg hHeld
                    clear L16 X16 K16 C16 D16 G16 
                    refine hK.out _ _ (Cells.cell K17.out 5) (fun hHeld => ?_)
                    clear hK K
                    (try simp only [Act.put, List.setIfInBounds_toArray, List.set_cons_zero, List.set_cons_succ])
                    refine Reg.step 5 rfl (by kernel_rfl) (by rfl) (fun K hK => ?_)
                    go_simp
                    refine (scan_own (U := UU) HUU.out (h := h) (l := lm) (b := frames l ++ frames m) (by rw [← List.append_assoc, ← HBS.out]; exact (Wire.gave_row D17.out (by rw [List.length_append]; have := HBL.out; have := HVL.out; have := HVN.out; omega)).1) (by have := HBL.out; have := HVN.out; omega) HF.out HNN.out (by rw [← Seg.frames_append, HLM.out]; exact scans_all HCA.out HGA.out)).mono ?_
                    rintro e w18 ⟨zs, MA, MC, NA, NC, rfl, hZR, hZD, hzs, hb⟩
                    have L18 := Lib.hid (L17.out.trans (hb.mono L17.out.size))
                    have X18 := Lib.hid (Cells.below X17.out hb)
                    have K18 := Lib.hid (Cells.below K17.out hb)
                    have D18 := Lib.hid (Mem.Owns.below D17.out hb)
                    have G18 := Lib.hid (Cells.below G17.out hb)
                    have Z18 := Lib.hid (hZR.mono L17.out.size)
                    have Y18 := Lib.hid (fun z hz => (hZD z hz).mono L17.out.size)
                    have HZS := Lib.hid hzs
                    clear hb hHeld hZR hZD hzs
                    clear L17 X17 K17 D17 G17 
                    clear D18
                    refine hK.out _ _ (Cells.cell K18.out 5) (fun hHeld => ?_)
                    clear hK K
                    (try simp only [Act.put, List.setIfInBounds_toArray, List.set_cons_zero, List.set_cons_succ])
                    have y0 := Cells.cell G18.out 0
                    have f0 := Cells.frozen G18.out 0
                    have y1 := Cells.cell G18.out 1
                    have f1 := Cells.frozen G18.out 1
                    have y2 := Cells.cell G18.out 2
                    have f2 := Cells.frozen G18.out 2
                    have y3 := Cells.cell G18.out 3
                    have f3 := Cells.frozen G18.out 3
                    have y4 := Cells.cell G18.out 4
                    have f4 := Cells.frozen G18.out 4
                    have y5 := Cells.cell G18.out 5
                    have f5 := Cells.frozen G18.out 5
                    have y6 := Cells.cell G18.out 6
                    have f6 := Cells.frozen G18.out 6
                    refine Reg.step 7 rfl (by kernel_rfl) (by rfl) (fun K hK => ?_)
                    go_simp
                    have bt := mov7 w18 xb (.bool true) (.int .i64 h.host) (.int .i64 h.epoch) (.int .i64 h.seq) (.slice MA lm.length MC) (.slice NA lm.length NC) (.int .i64 UU)
                    unfold set7W at bt
                    have cg := Chg.mov G18.out bt
                    have L19 := Lib.hid (L18.out.trans (bt.up L18.out.size GX.out.1))
                    have X19 := Lib.hid (cg.cells X18.out (by decide))
                    have K19 := Lib.hid (cg.cells K18.out (by decide))
                    have G19 : Hid (Cells _ xb 44 #[.bool true, .int .i64 h.host, .int .i64 h.epoch, .int .i64 h.seq, .slice MA lm.length MC, .slice NA lm.length NC, .int .i64 UU]) := Lib.hid (set7 G18.out (.bool true) (.int .i64 h.host) (.int .i64 h.epoch) (.int .i64 h.seq) (.slice MA lm.length MC) (.slice NA lm.length NC) (.int .i64 UU))
                    unfold set7W at G19
                    have Z19 := Lib.hid (cg.owns Z18.out (by decide))
                    have Y19 := Lib.hid (fun z hz => cg.ownI (Y18.out z hz) (by decide))
                    clear bt cg hHeld y0 f0 y1 f1 y2 f2 y3 f3 y4 f4 y5 f5 y6 f6 L18 X18 K18 G18 Z18 Y18
                    generalize ((((((w18.setCell ⟨xb, 0, none⟩ (.bool true)).setCell ⟨xb, 1, none⟩ (.int .i64 h.host)).setCell ⟨xb, 2, none⟩ (.int .i64 h.epoch)).setCell ⟨xb, 3, none⟩ (.int .i64 h.seq)).setCell ⟨xb, 4, none⟩ (.slice MA lm.length MC)).setCell ⟨xb, 5, none⟩ (.slice NA lm.length NC)).setCell ⟨xb, 6, none⟩ (.int .i64 UU) = w19 at *
                    refine hK.out _ _ (Cells.cell K19.out 5) (fun hHeld => ?_)
                    clear hK K
                    (try simp only [Act.put, List.setIfInBounds_toArray, List.set_cons_zero, List.set_cons_succ])
                    refine wpAnyH_done (by kernel_rfl) ?_ _
                    clear hHeld
                    go_wp2_with fail
                    go_meet
                    exact ⟨xb, MA, MC, NA, NC, zs, rfl, L19, X19, K19, G19, Z19, Y19, HZS⟩
                · skip
                  go_simp
                  have bb : Below w14.heap.size w14 (w14.alloc (.cells #[.bool false, .int .i64 0, .int .i64 0, .int .i64 0, .slice none 0 0, .slice none 0 0, .int .i64 0] 44)) := (Below.refl _ w14).alloc (Nat.le_refl _) _
                  have G15 : Hid (Cells (w14.alloc (.cells #[.bool false, .int .i64 0, .int .i64 0, .int .i64 0, .slice none 0 0, .slice none 0 0, .int .i64 0] 44)) w14.heap.size 44 #[.bool false, .int .i64 0, .int .i64 0, .int .i64 0, .slice none 0 0, .slice none 0 0, .int .i64 0]) := Cells.new _ _ _
                  have L15 := Lib.hid (L14.out.trans (bb.mono L14.out.size))
                  have X15 := Lib.hid (Cells.below X14.out bb)
                  have B15 := Lib.hid (Mem.Owns.below B14.out bb)
                  have K15 := Lib.hid (Cells.below K14.out bb)
                  have C15 := Lib.hid (Mem.Owns.below C14.out bb)
                  have GX : Hid (w.heap.size ≤ w14.heap.size ∧ w.heap.size ≠ w14.heap.size ∧ kb ≠ w14.heap.size) := ⟨L14.out.size, by have := Cells.lt X14.out; omega, by have := Cells.lt K14.out; omega⟩
                  clear bb hHeld
                  clear L14 X14 B14 K14 C14 
                  generalize w14.alloc (.cells #[.bool false, .int .i64 0, .int .i64 0, .int .i64 0, .slice none 0 0, .slice none 0 0, .int .i64 0] 44) = w15 at *
                  generalize w14.heap.size = xb at *
                  refine hK.out _ _ (Cells.cell K15.out 5) (fun hHeld => ?_)
                  clear hK K
                  (try simp only [Act.put, List.setIfInBounds_toArray, List.set_cons_zero, List.set_cons_succ])
                  refine Reg.step 1 rfl (by kernel_rfl) (by rfl) (fun K hK => ?_)
                  refine OwnS.wp_append1 (OwnB.fit1 cb_one) Try.underlying27 info_byte rfl (by omega) (.const (.slice none 0 0)) (.tmp 73) rfl rfl w.heap.size (.slice none 0 0) 0 [] rfl (OwnS.Owns.nil _ _ _ _ _) X bs.length d bs rfl (OwnB.row_to (Wire.gave_row B15.out (by have := HBL.out; omega)).1) (by have := HBL.out; omega) L15.out.size ?_
                  intro A1 a1 w16 ho hg hn
                  rw [Nat.zero_add, List.nil_append] at ho
                  rw [Nat.zero_add] at hn ⊢
                  have hb : Below w15.heap.size w15 w16 := ⟨hg.os, hg.tape, hg.output, hg.size, fun i hi => hg.block i hi (by intro h; cases h)⟩
                  have L16 := Lib.hid (L15.out.trans (hb.mono L15.out.size))
                  have X16 := Lib.hid (Cells.below X15.out hb)
                  have B16 := Lib.hid (Mem.Owns.below B15.out hb)
                  have K16 := Lib.hid (Cells.below K15.out hb)
                  have C16 := Lib.hid (Mem.Owns.below C15.out hb)
                  have G16 := Lib.hid (Cells.below G15.out hb)
                  have D16 := Lib.hid (OwnB.back ho)
                  have AC : Hid (Ap (.slice none 0 0) (.slice A1 bs.length a1)) := by
                    show Ap _ _
                    unfold Ap
                    rcases e1 : (Value.slice none 0 0).ownBlock with _ | z
                    · exact .inl rfl
                    · refine .inr fun e2 => ?_
                      have h3 := (OwnB.owns_lt C15.out z e1).2
                      rcases hn with hn | hn
                      · rw [hn] at e2; cases e2
                      · rw [hn] at e2; injection e2 with e2; omega
                  clear hb hHeld ho hg hn
                  clear L15 X15 B15 K15 C15 G15 
                  refine hK.out _ _ (Cells.cell K16.out 5) (fun hHeld => ?_)
                  clear hK K
                  (try simp only [Act.put, List.setIfInBounds_toArray, List.set_cons_zero, List.set_cons_succ])
                  clear B16
                  refine Reg.step 4 rfl (by kernel_rfl) (by rfl) (fun K hK => ?_)
                  refine OwnS.wp_append1 (OwnB.fit1 cb_one) Try.underlying27 info_byte rfl (by omega) (.tmp 74) (.tmp 76) rfl rfl w.heap.size (.slice A1 bs.length a1) bs.length bs rfl (OwnB.to D16.out) none 0 0 (frames m) rfl (OwnB.row_to (Wire.gave_row C16.out (by have := HVL.out; omega)).1) (by have := HBL.out; have := HVN.out; omega) L16.out.size ?_
                  intro A3 a3 w17 ho hg hn
                  have cg : Chg 5 _ w16 w17 := Chg.own (OwnB.to D16.out) hg
                  have L17 := Lib.hid (L16.out.trans (OwnS.below_row (OwnB.to D16.out) hg L16.out.size))
                  have X17 := Lib.hid (cg.cells X16.out (by decide))
                  have K17 := Lib.hid (cg.cells K16.out (by decide))
                  have G17 := Lib.hid (cg.cells G16.out (by decide))
                  have D17 := Lib.hid (OwnB.back ho)
                  clear ho hg hn cg hHeld
                  clear L16 X16 K16 C16 G16 D16 
                  refine hK.out _ _ (Cells.cell K17.out 5) (fun hHeld => ?_)
                  clear hK K
                  (try simp only [Act.put, List.setIfInBounds_toArray, List.set_cons_zero, List.set_cons_succ])
                  refine Reg.step 5 rfl (by kernel_rfl) (by rfl) (fun K hK => ?_)
                  go_simp
                  refine (scan_own (U := UU) HUU.out (h := h) (l := lm) (b := frames l ++ frames m) (by rw [← List.append_assoc, ← HBS.out]; exact (Wire.gave_row D17.out (by rw [List.length_append]; have := HBL.out; have := HVL.out; have := HVN.out; omega)).1) (by have := HBL.out; have := HVN.out; omega) HF.out HNN.out (by rw [← Seg.frames_append, HLM.out]; exact scans_all HCA.out HGA.out)).mono ?_
                  rintro e w18 ⟨zs, MA, MC, NA, NC, rfl, hZR, hZD, hzs, hb⟩
                  have L18 := Lib.hid (L17.out.trans (hb.mono L17.out.size))
                  have X18 := Lib.hid (Cells.below X17.out hb)
                  have K18 := Lib.hid (Cells.below K17.out hb)
                  have G18 := Lib.hid (Cells.below G17.out hb)
                  have D18 := Lib.hid (Mem.Owns.below D17.out hb)
                  have Z18 := Lib.hid (hZR.mono L17.out.size)
                  have Y18 := Lib.hid (fun z hz => (hZD z hz).mono L17.out.size)
                  have HZS := Lib.hid hzs
                  clear hb hHeld hZR hZD hzs
                  clear L17 X17 K17 G17 D17 
                  clear D18
                  refine hK.out _ _ (Cells.cell K18.out 5) (fun hHeld => ?_)
                  clear hK K
                  (try simp only [Act.put, List.setIfInBounds_toArray, List.set_cons_zero, List.set_cons_succ])
                  have y0 := Cells.cell G18.out 0
                  have f0 := Cells.frozen G18.out 0
                  have y1 := Cells.cell G18.out 1
                  have f1 := Cells.frozen G18.out 1
                  have y2 := Cells.cell G18.out 2
                  have f2 := Cells.frozen G18.out 2
                  have y3 := Cells.cell G18.out 3
                  have f3 := Cells.frozen G18.out 3
                  have y4 := Cells.cell G18.out 4
                  have f4 := Cells.frozen G18.out 4
                  have y5 := Cells.cell G18.out 5
                  have f5 := Cells.frozen G18.out 5
                  have y6 := Cells.cell G18.out 6
                  have f6 := Cells.frozen G18.out 6
                  refine Reg.step 7 rfl (by kernel_rfl) (by rfl) (fun K hK => ?_)
                  go_simp
                  have bt := mov7 w18 xb (.bool true) (.int .i64 h.host) (.int .i64 h.epoch) (.int .i64 h.seq) (.slice MA lm.length MC) (.slice NA lm.length NC) (.int .i64 UU)
                  unfold set7W at bt
                  have cg := Chg.mov G18.out bt
                  have L19 := Lib.hid (L18.out.trans (bt.up L18.out.size GX.out.1))
                  have X19 := Lib.hid (cg.cells X18.out (by decide))
                  have K19 := Lib.hid (cg.cells K18.out (by decide))
                  have G19 : Hid (Cells _ xb 44 #[.bool true, .int .i64 h.host, .int .i64 h.epoch, .int .i64 h.seq, .slice MA lm.length MC, .slice NA lm.length NC, .int .i64 UU]) := Lib.hid (set7 G18.out (.bool true) (.int .i64 h.host) (.int .i64 h.epoch) (.int .i64 h.seq) (.slice MA lm.length MC) (.slice NA lm.length NC) (.int .i64 UU))
                  unfold set7W at G19
                  have Z19 := Lib.hid (cg.owns Z18.out (by decide))
                  have Y19 := Lib.hid (fun z hz => cg.ownI (Y18.out z hz) (by decide))
                  clear bt cg hHeld y0 f0 y1 f1 y2 f2 y3 f3 y4 f4 y5 f5 y6 f6 L18 X18 K18 G18 Z18 Y18
                  generalize ((((((w18.setCell ⟨xb, 0, none⟩ (.bool true)).setCell ⟨xb, 1, none⟩ (.int .i64 h.host)).setCell ⟨xb, 2, none⟩ (.int .i64 h.epoch)).setCell ⟨xb, 3, none⟩ (.int .i64 h.seq)).setCell ⟨xb, 4, none⟩ (.slice MA lm.length MC)).setCell ⟨xb, 5, none⟩ (.slice NA lm.length NC)).setCell ⟨xb, 6, none⟩ (.int .i64 UU) = w19 at *
                  refine hK.out _ _ (Cells.cell K19.out 5) (fun hHeld => ?_)
                  clear hK K
                  (try simp only [Act.put, List.setIfInBounds_toArray, List.set_cons_zero, List.set_cons_succ])
                  refine wpAnyH_done (by kernel_rfl) ?_ _
                  clear hHeld
                  go_wp2_with fail
                  go_meet
                  exact ⟨xb, MA, MC, NA, NC, zs, rfl, L19, X19, K19, G19, Z19, Y19, HZS⟩
              case rest =>
                obtain ⟨xb, MA, MC, NA, NC, zs, rfl, L20, X20, K20, G20, Z20, Y20, HZS⟩ := hcut
                obtain ⟨w20, hw20⟩ : ∃ x, x = wc := ⟨_, rfl⟩
                subst hw20
                go_upto_region 18 with fail
                have Z21 := Lib.hid (Z20.out.below (Below.refl _ w20).drew)
                have Y21 := Lib.hid (fun z hz => (Y20.out z hz).below (Below.refl _ w20).drew)
                clear Z20 Y20
                have L21 := Lib.hid L20.out.drew
                have X21 := Lib.hid (Cells.below X20.out ((Below.refl _ w20).drew))
                have K21 := Lib.hid (Cells.below K20.out ((Below.refl _ w20).drew))
                have G21 := Lib.hid (Cells.below G20.out ((Below.refl _ w20).drew))
                refine wp_region_held_drew (S := fun W => W.cell? ⟨w.heap.size, 0, none⟩ = some (.int .i64 h.host) ∧ W.cell? ⟨w.heap.size, 1, none⟩ = some (.int .i64 h.epoch) ∧ W.cell? ⟨w.heap.size, 2, none⟩ = some (.int .i64 h.seq) ∧ W.cell? ⟨kb, 1, none⟩ = some (.int .i64 0) ∧ W.cell? ⟨kb, 2, none⟩ = some (.int .i64 0) ∧ W.cell? ⟨xb, 0, none⟩ = some (.bool true) ∧ W.cell? ⟨xb, 1, none⟩ = some (.int .i64 h.host) ∧ W.cell? ⟨xb, 2, none⟩ = some (.int .i64 h.epoch) ∧ W.cell? ⟨xb, 3, none⟩ = some (.int .i64 h.seq) ∧ W.cell? ⟨xb, 4, none⟩ = some (.slice MA lm.length MC)) (by kernel_rfl) (⟨Cells.cell X21.out 0, Cells.cell X21.out 1, Cells.cell X21.out 2, Cells.cell K21.out 1, Cells.cell K21.out 2, Cells.cell G21.out 0, Cells.cell G21.out 1, Cells.cell G21.out 2, Cells.cell G21.out 3, Cells.cell G21.out 4⟩) (fun hHeld => ?_)
                generalize w20.drew = w21 at *
                clear L20 X20 K20 G20 
                (first | (refine Reg.take 0 (v := ?_) rfl (by kernel_rfl) (by kernel_rfl) (by kernel_rfl) (fun _ _ _ h => h) (Or.inl ⟨by rfl, ?_⟩) (by assumption) ?_; rotate_left; (focus ((intro W hSW); (try dsimp only at hSW); (try go_split_ands); go_simp; (try (with_reducible rfl)); done))) | (refine Reg.take 0 (v := undef) rfl (by kernel_rfl) (by kernel_rfl) (by kernel_rfl) (fun _ _ _ h => h) (Or.inr ⟨by rfl, rfl⟩) (by assumption) ?_))
                (try simp only [Act.put, List.setIfInBounds_toArray, List.set_cons_zero, List.set_cons_succ])
                (first | (refine Reg.take 1 (v := ?_) rfl (by kernel_rfl) (by kernel_rfl) (by kernel_rfl) (fun _ _ _ h => h) (Or.inl ⟨by rfl, ?_⟩) (by assumption) ?_; rotate_left; (focus ((intro W hSW); (try dsimp only at hSW); (try go_split_ands); go_simp; (try (with_reducible rfl)); done))) | (refine Reg.take 1 (v := undef) rfl (by kernel_rfl) (by kernel_rfl) (by kernel_rfl) (fun _ _ _ h => h) (Or.inr ⟨by rfl, rfl⟩) (by assumption) ?_))
                (try simp only [Act.put, List.setIfInBounds_toArray, List.set_cons_zero, List.set_cons_succ])
                (first | (refine Reg.take 2 (v := ?_) rfl (by kernel_rfl) (by kernel_rfl) (by kernel_rfl) (fun _ _ _ h => h) (Or.inl ⟨by rfl, ?_⟩) (by assumption) ?_; rotate_left; (focus ((intro W hSW); (try dsimp only at hSW); (try go_split_ands); go_simp; (try (with_reducible rfl)); done))) | (refine Reg.take 2 (v := undef) rfl (by kernel_rfl) (by kernel_rfl) (by kernel_rfl) (fun _ _ _ h => h) (Or.inr ⟨by rfl, rfl⟩) (by assumption) ?_))
                (try simp only [Act.put, List.setIfInBounds_toArray, List.set_cons_zero, List.set_cons_succ])
                (first | (refine Reg.take 3 (v := ?_) rfl (by kernel_rfl) (by kernel_rfl) (by kernel_rfl) (fun _ _ _ h => h) (Or.inl ⟨by rfl, ?_⟩) (by assumption) ?_; rotate_left; (focus ((intro W hSW); (try dsimp only at hSW); (try go_split_ands); go_simp; (try (with_reducible rfl)); done))) | (refine Reg.take 3 (v := undef) rfl (by kernel_rfl) (by kernel_rfl) (by kernel_rfl) (fun _ _ _ h => h) (Or.inr ⟨by rfl, rfl⟩) (by assumption) ?_))
                (try simp only [Act.put, List.setIfInBounds_toArray, List.set_cons_zero, List.set_cons_succ])
                (first | (refine Reg.take 4 (v := ?_) rfl (by kernel_rfl) (by kernel_rfl) (by kernel_rfl) (fun _ _ _ h => h) (Or.inl ⟨by rfl, ?_⟩) (by assumption) ?_; rotate_left; (focus ((intro W hSW); (try dsimp only at hSW); (try go_split_ands); go_simp; (try (with_reducible rfl)); done))) | (refine Reg.take 4 (v := undef) rfl (by kernel_rfl) (by kernel_rfl) (by kernel_rfl) (fun _ _ _ h => h) (Or.inr ⟨by rfl, rfl⟩) (by assumption) ?_))
                (try simp only [Act.put, List.setIfInBounds_toArray, List.set_cons_zero, List.set_cons_succ])
                (first | (refine Reg.take 5 (v := ?_) rfl (by kernel_rfl) (by kernel_rfl) (by kernel_rfl) (fun _ _ _ h => h) (Or.inl ⟨by rfl, ?_⟩) (by assumption) ?_; rotate_left; (focus ((intro W hSW); (try dsimp only at hSW); (try go_split_ands); go_simp; (try (with_reducible rfl)); done))) | (refine Reg.take 5 (v := undef) rfl (by kernel_rfl) (by kernel_rfl) (by kernel_rfl) (fun _ _ _ h => h) (Or.inr ⟨by rfl, rfl⟩) (by assumption) ?_))
                (try simp only [Act.put, List.setIfInBounds_toArray, List.set_cons_zero, List.set_cons_succ])
                (first | (refine Reg.take 6 (v := ?_) rfl (by kernel_rfl) (by kernel_rfl) (by kernel_rfl) (fun _ _ _ h => h) (Or.inl ⟨by rfl, ?_⟩) (by assumption) ?_; rotate_left; (focus ((intro W hSW); (try dsimp only at hSW); (try go_split_ands); go_simp; (try (with_reducible rfl)); done))) | (refine Reg.take 6 (v := undef) rfl (by kernel_rfl) (by kernel_rfl) (by kernel_rfl) (fun _ _ _ h => h) (Or.inr ⟨by rfl, rfl⟩) (by assumption) ?_))
                (try simp only [Act.put, List.setIfInBounds_toArray, List.set_cons_zero, List.set_cons_succ])
                (first | (refine Reg.take 7 (v := ?_) rfl (by kernel_rfl) (by kernel_rfl) (by kernel_rfl) (fun _ _ _ h => h) (Or.inl ⟨by rfl, ?_⟩) (by assumption) ?_; rotate_left; (focus ((intro W hSW); (try dsimp only at hSW); (try go_split_ands); go_simp; (try (with_reducible rfl)); done))) | (refine Reg.take 7 (v := undef) rfl (by kernel_rfl) (by kernel_rfl) (by kernel_rfl) (fun _ _ _ h => h) (Or.inr ⟨by rfl, rfl⟩) (by assumption) ?_))
                (try simp only [Act.put, List.setIfInBounds_toArray, List.set_cons_zero, List.set_cons_succ])
                (first | (refine Reg.take 8 (v := ?_) rfl (by kernel_rfl) (by kernel_rfl) (by kernel_rfl) (fun _ _ _ h => h) (Or.inl ⟨by rfl, ?_⟩) (by assumption) ?_; rotate_left; (focus ((intro W hSW); (try dsimp only at hSW); (try go_split_ands); go_simp; (try (with_reducible rfl)); done))) | (refine Reg.take 8 (v := undef) rfl (by kernel_rfl) (by kernel_rfl) (by kernel_rfl) (fun _ _ _ h => h) (Or.inr ⟨by rfl, rfl⟩) (by assumption) ?_))
                (try simp only [Act.put, List.setIfInBounds_toArray, List.set_cons_zero, List.set_cons_succ])
                (first | (refine Reg.take 9 (v := ?_) rfl (by kernel_rfl) (by kernel_rfl) (by kernel_rfl) (fun _ _ _ h => h) (Or.inl ⟨by rfl, ?_⟩) (by assumption) ?_; rotate_left; (focus ((intro W hSW); (try dsimp only at hSW); (try go_split_ands); go_simp; (try (with_reducible rfl)); done))) | (refine Reg.take 9 (v := undef) rfl (by kernel_rfl) (by kernel_rfl) (by kernel_rfl) (fun _ _ _ h => h) (Or.inr ⟨by rfl, rfl⟩) (by assumption) ?_))
                (try simp only [Act.put, List.setIfInBounds_toArray, List.set_cons_zero, List.set_cons_succ])
                (first | (refine Reg.take 10 (v := ?_) rfl (by kernel_rfl) (by kernel_rfl) (by kernel_rfl) (fun _ _ _ h => h) (Or.inl ⟨by rfl, ?_⟩) (by assumption) ?_; rotate_left; (focus ((intro W hSW); (try dsimp only at hSW); (try go_split_ands); go_simp; (try (with_reducible rfl)); done))) | (refine Reg.take 10 (v := undef) rfl (by kernel_rfl) (by kernel_rfl) (by kernel_rfl) (fun _ _ _ h => h) (Or.inr ⟨by rfl, rfl⟩) (by assumption) ?_))
                (try simp only [Act.put, List.setIfInBounds_toArray, List.set_cons_zero, List.set_cons_succ])
                (first | (refine Reg.take 11 (v := ?_) rfl (by kernel_rfl) (by kernel_rfl) (by kernel_rfl) (fun _ _ _ h => h) (Or.inl ⟨by rfl, ?_⟩) (by assumption) ?_; rotate_left; (focus ((intro W hSW); (try dsimp only at hSW); (try go_split_ands); go_simp; (try (with_reducible rfl)); done))) | (refine Reg.take 11 (v := undef) rfl (by kernel_rfl) (by kernel_rfl) (by kernel_rfl) (fun _ _ _ h => h) (Or.inr ⟨by rfl, rfl⟩) (by assumption) ?_))
                (try simp only [Act.put, List.setIfInBounds_toArray, List.set_cons_zero, List.set_cons_succ])
                (first | (refine Reg.take 12 (v := ?_) rfl (by kernel_rfl) (by kernel_rfl) (by kernel_rfl) (fun _ _ _ h => h) (Or.inl ⟨by rfl, ?_⟩) (by assumption) ?_; rotate_left; (focus ((intro W hSW); (try dsimp only at hSW); (try go_split_ands); go_simp; (try (with_reducible rfl)); done))) | (refine Reg.take 12 (v := undef) rfl (by kernel_rfl) (by kernel_rfl) (by kernel_rfl) (fun _ _ _ h => h) (Or.inr ⟨by rfl, rfl⟩) (by assumption) ?_))
                (try simp only [Act.put, List.setIfInBounds_toArray, List.set_cons_zero, List.set_cons_succ])
                (first | (refine Reg.take 13 (v := ?_) rfl (by kernel_rfl) (by kernel_rfl) (by kernel_rfl) (fun _ _ _ h => h) (Or.inl ⟨by rfl, ?_⟩) (by assumption) ?_; rotate_left; (focus ((intro W hSW); (try dsimp only at hSW); (try go_split_ands); go_simp; (try (with_reducible rfl)); done))) | (refine Reg.take 13 (v := undef) rfl (by kernel_rfl) (by kernel_rfl) (by kernel_rfl) (fun _ _ _ h => h) (Or.inr ⟨by rfl, rfl⟩) (by assumption) ?_))
                (try simp only [Act.put, List.setIfInBounds_toArray, List.set_cons_zero, List.set_cons_succ])
                (first | (refine Reg.take 14 (v := ?_) rfl (by kernel_rfl) (by kernel_rfl) (by kernel_rfl) (fun _ _ _ h => h) (Or.inl ⟨by rfl, ?_⟩) (by assumption) ?_; rotate_left; (focus ((intro W hSW); (try dsimp only at hSW); (try go_split_ands); go_simp; (try (with_reducible rfl)); done))) | (refine Reg.take 14 (v := undef) rfl (by kernel_rfl) (by kernel_rfl) (by kernel_rfl) (fun _ _ _ h => h) (Or.inr ⟨by rfl, rfl⟩) (by assumption) ?_))
                (try simp only [Act.put, List.setIfInBounds_toArray, List.set_cons_zero, List.set_cons_succ])
                (first | (refine Reg.take 16 (v := ?_) rfl (by kernel_rfl) (by kernel_rfl) (by kernel_rfl) (fun _ _ _ h => h) (Or.inl ⟨by rfl, ?_⟩) (by assumption) ?_; rotate_left; (focus ((intro W hSW); (try dsimp only at hSW); (try go_split_ands); go_simp; (try (with_reducible rfl)); done))) | (refine Reg.take 16 (v := undef) rfl (by kernel_rfl) (by kernel_rfl) (by kernel_rfl) (fun _ _ _ h => h) (Or.inr ⟨by rfl, rfl⟩) (by assumption) ?_))
                (try simp only [Act.put, List.setIfInBounds_toArray, List.set_cons_zero, List.set_cons_succ])
                refine Reg.step 15 rfl (by kernel_rfl) (by rfl) (fun K hK => ?_)
                refine OwnS.wp_append1 fitR Try.underlying24 info_recP rfl (by omega) (.const (.slice none 0 0)) (.tmp 93) rfl rfl w.heap.size (.slice none 0 0) 0 [] rfl (OwnS.Owns.nil _ _ _ _ _) A n c xs rfl (rowS_of (HR.out.below L21.out)) (by have := HN1.out; omega) L21.out.size ?_
                intro A5 a5 w22 ho hg hn
                rw [Nat.zero_add, List.nil_append] at ho
                rw [Nat.zero_add] at hn ⊢
                have hb : Below w21.heap.size w21 w22 := ⟨hg.os, hg.tape, hg.output, hg.size, fun i hi => hg.block i hi (by intro h; cases h)⟩
                have L22 := Lib.hid (L21.out.trans (hb.mono L21.out.size))
                have X22 := Lib.hid (Cells.below X21.out hb)
                have K22 := Lib.hid (Cells.below K21.out hb)
                have G22 := Lib.hid (Cells.below G21.out hb)
                have Z22 := Lib.hid (Z21.out.below hb)
                have Y22 := Lib.hid (fun z hz => (Y21.out z hz).below hb)
                have R22 := Lib.hid ho
                have AZ : Hid (Ap (.slice MA lm.length MC) (.slice A5 n a5)) := by
                  show Ap _ _
                  unfold Ap
                  rcases e1 : (Value.slice MA lm.length MC).ownBlock with _ | z
                  · exact .inl rfl
                  · refine .inr fun e2 => ?_
                    have h3 := (OwnS.Owns.lt Z21.out z e1).2
                    rcases hn with hn | hn
                    · rw [hn] at e2; cases e2
                    · rw [hn] at e2; injection e2 with e2; omega
                clear hb ho hg hn hHeld Z21 Y21
                clear L21 X21 K21 G21 
                refine hK.out _ _ (⟨Cells.cell X22.out 0, Cells.cell X22.out 1, Cells.cell X22.out 2, Cells.cell K22.out 1, Cells.cell K22.out 2, Cells.cell G22.out 0, Cells.cell G22.out 1, Cells.cell G22.out 2, Cells.cell G22.out 3, Cells.cell G22.out 4⟩) (fun hHeld => ?_)
                clear hK K
                (try simp only [Act.put, List.setIfInBounds_toArray, List.set_cons_zero, List.set_cons_succ])
                refine Reg.step 17 rfl (by kernel_rfl) (by rfl) (fun K hK => ?_)
                refine OwnS.wp_append1 fitR Try.underlying24 info_recP rfl (by omega) (.tmp 94) (.tmp 95) rfl rfl w.heap.size (.slice A5 n a5) n xs rfl R22.out A2 n2 c2 ys rfl (rowS_of (HR2.out.below L22.out)) (by have := HN1.out; have := HN2.out; omega) L22.out.size ?_
                intro A6 a6 w23 ho hg hn
                have cg : Chg 34 _ w22 w23 := Chg.own R22.out hg
                have L23 := Lib.hid (L22.out.trans (OwnS.below_row R22.out hg L22.out.size))
                have X23 := Lib.hid (cg.cells X22.out (by decide))
                have K23 := Lib.hid (cg.cells K22.out (by decide))
                have G23 := Lib.hid (cg.cells G22.out (by decide))
                have Z23 := Lib.hid (cg.owns_ne Z22.out AZ.out)
                have Y23 := Lib.hid (fun z hz => cg.ownI (Y22.out z hz) (by decide))
                have R23 := Lib.hid ho
                clear ho hg hn cg hHeld AZ Z22 Y22 R22
                clear L22 X22 K22 G22 
                refine hK.out _ _ (⟨Cells.cell X23.out 0, Cells.cell X23.out 1, Cells.cell X23.out 2, Cells.cell K23.out 1, Cells.cell K23.out 2, Cells.cell G23.out 0, Cells.cell G23.out 1, Cells.cell G23.out 2, Cells.cell G23.out 3, Cells.cell G23.out 4⟩) (fun hHeld => ?_)
                clear hK K
                (try simp only [Act.put, List.setIfInBounds_toArray, List.set_cons_zero, List.set_cons_succ])
                have hlm : lm.length ≤ 100000 := by rw [← HLM.out, List.length_append, HLN.out, HMN.out]; have := HN1.out; have := HN2.out; omega
                have hzd : ∀ z ∈ zs, Row cb w23 z.D z.r.data.length z.c z.r.data := fun z hz => (Wire.gave_row (Y23.out z hz) (by
                  have hm : z.r ∈ lm := by rw [← HZS.out]; exact List.mem_map_of_mem hz
                  have := (Seg.check_ok (HCA.out _ hm)).2
                  omega)).1
                have hr1 : RowR w23 MA lm.length MC zs := row_ownR Z23.out (by omega) hzd
                have hr2 : RowR w23 A6 (n + n2) a6 (xs ++ ys) := row_ownR R23.out (by have := HN1.out; have := HN2.out; omega) (fun x hx => by
                  rcases List.mem_append.1 hx with hx | hx
                  · exact (HR.out.data x hx).below L23.out
                  · exact (HR2.out.data x hx).below L23.out)
                have hln : n + n2 = lm.length := by rw [← HLM.out, List.length_append, HLN.out, HMN.out]
                have HSR : Hid (Calls Try.prog 16 #[.slice MA lm.length MC, .slice A6 (n + n2) a6] w23 fun e w' => e = .returned (.bool true) ∧ Below w23.heap.size w23 w') := by
                  have he : zs.map Rv.r = (xs ++ ys).map Rv.r := by rw [HZS.out, List.map_append, HL.out, HM.out, HLM.out]
                  rw [hln] at hr2 ⊢
                  exact Seg.sameRecs_any hr1 hr2 he
                clear hlm hzd hr1 hr2 hln
                refine Reg.step 18 rfl (by kernel_rfl) (by rfl) (fun K hK => ?_)
                go_simp
                refine HSR.out.mono ?_
                rintro e w24 ⟨rfl, hb⟩
                have L24 := Lib.hid (L23.out.trans (hb.mono L23.out.size))
                have X24 := Lib.hid (Cells.below X23.out hb)
                have K24 := Lib.hid (Cells.below K23.out hb)
                have G24 := Lib.hid (Cells.below G23.out hb)
                clear hb hHeld HSR Z23 Y23 R23
                clear L23 X23 K23 G23 
                refine hK.out _ _ (⟨Cells.cell X24.out 0, Cells.cell X24.out 1, Cells.cell X24.out 2, Cells.cell K24.out 1, Cells.cell K24.out 2, Cells.cell G24.out 0, Cells.cell G24.out 1, Cells.cell G24.out 2, Cells.cell G24.out 3, Cells.cell G24.out 4⟩) (fun hHeld => ?_)
                clear hK K
                (try simp only [Act.put, List.setIfInBounds_toArray, List.set_cons_zero, List.set_cons_succ])
                (first | (refine Reg.take 19 (v := ?_) rfl (by kernel_rfl) (by kernel_rfl) (by kernel_rfl) (fun _ _ _ h => h) (Or.inl ⟨by rfl, ?_⟩) (by assumption) ?_; rotate_left; (focus ((intro W hSW); (try dsimp only at hSW); (try go_split_ands); go_simp; (try (with_reducible rfl)); done))) | (refine Reg.take 19 (v := undef) rfl (by kernel_rfl) (by kernel_rfl) (by kernel_rfl) (fun _ _ _ h => h) (Or.inr ⟨by rfl, rfl⟩) (by assumption) ?_))
                (try simp only [Act.put, List.setIfInBounds_toArray, List.set_cons_zero, List.set_cons_succ])
                (first | (refine Reg.take 20 (v := ?_) rfl (by kernel_rfl) (by kernel_rfl) (by kernel_rfl) (fun _ _ _ h => h) (Or.inl ⟨by rfl, ?_⟩) (by assumption) ?_; rotate_left; (focus ((intro W hSW); (try dsimp only at hSW); (try go_split_ands); go_simp; (try (with_reducible rfl)); done))) | (refine Reg.take 20 (v := undef) rfl (by kernel_rfl) (by kernel_rfl) (by kernel_rfl) (fun _ _ _ h => h) (Or.inr ⟨by rfl, rfl⟩) (by assumption) ?_))
                (try simp only [Act.put, List.setIfInBounds_toArray, List.set_cons_zero, List.set_cons_succ])
                (first | (refine Reg.take 21 (v := ?_) rfl (by kernel_rfl) (by kernel_rfl) (by kernel_rfl) (fun _ _ _ h => h) (Or.inl ⟨by rfl, ?_⟩) (by assumption) ?_; rotate_left; (focus ((intro W hSW); (try dsimp only at hSW); (try go_split_ands); go_simp; (try (with_reducible rfl)); done))) | (refine Reg.take 21 (v := undef) rfl (by kernel_rfl) (by kernel_rfl) (by kernel_rfl) (fun _ _ _ h => h) (Or.inr ⟨by rfl, rfl⟩) (by assumption) ?_))
                (try simp only [Act.put, List.setIfInBounds_toArray, List.set_cons_zero, List.set_cons_succ])
                (first | (refine Reg.take 22 (v := ?_) rfl (by kernel_rfl) (by kernel_rfl) (by kernel_rfl) (fun _ _ _ h => h) (Or.inl ⟨by rfl, ?_⟩) (by assumption) ?_; rotate_left; (focus ((intro W hSW); (try dsimp only at hSW); (try go_split_ands); go_simp; (try (with_reducible rfl)); done))) | (refine Reg.take 22 (v := undef) rfl (by kernel_rfl) (by kernel_rfl) (by kernel_rfl) (fun _ _ _ h => h) (Or.inr ⟨by rfl, rfl⟩) (by assumption) ?_))
                (try simp only [Act.put, List.setIfInBounds_toArray, List.set_cons_zero, List.set_cons_succ])
                (first | (refine Reg.take 23 (v := ?_) rfl (by kernel_rfl) (by kernel_rfl) (by kernel_rfl) (fun _ _ _ h => h) (Or.inl ⟨by rfl, ?_⟩) (by assumption) ?_; rotate_left; (focus ((intro W hSW); (try dsimp only at hSW); (try go_split_ands); go_simp; (try (with_reducible rfl)); done))) | (refine Reg.take 23 (v := undef) rfl (by kernel_rfl) (by kernel_rfl) (by kernel_rfl) (fun _ _ _ h => h) (Or.inr ⟨by rfl, rfl⟩) (by assumption) ?_))
                (try simp only [Act.put, List.setIfInBounds_toArray, List.set_cons_zero, List.set_cons_succ])
                (first | (refine Reg.take 24 (v := ?_) rfl (by kernel_rfl) (by kernel_rfl) (by kernel_rfl) (fun _ _ _ h => h) (Or.inl ⟨by rfl, ?_⟩) (by assumption) ?_; rotate_left; (focus ((intro W hSW); (try dsimp only at hSW); (try go_split_ands); go_simp; (try (with_reducible rfl)); done))) | (refine Reg.take 24 (v := undef) rfl (by kernel_rfl) (by kernel_rfl) (by kernel_rfl) (fun _ _ _ h => h) (Or.inr ⟨by rfl, rfl⟩) (by assumption) ?_))
                (try simp only [Act.put, List.setIfInBounds_toArray, List.set_cons_zero, List.set_cons_succ])
                (first | (refine Reg.take 25 (v := ?_) rfl (by kernel_rfl) (by kernel_rfl) (by kernel_rfl) (fun _ _ _ h => h) (Or.inl ⟨by rfl, ?_⟩) (by assumption) ?_; rotate_left; (focus ((intro W hSW); (try dsimp only at hSW); (try go_split_ands); go_simp; (try (with_reducible rfl)); done))) | (refine Reg.take 25 (v := undef) rfl (by kernel_rfl) (by kernel_rfl) (by kernel_rfl) (fun _ _ _ h => h) (Or.inr ⟨by rfl, rfl⟩) (by assumption) ?_))
                (try simp only [Act.put, List.setIfInBounds_toArray, List.set_cons_zero, List.set_cons_succ])
                (first | (refine Reg.take 26 (v := ?_) rfl (by kernel_rfl) (by kernel_rfl) (by kernel_rfl) (fun _ _ _ h => h) (Or.inl ⟨by rfl, ?_⟩) (by assumption) ?_; rotate_left; (focus ((intro W hSW); (try dsimp only at hSW); (try go_split_ands); go_simp; (try (with_reducible rfl)); done))) | (refine Reg.take 26 (v := undef) rfl (by kernel_rfl) (by kernel_rfl) (by kernel_rfl) (fun _ _ _ h => h) (Or.inr ⟨by rfl, rfl⟩) (by assumption) ?_))
                (try simp only [Act.put, List.setIfInBounds_toArray, List.set_cons_zero, List.set_cons_succ])
                (first | (refine Reg.take 27 (v := ?_) rfl (by kernel_rfl) (by kernel_rfl) (by kernel_rfl) (fun _ _ _ h => h) (Or.inl ⟨by rfl, ?_⟩) (by assumption) ?_; rotate_left; (focus ((intro W hSW); (try dsimp only at hSW); (try go_split_ands); go_simp; (try (with_reducible rfl)); done))) | (refine Reg.take 27 (v := undef) rfl (by kernel_rfl) (by kernel_rfl) (by kernel_rfl) (fun _ _ _ h => h) (Or.inr ⟨by rfl, rfl⟩) (by assumption) ?_))
                (try simp only [Act.put, List.setIfInBounds_toArray, List.set_cons_zero, List.set_cons_succ])
                (first | (refine Reg.take 28 (v := ?_) rfl (by kernel_rfl) (by kernel_rfl) (by kernel_rfl) (fun _ _ _ h => h) (Or.inl ⟨by rfl, ?_⟩) (by assumption) ?_; rotate_left; (focus ((intro W hSW); (try dsimp only at hSW); (try go_split_ands); go_simp; (try (with_reducible rfl)); done))) | (refine Reg.take 28 (v := undef) rfl (by kernel_rfl) (by kernel_rfl) (by kernel_rfl) (fun _ _ _ h => h) (Or.inr ⟨by rfl, rfl⟩) (by assumption) ?_))
                (try simp only [Act.put, List.setIfInBounds_toArray, List.set_cons_zero, List.set_cons_succ])
                (first | (refine Reg.take 29 (v := ?_) rfl (by kernel_rfl) (by kernel_rfl) (by kernel_rfl) (fun _ _ _ h => h) (Or.inl ⟨by rfl, ?_⟩) (by assumption) ?_; rotate_left; (focus ((intro W hSW); (try dsimp only at hSW); (try go_split_ands); go_simp; (try (with_reducible rfl)); done))) | (refine Reg.take 29 (v := undef) rfl (by kernel_rfl) (by kernel_rfl) (by kernel_rfl) (fun _ _ _ h => h) (Or.inr ⟨by rfl, rfl⟩) (by assumption) ?_))
                (try simp only [Act.put, List.setIfInBounds_toArray, List.set_cons_zero, List.set_cons_succ])
                (first | (refine Reg.take 30 (v := ?_) rfl (by kernel_rfl) (by kernel_rfl) (by kernel_rfl) (fun _ _ _ h => h) (Or.inl ⟨by rfl, ?_⟩) (by assumption) ?_; rotate_left; (focus ((intro W hSW); (try dsimp only at hSW); (try go_split_ands); go_simp; (try (with_reducible rfl)); done))) | (refine Reg.take 30 (v := undef) rfl (by kernel_rfl) (by kernel_rfl) (by kernel_rfl) (fun _ _ _ h => h) (Or.inr ⟨by rfl, rfl⟩) (by assumption) ?_))
                (try simp only [Act.put, List.setIfInBounds_toArray, List.set_cons_zero, List.set_cons_succ])
                (first | (refine Reg.take 31 (v := ?_) rfl (by kernel_rfl) (by kernel_rfl) (by kernel_rfl) (fun _ _ _ h => h) (Or.inl ⟨by rfl, ?_⟩) (by assumption) ?_; rotate_left; (focus ((intro W hSW); (try dsimp only at hSW); (try go_split_ands); go_simp; (try (with_reducible rfl)); done))) | (refine Reg.take 31 (v := undef) rfl (by kernel_rfl) (by kernel_rfl) (by kernel_rfl) (fun _ _ _ h => h) (Or.inr ⟨by rfl, rfl⟩) (by assumption) ?_))
                (try simp only [Act.put, List.setIfInBounds_toArray, List.set_cons_zero, List.set_cons_succ])
                (first | (refine Reg.take 32 (v := ?_) rfl (by kernel_rfl) (by kernel_rfl) (by kernel_rfl) (fun _ _ _ h => h) (Or.inl ⟨by rfl, ?_⟩) (by assumption) ?_; rotate_left; (focus ((intro W hSW); (try dsimp only at hSW); (try go_split_ands); go_simp; (try (with_reducible rfl)); done))) | (refine Reg.take 32 (v := undef) rfl (by kernel_rfl) (by kernel_rfl) (by kernel_rfl) (fun _ _ _ h => h) (Or.inr ⟨by rfl, rfl⟩) (by assumption) ?_))
                (try simp only [Act.put, List.setIfInBounds_toArray, List.set_cons_zero, List.set_cons_succ])
                (first | (refine Reg.take 33 (v := ?_) rfl (by kernel_rfl) (by kernel_rfl) (by kernel_rfl) (fun _ _ _ h => h) (Or.inl ⟨by rfl, ?_⟩) (by assumption) ?_; rotate_left; (focus ((intro W hSW); (try dsimp only at hSW); (try go_split_ands); go_simp; (try (with_reducible rfl)); done))) | (refine Reg.take 33 (v := undef) rfl (by kernel_rfl) (by kernel_rfl) (by kernel_rfl) (fun _ _ _ h => h) (Or.inr ⟨by rfl, rfl⟩) (by assumption) ?_))
                (try simp only [Act.put, List.setIfInBounds_toArray, List.set_cons_zero, List.set_cons_succ])
                (first | (refine Reg.take 34 (v := ?_) rfl (by kernel_rfl) (by kernel_rfl) (by kernel_rfl) (fun _ _ _ h => h) (Or.inl ⟨by rfl, ?_⟩) (by assumption) ?_; rotate_left; (focus ((intro W hSW); (try dsimp only at hSW); (try go_split_ands); go_simp; (try (with_reducible rfl)); done))) | (refine Reg.take 34 (v := undef) rfl (by kernel_rfl) (by kernel_rfl) (by kernel_rfl) (fun _ _ _ h => h) (Or.inr ⟨by rfl, rfl⟩) (by assumption) ?_))
                (try simp only [Act.put, List.setIfInBounds_toArray, List.set_cons_zero, List.set_cons_succ])
                (first | (refine Reg.take 35 (v := ?_) rfl (by kernel_rfl) (by kernel_rfl) (by kernel_rfl) (fun _ _ _ h => h) (Or.inl ⟨by rfl, ?_⟩) (by assumption) ?_; rotate_left; (focus ((intro W hSW); (try dsimp only at hSW); (try go_split_ands); go_simp; (try (with_reducible rfl)); done))) | (refine Reg.take 35 (v := undef) rfl (by kernel_rfl) (by kernel_rfl) (by kernel_rfl) (fun _ _ _ h => h) (Or.inr ⟨by rfl, rfl⟩) (by assumption) ?_))
                (try simp only [Act.put, List.setIfInBounds_toArray, List.set_cons_zero, List.set_cons_succ])
                (first | (refine Reg.take 36 (v := ?_) rfl (by kernel_rfl) (by kernel_rfl) (by kernel_rfl) (fun _ _ _ h => h) (Or.inl ⟨by rfl, ?_⟩) (by assumption) ?_; rotate_left; (focus ((intro W hSW); (try dsimp only at hSW); (try go_split_ands); go_simp; (try (with_reducible rfl)); done))) | (refine Reg.take 36 (v := undef) rfl (by kernel_rfl) (by kernel_rfl) (by kernel_rfl) (fun _ _ _ h => h) (Or.inr ⟨by rfl, rfl⟩) (by assumption) ?_))
                (try simp only [Act.put, List.setIfInBounds_toArray, List.set_cons_zero, List.set_cons_succ])
                refine wpAnyH_done (by kernel_rfl) ?_ _
                clear hHeld
                go_wp2_with fail
                go_ret
                exact ⟨rfl, L24.out⟩
            · have hdl : decide (0 < n2) = true := by rw [decide_eq_true_eq]; omega
              have hb0 : 0 < V.p.buf.length := by
                have h1 := frames_ge m
                have h2 := HMN.out
                rw [HVB.out]
                omega
              have HFL := Lib.hid (flush_some (V11.out.any OKV.out) OKV.out hb0)
              clear h0 hb0
              unfold pxv at HFL
              go_upto_region 15 with (go_at_call 15; refine HFL.out.mono ?_; rintro e w12 ⟨C, cd, Z, rfl, hZ, hO, hC, hb⟩; have L12 := Lib.hid (L11.out.trans (hb.mono L11.out.size)); have X12 := Lib.hid (Cells.below X11.out hb); have B12 := Lib.hid (Mem.Owns.below B11.out hb); have C12 := Lib.hid (hC.mono L11.out.size); clear hC; clear L11 X11 B11 hb hZ hO k0 k1 k2 k3 k4 k5 k6 k7 HFL Q11 V11; unfold pxv)
              have BB : Below w12.heap.size w12 ((w12.alloc (.cells #[.int .i64 1, .int .i64 V.p.zone, .int .i64 V.p.h.epoch, .int .i64 0, .int .i64 0, .slice C V.p.buf.length cd] 48)).alloc (.cells #[.int .i64 Z.p.h.host, .int .i64 Z.p.h.epoch, .int .i64 Z.p.h.seq, .int .i64 Z.p.zone, .int .i64 Z.p.cap, .int .i64 Z.p.at_, .slice Z.B Z.p.buf.length Z.bc, .slice Z.L Z.p.l.length Z.lc] 29)) := ((Below.refl _ w12).alloc (Nat.le_refl _) _).alloc (by simp) _
              have K13 : Hid (Cells ((w12.alloc (.cells #[.int .i64 1, .int .i64 V.p.zone, .int .i64 V.p.h.epoch, .int .i64 0, .int .i64 0, .slice C V.p.buf.length cd] 48)).alloc (.cells #[.int .i64 Z.p.h.host, .int .i64 Z.p.h.epoch, .int .i64 Z.p.h.seq, .int .i64 Z.p.zone, .int .i64 Z.p.cap, .int .i64 Z.p.at_, .slice Z.B Z.p.buf.length Z.bc, .slice Z.L Z.p.l.length Z.lc] 29)) w12.heap.size 48 #[.int .i64 1, .int .i64 V.p.zone, .int .i64 V.p.h.epoch, .int .i64 0, .int .i64 0, .slice C V.p.buf.length cd]) := Lib.hid (Cells.alloc (Cells.new _ _ _) _)
              have L13 := Lib.hid (L12.out.trans (BB.mono L12.out.size))
              have X13 := Lib.hid (Cells.below X12.out BB)
              have B13 := Lib.hid (Mem.Owns.below B12.out BB)
              have C13 := Lib.hid (Mem.Owns.below C12.out BB)
              clear L12 X12 B12 C12 BB
              generalize (w12.alloc (.cells #[.int .i64 1, .int .i64 V.p.zone, .int .i64 V.p.h.epoch, .int .i64 0, .int .i64 0, .slice C V.p.buf.length cd] 48)).alloc (.cells #[.int .i64 Z.p.h.host, .int .i64 Z.p.h.epoch, .int .i64 Z.p.h.seq, .int .i64 Z.p.zone, .int .i64 Z.p.cap, .int .i64 Z.p.at_, .slice Z.B Z.p.buf.length Z.bc, .slice Z.L Z.p.l.length Z.lc] 29) = w13 at *
              generalize w12.heap.size = kb at *
              obtain ⟨c0, c1, c2, c3, c4, c5⟩ := six_cells K13.out
              go_upto_region 17 with fail
              clear c0 c1 c2 c3 c4 c5
              have HVL : Hid ((frames m).length ≤ 60000) := by
                have h1 := OKV.out.room
                have h2 := OKV.out.at0
                have h3 : V.p.cap = 60000 := by rw [HV.out]; show Y.p.cap = _; rw [HP.out]
                rw [HVB.out] at h1
                show _ ≤ _
                omega
              have HVN : Hid (V.p.buf.length ≤ 60000) := by
                have h1 := HVL.out
                show _ ≤ _
                rw [HVB.out]
                exact h1
              have HCA : Hid (∀ r ∈ lm, check r = 0) := Lib.hid fun r hr => by
                rw [← HLM.out] at hr
                rcases List.mem_append.1 hr with hr | hr
                · exact HCK.out r hr
                · exact errB_zero HE.out r hr
              have HGA : Hid (goods lm) := Lib.hid fun r hr => by
                rw [← HLM.out] at hr
                rcases List.mem_append.1 hr with hr | hr
                · exact HG.out r hr
                · exact HG2.out r hr
              go_cut [18] from 73 to 79 (fun s wx => ∃ (xb : Nat) (MA : Option Addr) (MC : Nat) (NA : Option Addr) (NC : Nat) (zs : List Rv), s = .pointer (some ⟨xb, 0, none⟩) ∧ Hid (Below w.heap.size w wx) ∧ Hid (Cells wx w.heap.size 23 #[.int .i64 h.host, .int .i64 h.epoch, .int .i64 h.seq]) ∧ Hid (Cells wx kb 48 #[.int .i64 1, .int .i64 V.p.zone, .int .i64 V.p.h.epoch, .int .i64 0, .int .i64 0, .slice C V.p.buf.length cd]) ∧ Hid (Cells wx xb 44 #[.bool true, .int .i64 h.host, .int .i64 h.epoch, .int .i64 h.seq, .slice MA lm.length MC, .slice NA lm.length NC, .int .i64 UU]) ∧ Hid (OwnRs w.heap.size wx MA lm.length MC zs) ∧ Hid (∀ z ∈ zs, OwnB1 w.heap.size wx z.D z.c z.r.data) ∧ Hid (zs.map Rv.r = lm))
              case first =>
                have L14 := Lib.hid L13.out.drew
                have X14 := Lib.hid (Cells.below X13.out ((Below.refl _ w13).drew))
                have B14 := Lib.hid (Mem.Owns.below B13.out ((Below.refl _ w13).drew))
                have K14 := Lib.hid (Cells.below K13.out ((Below.refl _ w13).drew))
                have C14 := Lib.hid (Mem.Owns.below C13.out ((Below.refl _ w13).drew))
                refine wp_region_held_drew (S := fun W => W.cell? ⟨kb, 5, none⟩ = some (.slice C V.p.buf.length cd)) (by kernel_rfl) (Cells.cell K14.out 5) (fun hHeld => ?_)
                generalize w13.drew = w14 at *
                clear L13 X13 B13 K13 C13 
                (first | (refine Reg.take 0 (v := ?_) rfl (by kernel_rfl) (by kernel_rfl) (by kernel_rfl) (fun _ _ _ h => h) (Or.inl ⟨by rfl, ?_⟩) (by assumption) ?_; rotate_left; (focus ((intro W hSW); (try dsimp only at hSW); (try go_split_ands); go_simp; (try (with_reducible rfl)); done))) | (refine Reg.take 0 (v := undef) rfl (by kernel_rfl) (by kernel_rfl) (by kernel_rfl) (fun _ _ _ h => h) (Or.inr ⟨by rfl, rfl⟩) (by assumption) ?_))
                (try simp only [Act.put, List.setIfInBounds_toArray, List.set_cons_zero, List.set_cons_succ])
                (first | (refine Reg.take 2 (v := ?_) rfl (by kernel_rfl) (by kernel_rfl) (by kernel_rfl) (fun _ _ _ h => h) (Or.inl ⟨by rfl, ?_⟩) (by assumption) ?_; rotate_left; (focus ((intro W hSW); (try dsimp only at hSW); (try go_split_ands); go_simp; (try (with_reducible rfl)); done))) | (refine Reg.take 2 (v := undef) rfl (by kernel_rfl) (by kernel_rfl) (by kernel_rfl) (fun _ _ _ h => h) (Or.inr ⟨by rfl, rfl⟩) (by assumption) ?_))
                (try simp only [Act.put, List.setIfInBounds_toArray, List.set_cons_zero, List.set_cons_succ])
                (first | (refine Reg.take 3 (v := ?_) rfl (by kernel_rfl) (by kernel_rfl) (by kernel_rfl) (fun _ _ _ h => h) (Or.inl ⟨by rfl, ?_⟩) (by assumption) ?_; rotate_left; (focus ((intro W hSW); (try dsimp only at hSW); (try go_split_ands); go_simp; (try (with_reducible rfl)); done))) | (refine Reg.take 3 (v := undef) rfl (by kernel_rfl) (by kernel_rfl) (by kernel_rfl) (fun _ _ _ h => h) (Or.inr ⟨by rfl, rfl⟩) (by assumption) ?_))
                (try simp only [Act.put, List.setIfInBounds_toArray, List.set_cons_zero, List.set_cons_succ])
                refine Reg.step2 1 6 rfl rfl (by kernel_rfl) (by rfl) (by rfl) (fun K hK => ?_) (fun K hK => ?_)
                · skip
                  refine OwnS.wp_append1 (OwnB.fit1 cb_one) Try.underlying27 info_byte rfl (by omega) (.const (.slice none 0 0)) (.tmp 73) rfl rfl w.heap.size (.slice none 0 0) 0 [] rfl (OwnS.Owns.nil _ _ _ _ _) X bs.length d bs rfl (OwnB.row_to (Wire.gave_row B14.out (by have := HBL.out; omega)).1) (by have := HBL.out; omega) L14.out.size ?_
                  intro A1 a1 w15 ho hg hn
                  rw [Nat.zero_add, List.nil_append] at ho
                  rw [Nat.zero_add] at hn ⊢
                  have hb : Below w14.heap.size w14 w15 := ⟨hg.os, hg.tape, hg.output, hg.size, fun i hi => hg.block i hi (by intro h; cases h)⟩
                  have L15 := Lib.hid (L14.out.trans (hb.mono L14.out.size))
                  have X15 := Lib.hid (Cells.below X14.out hb)
                  have B15 := Lib.hid (Mem.Owns.below B14.out hb)
                  have K15 := Lib.hid (Cells.below K14.out hb)
                  have C15 := Lib.hid (Mem.Owns.below C14.out hb)
                  have D15 := Lib.hid (OwnB.back ho)
                  have AC : Hid (Ap (.slice C V.p.buf.length cd) (.slice A1 bs.length a1)) := by
                    show Ap _ _
                    unfold Ap
                    rcases e1 : (Value.slice C V.p.buf.length cd).ownBlock with _ | z
                    · exact .inl rfl
                    · refine .inr fun e2 => ?_
                      have h3 := (OwnB.owns_lt C14.out z e1).2
                      rcases hn with hn | hn
                      · rw [hn] at e2; cases e2
                      · rw [hn] at e2; injection e2 with e2; omega
                  clear hb hHeld ho hg hn
                  clear L14 X14 B14 K14 C14 
                  refine hK.out _ _ (Cells.cell K15.out 5) (fun hHeld => ?_)
                  clear hK K
                  (try simp only [Act.put, List.setIfInBounds_toArray, List.set_cons_zero, List.set_cons_succ])
                  clear B15
                  refine Reg.step2 4 6 rfl rfl (by kernel_rfl) (by rfl) (by rfl) (fun K hK => ?_) (fun K hK => ?_)
                  · skip
                    refine OwnS.wp_append1 (OwnB.fit1 cb_one) Try.underlying27 info_byte rfl (by omega) (.tmp 74) (.tmp 76) rfl rfl w.heap.size (.slice A1 bs.length a1) bs.length bs rfl (OwnB.to D15.out) C V.p.buf.length cd V.p.buf rfl (OwnB.row_to (Wire.gave_row C15.out (by have := HVL.out; have := HVN.out; omega)).1) (by have := HBL.out; have := HVN.out; omega) L15.out.size ?_
                    intro A3 a3 w16 ho hg hn
                    have cg : Chg 5 _ w15 w16 := Chg.own (OwnB.to D15.out) hg
                    have L16 := Lib.hid (L15.out.trans (OwnS.below_row (OwnB.to D15.out) hg L15.out.size))
                    have X16 := Lib.hid (cg.cells X15.out (by decide))
                    have K16 := Lib.hid (cg.cells K15.out (by decide))
                    have D16 := Lib.hid (OwnB.back ho)
                    clear ho hg hn cg hHeld
                    clear L15 X15 K15 C15 D15 
                    refine hK.out _ _ (Cells.cell K16.out 5) (fun hHeld => ?_)
                    clear hK K
                    (try simp only [Act.put, List.setIfInBounds_toArray, List.set_cons_zero, List.set_cons_succ])
                    refine Reg.step2 5 6 rfl rfl (by kernel_rfl) (by rfl) (by rfl) (fun K hK => ?_) (fun K hK => ?_)
                    · skip
                      go_simp
                      refine (scan_own (U := UU) HUU.out (h := h) (l := lm) (b := frames l ++ frames m) (by rw [← List.append_assoc, ← HBS.out, ← HVB.out]; exact (Wire.gave_row D16.out (by rw [List.length_append]; have := HBL.out; have := HVL.out; have := HVN.out; omega)).1) (by have := HBL.out; have := HVN.out; omega) HF.out HNN.out (by rw [← Seg.frames_append, HLM.out]; exact scans_all HCA.out HGA.out)).mono ?_
                      rintro e w17 ⟨zs, MA, MC, NA, NC, rfl, hZR, hZD, hzs, hb⟩
                      have L17 := Lib.hid (L16.out.trans (hb.mono L16.out.size))
                      have X17 := Lib.hid (Cells.below X16.out hb)
                      have K17 := Lib.hid (Cells.below K16.out hb)
                      have D17 := Lib.hid (Mem.Owns.below D16.out hb)
                      have Z17 := Lib.hid (hZR.mono L16.out.size)
                      have Y17 := Lib.hid (fun z hz => (hZD z hz).mono L16.out.size)
                      have HZS := Lib.hid hzs
                      clear hb hHeld hZR hZD hzs
                      clear L16 X16 K16 D16 
                      clear D17
                      refine hK.out _ _ (Cells.cell K17.out 5) (fun hHeld => ?_)
                      clear hK K
                      (try simp only [Act.put, List.setIfInBounds_toArray, List.set_cons_zero, List.set_cons_succ])
                      refine Reg.step 6 rfl (by kernel_rfl) (by rfl) (fun K hK => ?_)
                      go_simp
                      have bb : Below w17.heap.size w17 (w17.alloc (.cells #[.bool false, .int .i64 0, .int .i64 0, .int .i64 0, .slice none 0 0, .slice none 0 0, .int .i64 0] 44)) := (Below.refl _ w17).alloc (Nat.le_refl _) _
                      have G18 : Hid (Cells (w17.alloc (.cells #[.bool false, .int .i64 0, .int .i64 0, .int .i64 0, .slice none 0 0, .slice none 0 0, .int .i64 0] 44)) w17.heap.size 44 #[.bool false, .int .i64 0, .int .i64 0, .int .i64 0, .slice none 0 0, .slice none 0 0, .int .i64 0]) := Cells.new _ _ _
                      have L18 := Lib.hid (L17.out.trans (bb.mono L17.out.size))
                      have X18 := Lib.hid (Cells.below X17.out bb)
                      have K18 := Lib.hid (Cells.below K17.out bb)
                      have Z18 := Lib.hid (Z17.out.below bb)
                      have Y18 := Lib.hid (fun z hz => (Y17.out z hz).below bb)
                      clear Z17 Y17
                      have GX : Hid (w.heap.size ≤ w17.heap.size ∧ w.heap.size ≠ w17.heap.size ∧ kb ≠ w17.heap.size) := ⟨L17.out.size, by have := Cells.lt X17.out; omega, by have := Cells.lt K17.out; omega⟩
                      clear bb hHeld
                      clear L17 X17 K17 
                      generalize w17.alloc (.cells #[.bool false, .int .i64 0, .int .i64 0, .int .i64 0, .slice none 0 0, .slice none 0 0, .int .i64 0] 44) = w18 at *
                      generalize w17.heap.size = xb at *
                      refine hK.out _ _ (Cells.cell K18.out 5) (fun hHeld => ?_)
                      clear hK K
                      (try simp only [Act.put, List.setIfInBounds_toArray, List.set_cons_zero, List.set_cons_succ])
                      have y0 := Cells.cell G18.out 0
                      have f0 := Cells.frozen G18.out 0
                      have y1 := Cells.cell G18.out 1
                      have f1 := Cells.frozen G18.out 1
                      have y2 := Cells.cell G18.out 2
                      have f2 := Cells.frozen G18.out 2
                      have y3 := Cells.cell G18.out 3
                      have f3 := Cells.frozen G18.out 3
                      have y4 := Cells.cell G18.out 4
                      have f4 := Cells.frozen G18.out 4
                      have y5 := Cells.cell G18.out 5
                      have f5 := Cells.frozen G18.out 5
                      have y6 := Cells.cell G18.out 6
                      have f6 := Cells.frozen G18.out 6
                      refine Reg.step 7 rfl (by kernel_rfl) (by rfl) (fun K hK => ?_)
                      go_simp
                      have bt := mov7 w18 xb (.bool true) (.int .i64 h.host) (.int .i64 h.epoch) (.int .i64 h.seq) (.slice MA lm.length MC) (.slice NA lm.length NC) (.int .i64 UU)
                      unfold set7W at bt
                      have cg := Chg.mov G18.out bt
                      have L19 := Lib.hid (L18.out.trans (bt.up L18.out.size GX.out.1))
                      have X19 := Lib.hid (cg.cells X18.out (by decide))
                      have K19 := Lib.hid (cg.cells K18.out (by decide))
                      have G19 : Hid (Cells _ xb 44 #[.bool true, .int .i64 h.host, .int .i64 h.epoch, .int .i64 h.seq, .slice MA lm.length MC, .slice NA lm.length NC, .int .i64 UU]) := Lib.hid (set7 G18.out (.bool true) (.int .i64 h.host) (.int .i64 h.epoch) (.int .i64 h.seq) (.slice MA lm.length MC) (.slice NA lm.length NC) (.int .i64 UU))
                      unfold set7W at G19
                      have Z19 := Lib.hid (cg.owns Z18.out (by decide))
                      have Y19 := Lib.hid (fun z hz => cg.ownI (Y18.out z hz) (by decide))
                      clear bt cg hHeld y0 f0 y1 f1 y2 f2 y3 f3 y4 f4 y5 f5 y6 f6 L18 X18 K18 G18 Z18 Y18
                      generalize ((((((w18.setCell ⟨xb, 0, none⟩ (.bool true)).setCell ⟨xb, 1, none⟩ (.int .i64 h.host)).setCell ⟨xb, 2, none⟩ (.int .i64 h.epoch)).setCell ⟨xb, 3, none⟩ (.int .i64 h.seq)).setCell ⟨xb, 4, none⟩ (.slice MA lm.length MC)).setCell ⟨xb, 5, none⟩ (.slice NA lm.length NC)).setCell ⟨xb, 6, none⟩ (.int .i64 UU) = w19 at *
                      refine hK.out _ _ (Cells.cell K19.out 5) (fun hHeld => ?_)
                      clear hK K
                      (try simp only [Act.put, List.setIfInBounds_toArray, List.set_cons_zero, List.set_cons_succ])
                      refine wpAnyH_done (by kernel_rfl) ?_ _
                      clear hHeld
                      go_wp2_with fail
                      go_meet
                      exact ⟨xb, MA, MC, NA, NC, zs, rfl, L19, X19, K19, G19, Z19, Y19, HZS⟩
                    · skip
                      go_simp
                      have bb : Below w16.heap.size w16 (w16.alloc (.cells #[.bool false, .int .i64 0, .int .i64 0, .int .i64 0, .slice none 0 0, .slice none 0 0, .int .i64 0] 44)) := (Below.refl _ w16).alloc (Nat.le_refl _) _
                      have G17 : Hid (Cells (w16.alloc (.cells #[.bool false, .int .i64 0, .int .i64 0, .int .i64 0, .slice none 0 0, .slice none 0 0, .int .i64 0] 44)) w16.heap.size 44 #[.bool false, .int .i64 0, .int .i64 0, .int .i64 0, .slice none 0 0, .slice none 0 0, .int .i64 0]) := Cells.new _ _ _
                      have L17 := Lib.hid (L16.out.trans (bb.mono L16.out.size))
                      have X17 := Lib.hid (Cells.below X16.out bb)
                      have K17 := Lib.hid (Cells.below K16.out bb)
                      have D17 := Lib.hid (Mem.Owns.below D16.out bb)
                      have GX : Hid (w.heap.size ≤ w16.heap.size ∧ w.heap.size ≠ w16.heap.size ∧ kb ≠ w16.heap.size) := ⟨L16.out.size, by have := Cells.lt X16.out; omega, by have := Cells.lt K16.out; omega⟩
                      clear bb hHeld
                      clear L16 X16 K16 D16 
                      generalize w16.alloc (.cells #[.bool false, .int .i64 0, .int .i64 0, .int .i64 0, .slice none 0 0, .slice none 0 0, .int .i64 0] 44) = w17 at *
                      generalize w16.heap.size = xb at *
                      refine hK.out _ _ (Cells.cell K17.out 5) (fun hHeld => ?_)
                      clear hK K
                      (try simp only [Act.put, List.setIfInBounds_toArray, List.set_cons_zero, List.set_cons_succ])
                      refine Reg.step 5 rfl (by kernel_rfl) (by rfl) (fun K hK => ?_)
                      go_simp
                      refine (scan_own (U := UU) HUU.out (h := h) (l := lm) (b := frames l ++ frames m) (by rw [← List.append_assoc, ← HBS.out, ← HVB.out]; exact (Wire.gave_row D17.out (by rw [List.length_append]; have := HBL.out; have := HVL.out; have := HVN.out; omega)).1) (by have := HBL.out; have := HVN.out; omega) HF.out HNN.out (by rw [← Seg.frames_append, HLM.out]; exact scans_all HCA.out HGA.out)).mono ?_
                      rintro e w18 ⟨zs, MA, MC, NA, NC, rfl, hZR, hZD, hzs, hb⟩
                      have L18 := Lib.hid (L17.out.trans (hb.mono L17.out.size))
                      have X18 := Lib.hid (Cells.below X17.out hb)
                      have K18 := Lib.hid (Cells.below K17.out hb)
                      have D18 := Lib.hid (Mem.Owns.below D17.out hb)
                      have G18 := Lib.hid (Cells.below G17.out hb)
                      have Z18 := Lib.hid (hZR.mono L17.out.size)
                      have Y18 := Lib.hid (fun z hz => (hZD z hz).mono L17.out.size)
                      have HZS := Lib.hid hzs
                      clear hb hHeld hZR hZD hzs
                      clear L17 X17 K17 D17 G17 
                      clear D18
                      refine hK.out _ _ (Cells.cell K18.out 5) (fun hHeld => ?_)
                      clear hK K
                      (try simp only [Act.put, List.setIfInBounds_toArray, List.set_cons_zero, List.set_cons_succ])
                      have y0 := Cells.cell G18.out 0
                      have f0 := Cells.frozen G18.out 0
                      have y1 := Cells.cell G18.out 1
                      have f1 := Cells.frozen G18.out 1
                      have y2 := Cells.cell G18.out 2
                      have f2 := Cells.frozen G18.out 2
                      have y3 := Cells.cell G18.out 3
                      have f3 := Cells.frozen G18.out 3
                      have y4 := Cells.cell G18.out 4
                      have f4 := Cells.frozen G18.out 4
                      have y5 := Cells.cell G18.out 5
                      have f5 := Cells.frozen G18.out 5
                      have y6 := Cells.cell G18.out 6
                      have f6 := Cells.frozen G18.out 6
                      refine Reg.step 7 rfl (by kernel_rfl) (by rfl) (fun K hK => ?_)
                      go_simp
                      have bt := mov7 w18 xb (.bool true) (.int .i64 h.host) (.int .i64 h.epoch) (.int .i64 h.seq) (.slice MA lm.length MC) (.slice NA lm.length NC) (.int .i64 UU)
                      unfold set7W at bt
                      have cg := Chg.mov G18.out bt
                      have L19 := Lib.hid (L18.out.trans (bt.up L18.out.size GX.out.1))
                      have X19 := Lib.hid (cg.cells X18.out (by decide))
                      have K19 := Lib.hid (cg.cells K18.out (by decide))
                      have G19 : Hid (Cells _ xb 44 #[.bool true, .int .i64 h.host, .int .i64 h.epoch, .int .i64 h.seq, .slice MA lm.length MC, .slice NA lm.length NC, .int .i64 UU]) := Lib.hid (set7 G18.out (.bool true) (.int .i64 h.host) (.int .i64 h.epoch) (.int .i64 h.seq) (.slice MA lm.length MC) (.slice NA lm.length NC) (.int .i64 UU))
                      unfold set7W at G19
                      have Z19 := Lib.hid (cg.owns Z18.out (by decide))
                      have Y19 := Lib.hid (fun z hz => cg.ownI (Y18.out z hz) (by decide))
                      clear bt cg hHeld y0 f0 y1 f1 y2 f2 y3 f3 y4 f4 y5 f5 y6 f6 L18 X18 K18 G18 Z18 Y18
                      generalize ((((((w18.setCell ⟨xb, 0, none⟩ (.bool true)).setCell ⟨xb, 1, none⟩ (.int .i64 h.host)).setCell ⟨xb, 2, none⟩ (.int .i64 h.epoch)).setCell ⟨xb, 3, none⟩ (.int .i64 h.seq)).setCell ⟨xb, 4, none⟩ (.slice MA lm.length MC)).setCell ⟨xb, 5, none⟩ (.slice NA lm.length NC)).setCell ⟨xb, 6, none⟩ (.int .i64 UU) = w19 at *
                      refine hK.out _ _ (Cells.cell K19.out 5) (fun hHeld => ?_)
                      clear hK K
                      (try simp only [Act.put, List.setIfInBounds_toArray, List.set_cons_zero, List.set_cons_succ])
                      refine wpAnyH_done (by kernel_rfl) ?_ _
                      clear hHeld
                      go_wp2_with fail
                      go_meet
                      exact ⟨xb, MA, MC, NA, NC, zs, rfl, L19, X19, K19, G19, Z19, Y19, HZS⟩
                  · skip
                    go_simp
                    have bb : Below w15.heap.size w15 (w15.alloc (.cells #[.bool false, .int .i64 0, .int .i64 0, .int .i64 0, .slice none 0 0, .slice none 0 0, .int .i64 0] 44)) := (Below.refl _ w15).alloc (Nat.le_refl _) _
                    have G16 : Hid (Cells (w15.alloc (.cells #[.bool false, .int .i64 0, .int .i64 0, .int .i64 0, .slice none 0 0, .slice none 0 0, .int .i64 0] 44)) w15.heap.size 44 #[.bool false, .int .i64 0, .int .i64 0, .int .i64 0, .slice none 0 0, .slice none 0 0, .int .i64 0]) := Cells.new _ _ _
                    have L16 := Lib.hid (L15.out.trans (bb.mono L15.out.size))
                    have X16 := Lib.hid (Cells.below X15.out bb)
                    have K16 := Lib.hid (Cells.below K15.out bb)
                    have C16 := Lib.hid (Mem.Owns.below C15.out bb)
                    have D16 := Lib.hid (Mem.Owns.below D15.out bb)
                    have GX : Hid (w.heap.size ≤ w15.heap.size ∧ w.heap.size ≠ w15.heap.size ∧ kb ≠ w15.heap.size) := ⟨L15.out.size, by have := Cells.lt X15.out; omega, by have := Cells.lt K15.out; omega⟩
                    clear bb hHeld
                    clear L15 X15 K15 C15 D15 
                    generalize w15.alloc (.cells #[.bool false, .int .i64 0, .int .i64 0, .int .i64 0, .slice none 0 0, .slice none 0 0, .int .i64 0] 44) = w16 at *
                    generalize w15.heap.size = xb at *
                    refine hK.out _ _ (Cells.cell K16.out 5) (fun hHeld => ?_)
                    clear hK K
                    (try simp only [Act.put, List.setIfInBounds_toArray, List.set_cons_zero, List.set_cons_succ])
                    refine Reg.step 4 rfl (by kernel_rfl) (by rfl) (fun K hK => ?_)
                    refine OwnS.wp_append1 (OwnB.fit1 cb_one) Try.underlying27 info_byte rfl (by omega) (.tmp 74) (.tmp 76) rfl rfl w.heap.size (.slice A1 bs.length a1) bs.length bs rfl (OwnB.to D16.out) C V.p.buf.length cd V.p.buf rfl (OwnB.row_to (Wire.gave_row C16.out (by have := HVL.out; have := HVN.out; omega)).1) (by have := HBL.out; have := HVN.out; omega) L16.out.size ?_
                    intro A3 a3 w17 ho hg hn
                    have cg : Chg 5 _ w16 w17 := Chg.own (OwnB.to D16.out) hg
                    have L17 := Lib.hid (L16.out.trans (OwnS.below_row (OwnB.to D16.out) hg L16.out.size))
                    have X17 := Lib.hid (cg.cells X16.out (by decide))
                    have K17 := Lib.hid (cg.cells K16.out (by decide))
                    have G17 := Lib.hid (cg.cells G16.out (by decide))
                    have D17 := Lib.hid (OwnB.back ho)
                    clear ho hg hn cg hHeld
                    clear L16 X16 K16 C16 D16 G16 
                    refine hK.out _ _ (Cells.cell K17.out 5) (fun hHeld => ?_)
                    clear hK K
                    (try simp only [Act.put, List.setIfInBounds_toArray, List.set_cons_zero, List.set_cons_succ])
                    refine Reg.step 5 rfl (by kernel_rfl) (by rfl) (fun K hK => ?_)
                    go_simp
                    refine (scan_own (U := UU) HUU.out (h := h) (l := lm) (b := frames l ++ frames m) (by rw [← List.append_assoc, ← HBS.out, ← HVB.out]; exact (Wire.gave_row D17.out (by rw [List.length_append]; have := HBL.out; have := HVL.out; have := HVN.out; omega)).1) (by have := HBL.out; have := HVN.out; omega) HF.out HNN.out (by rw [← Seg.frames_append, HLM.out]; exact scans_all HCA.out HGA.out)).mono ?_
                    rintro e w18 ⟨zs, MA, MC, NA, NC, rfl, hZR, hZD, hzs, hb⟩
                    have L18 := Lib.hid (L17.out.trans (hb.mono L17.out.size))
                    have X18 := Lib.hid (Cells.below X17.out hb)
                    have K18 := Lib.hid (Cells.below K17.out hb)
                    have D18 := Lib.hid (Mem.Owns.below D17.out hb)
                    have G18 := Lib.hid (Cells.below G17.out hb)
                    have Z18 := Lib.hid (hZR.mono L17.out.size)
                    have Y18 := Lib.hid (fun z hz => (hZD z hz).mono L17.out.size)
                    have HZS := Lib.hid hzs
                    clear hb hHeld hZR hZD hzs
                    clear L17 X17 K17 D17 G17 
                    clear D18
                    refine hK.out _ _ (Cells.cell K18.out 5) (fun hHeld => ?_)
                    clear hK K
                    (try simp only [Act.put, List.setIfInBounds_toArray, List.set_cons_zero, List.set_cons_succ])
                    have y0 := Cells.cell G18.out 0
                    have f0 := Cells.frozen G18.out 0
                    have y1 := Cells.cell G18.out 1
                    have f1 := Cells.frozen G18.out 1
                    have y2 := Cells.cell G18.out 2
                    have f2 := Cells.frozen G18.out 2
                    have y3 := Cells.cell G18.out 3
                    have f3 := Cells.frozen G18.out 3
                    have y4 := Cells.cell G18.out 4
                    have f4 := Cells.frozen G18.out 4
                    have y5 := Cells.cell G18.out 5
                    have f5 := Cells.frozen G18.out 5
                    have y6 := Cells.cell G18.out 6
                    have f6 := Cells.frozen G18.out 6
                    refine Reg.step 7 rfl (by kernel_rfl) (by rfl) (fun K hK => ?_)
                    go_simp
                    have bt := mov7 w18 xb (.bool true) (.int .i64 h.host) (.int .i64 h.epoch) (.int .i64 h.seq) (.slice MA lm.length MC) (.slice NA lm.length NC) (.int .i64 UU)
                    unfold set7W at bt
                    have cg := Chg.mov G18.out bt
                    have L19 := Lib.hid (L18.out.trans (bt.up L18.out.size GX.out.1))
                    have X19 := Lib.hid (cg.cells X18.out (by decide))
                    have K19 := Lib.hid (cg.cells K18.out (by decide))
                    have G19 : Hid (Cells _ xb 44 #[.bool true, .int .i64 h.host, .int .i64 h.epoch, .int .i64 h.seq, .slice MA lm.length MC, .slice NA lm.length NC, .int .i64 UU]) := Lib.hid (set7 G18.out (.bool true) (.int .i64 h.host) (.int .i64 h.epoch) (.int .i64 h.seq) (.slice MA lm.length MC) (.slice NA lm.length NC) (.int .i64 UU))
                    unfold set7W at G19
                    have Z19 := Lib.hid (cg.owns Z18.out (by decide))
                    have Y19 := Lib.hid (fun z hz => cg.ownI (Y18.out z hz) (by decide))
                    clear bt cg hHeld y0 f0 y1 f1 y2 f2 y3 f3 y4 f4 y5 f5 y6 f6 L18 X18 K18 G18 Z18 Y18
                    generalize ((((((w18.setCell ⟨xb, 0, none⟩ (.bool true)).setCell ⟨xb, 1, none⟩ (.int .i64 h.host)).setCell ⟨xb, 2, none⟩ (.int .i64 h.epoch)).setCell ⟨xb, 3, none⟩ (.int .i64 h.seq)).setCell ⟨xb, 4, none⟩ (.slice MA lm.length MC)).setCell ⟨xb, 5, none⟩ (.slice NA lm.length NC)).setCell ⟨xb, 6, none⟩ (.int .i64 UU) = w19 at *
                    refine hK.out _ _ (Cells.cell K19.out 5) (fun hHeld => ?_)
                    clear hK K
                    (try simp only [Act.put, List.setIfInBounds_toArray, List.set_cons_zero, List.set_cons_succ])
                    refine wpAnyH_done (by kernel_rfl) ?_ _
                    clear hHeld
                    go_wp2_with fail
                    go_meet
                    exact ⟨xb, MA, MC, NA, NC, zs, rfl, L19, X19, K19, G19, Z19, Y19, HZS⟩
                · skip
                  go_simp
                  have bb : Below w14.heap.size w14 (w14.alloc (.cells #[.bool false, .int .i64 0, .int .i64 0, .int .i64 0, .slice none 0 0, .slice none 0 0, .int .i64 0] 44)) := (Below.refl _ w14).alloc (Nat.le_refl _) _
                  have G15 : Hid (Cells (w14.alloc (.cells #[.bool false, .int .i64 0, .int .i64 0, .int .i64 0, .slice none 0 0, .slice none 0 0, .int .i64 0] 44)) w14.heap.size 44 #[.bool false, .int .i64 0, .int .i64 0, .int .i64 0, .slice none 0 0, .slice none 0 0, .int .i64 0]) := Cells.new _ _ _
                  have L15 := Lib.hid (L14.out.trans (bb.mono L14.out.size))
                  have X15 := Lib.hid (Cells.below X14.out bb)
                  have B15 := Lib.hid (Mem.Owns.below B14.out bb)
                  have K15 := Lib.hid (Cells.below K14.out bb)
                  have C15 := Lib.hid (Mem.Owns.below C14.out bb)
                  have GX : Hid (w.heap.size ≤ w14.heap.size ∧ w.heap.size ≠ w14.heap.size ∧ kb ≠ w14.heap.size) := ⟨L14.out.size, by have := Cells.lt X14.out; omega, by have := Cells.lt K14.out; omega⟩
                  clear bb hHeld
                  clear L14 X14 B14 K14 C14 
                  generalize w14.alloc (.cells #[.bool false, .int .i64 0, .int .i64 0, .int .i64 0, .slice none 0 0, .slice none 0 0, .int .i64 0] 44) = w15 at *
                  generalize w14.heap.size = xb at *
                  refine hK.out _ _ (Cells.cell K15.out 5) (fun hHeld => ?_)
                  clear hK K
                  (try simp only [Act.put, List.setIfInBounds_toArray, List.set_cons_zero, List.set_cons_succ])
                  refine Reg.step 1 rfl (by kernel_rfl) (by rfl) (fun K hK => ?_)
                  refine OwnS.wp_append1 (OwnB.fit1 cb_one) Try.underlying27 info_byte rfl (by omega) (.const (.slice none 0 0)) (.tmp 73) rfl rfl w.heap.size (.slice none 0 0) 0 [] rfl (OwnS.Owns.nil _ _ _ _ _) X bs.length d bs rfl (OwnB.row_to (Wire.gave_row B15.out (by have := HBL.out; omega)).1) (by have := HBL.out; omega) L15.out.size ?_
                  intro A1 a1 w16 ho hg hn
                  rw [Nat.zero_add, List.nil_append] at ho
                  rw [Nat.zero_add] at hn ⊢
                  have hb : Below w15.heap.size w15 w16 := ⟨hg.os, hg.tape, hg.output, hg.size, fun i hi => hg.block i hi (by intro h; cases h)⟩
                  have L16 := Lib.hid (L15.out.trans (hb.mono L15.out.size))
                  have X16 := Lib.hid (Cells.below X15.out hb)
                  have B16 := Lib.hid (Mem.Owns.below B15.out hb)
                  have K16 := Lib.hid (Cells.below K15.out hb)
                  have C16 := Lib.hid (Mem.Owns.below C15.out hb)
                  have G16 := Lib.hid (Cells.below G15.out hb)
                  have D16 := Lib.hid (OwnB.back ho)
                  have AC : Hid (Ap (.slice C V.p.buf.length cd) (.slice A1 bs.length a1)) := by
                    show Ap _ _
                    unfold Ap
                    rcases e1 : (Value.slice C V.p.buf.length cd).ownBlock with _ | z
                    · exact .inl rfl
                    · refine .inr fun e2 => ?_
                      have h3 := (OwnB.owns_lt C15.out z e1).2
                      rcases hn with hn | hn
                      · rw [hn] at e2; cases e2
                      · rw [hn] at e2; injection e2 with e2; omega
                  clear hb hHeld ho hg hn
                  clear L15 X15 B15 K15 C15 G15 
                  refine hK.out _ _ (Cells.cell K16.out 5) (fun hHeld => ?_)
                  clear hK K
                  (try simp only [Act.put, List.setIfInBounds_toArray, List.set_cons_zero, List.set_cons_succ])
                  clear B16
                  refine Reg.step 4 rfl (by kernel_rfl) (by rfl) (fun K hK => ?_)
                  refine OwnS.wp_append1 (OwnB.fit1 cb_one) Try.underlying27 info_byte rfl (by omega) (.tmp 74) (.tmp 76) rfl rfl w.heap.size (.slice A1 bs.length a1) bs.length bs rfl (OwnB.to D16.out) C V.p.buf.length cd V.p.buf rfl (OwnB.row_to (Wire.gave_row C16.out (by have := HVL.out; have := HVN.out; omega)).1) (by have := HBL.out; have := HVN.out; omega) L16.out.size ?_
                  intro A3 a3 w17 ho hg hn
                  have cg : Chg 5 _ w16 w17 := Chg.own (OwnB.to D16.out) hg
                  have L17 := Lib.hid (L16.out.trans (OwnS.below_row (OwnB.to D16.out) hg L16.out.size))
                  have X17 := Lib.hid (cg.cells X16.out (by decide))
                  have K17 := Lib.hid (cg.cells K16.out (by decide))
                  have G17 := Lib.hid (cg.cells G16.out (by decide))
                  have D17 := Lib.hid (OwnB.back ho)
                  clear ho hg hn cg hHeld
                  clear L16 X16 K16 C16 G16 D16 
                  refine hK.out _ _ (Cells.cell K17.out 5) (fun hHeld => ?_)
                  clear hK K
                  (try simp only [Act.put, List.setIfInBounds_toArray, List.set_cons_zero, List.set_cons_succ])
                  refine Reg.step 5 rfl (by kernel_rfl) (by rfl) (fun K hK => ?_)
                  go_simp
                  refine (scan_own (U := UU) HUU.out (h := h) (l := lm) (b := frames l ++ frames m) (by rw [← List.append_assoc, ← HBS.out, ← HVB.out]; exact (Wire.gave_row D17.out (by rw [List.length_append]; have := HBL.out; have := HVL.out; have := HVN.out; omega)).1) (by have := HBL.out; have := HVN.out; omega) HF.out HNN.out (by rw [← Seg.frames_append, HLM.out]; exact scans_all HCA.out HGA.out)).mono ?_
                  rintro e w18 ⟨zs, MA, MC, NA, NC, rfl, hZR, hZD, hzs, hb⟩
                  have L18 := Lib.hid (L17.out.trans (hb.mono L17.out.size))
                  have X18 := Lib.hid (Cells.below X17.out hb)
                  have K18 := Lib.hid (Cells.below K17.out hb)
                  have G18 := Lib.hid (Cells.below G17.out hb)
                  have D18 := Lib.hid (Mem.Owns.below D17.out hb)
                  have Z18 := Lib.hid (hZR.mono L17.out.size)
                  have Y18 := Lib.hid (fun z hz => (hZD z hz).mono L17.out.size)
                  have HZS := Lib.hid hzs
                  clear hb hHeld hZR hZD hzs
                  clear L17 X17 K17 G17 D17 
                  clear D18
                  refine hK.out _ _ (Cells.cell K18.out 5) (fun hHeld => ?_)
                  clear hK K
                  (try simp only [Act.put, List.setIfInBounds_toArray, List.set_cons_zero, List.set_cons_succ])
                  have y0 := Cells.cell G18.out 0
                  have f0 := Cells.frozen G18.out 0
                  have y1 := Cells.cell G18.out 1
                  have f1 := Cells.frozen G18.out 1
                  have y2 := Cells.cell G18.out 2
                  have f2 := Cells.frozen G18.out 2
                  have y3 := Cells.cell G18.out 3
                  have f3 := Cells.frozen G18.out 3
                  have y4 := Cells.cell G18.out 4
                  have f4 := Cells.frozen G18.out 4
                  have y5 := Cells.cell G18.out 5
                  have f5 := Cells.frozen G18.out 5
                  have y6 := Cells.cell G18.out 6
                  have f6 := Cells.frozen G18.out 6
                  refine Reg.step 7 rfl (by kernel_rfl) (by rfl) (fun K hK => ?_)
                  go_simp
                  have bt := mov7 w18 xb (.bool true) (.int .i64 h.host) (.int .i64 h.epoch) (.int .i64 h.seq) (.slice MA lm.length MC) (.slice NA lm.length NC) (.int .i64 UU)
                  unfold set7W at bt
                  have cg := Chg.mov G18.out bt
                  have L19 := Lib.hid (L18.out.trans (bt.up L18.out.size GX.out.1))
                  have X19 := Lib.hid (cg.cells X18.out (by decide))
                  have K19 := Lib.hid (cg.cells K18.out (by decide))
                  have G19 : Hid (Cells _ xb 44 #[.bool true, .int .i64 h.host, .int .i64 h.epoch, .int .i64 h.seq, .slice MA lm.length MC, .slice NA lm.length NC, .int .i64 UU]) := Lib.hid (set7 G18.out (.bool true) (.int .i64 h.host) (.int .i64 h.epoch) (.int .i64 h.seq) (.slice MA lm.length MC) (.slice NA lm.length NC) (.int .i64 UU))
                  unfold set7W at G19
                  have Z19 := Lib.hid (cg.owns Z18.out (by decide))
                  have Y19 := Lib.hid (fun z hz => cg.ownI (Y18.out z hz) (by decide))
                  clear bt cg hHeld y0 f0 y1 f1 y2 f2 y3 f3 y4 f4 y5 f5 y6 f6 L18 X18 K18 G18 Z18 Y18
                  generalize ((((((w18.setCell ⟨xb, 0, none⟩ (.bool true)).setCell ⟨xb, 1, none⟩ (.int .i64 h.host)).setCell ⟨xb, 2, none⟩ (.int .i64 h.epoch)).setCell ⟨xb, 3, none⟩ (.int .i64 h.seq)).setCell ⟨xb, 4, none⟩ (.slice MA lm.length MC)).setCell ⟨xb, 5, none⟩ (.slice NA lm.length NC)).setCell ⟨xb, 6, none⟩ (.int .i64 UU) = w19 at *
                  refine hK.out _ _ (Cells.cell K19.out 5) (fun hHeld => ?_)
                  clear hK K
                  (try simp only [Act.put, List.setIfInBounds_toArray, List.set_cons_zero, List.set_cons_succ])
                  refine wpAnyH_done (by kernel_rfl) ?_ _
                  clear hHeld
                  go_wp2_with fail
                  go_meet
                  exact ⟨xb, MA, MC, NA, NC, zs, rfl, L19, X19, K19, G19, Z19, Y19, HZS⟩
              case rest =>
                obtain ⟨xb, MA, MC, NA, NC, zs, rfl, L20, X20, K20, G20, Z20, Y20, HZS⟩ := hcut
                obtain ⟨w20, hw20⟩ : ∃ x, x = wc := ⟨_, rfl⟩
                subst hw20
                go_upto_region 18 with fail
                have Z21 := Lib.hid (Z20.out.below (Below.refl _ w20).drew)
                have Y21 := Lib.hid (fun z hz => (Y20.out z hz).below (Below.refl _ w20).drew)
                clear Z20 Y20
                have hz4 : (V.p.zone == 4) = true := by rw [HVZ.out]; rfl
                have he4 : (V.p.h.epoch == h.epoch) = true := by rw [HVE.out]; simp
                have L21 := Lib.hid L20.out.drew
                have X21 := Lib.hid (Cells.below X20.out ((Below.refl _ w20).drew))
                have K21 := Lib.hid (Cells.below K20.out ((Below.refl _ w20).drew))
                have G21 := Lib.hid (Cells.below G20.out ((Below.refl _ w20).drew))
                refine wp_region_held_drew (S := fun W => W.cell? ⟨w.heap.size, 0, none⟩ = some (.int .i64 h.host) ∧ W.cell? ⟨w.heap.size, 1, none⟩ = some (.int .i64 h.epoch) ∧ W.cell? ⟨w.heap.size, 2, none⟩ = some (.int .i64 h.seq) ∧ W.cell? ⟨kb, 1, none⟩ = some (.int .i64 V.p.zone) ∧ W.cell? ⟨kb, 2, none⟩ = some (.int .i64 V.p.h.epoch) ∧ W.cell? ⟨xb, 0, none⟩ = some (.bool true) ∧ W.cell? ⟨xb, 1, none⟩ = some (.int .i64 h.host) ∧ W.cell? ⟨xb, 2, none⟩ = some (.int .i64 h.epoch) ∧ W.cell? ⟨xb, 3, none⟩ = some (.int .i64 h.seq) ∧ W.cell? ⟨xb, 4, none⟩ = some (.slice MA lm.length MC)) (by kernel_rfl) (⟨Cells.cell X21.out 0, Cells.cell X21.out 1, Cells.cell X21.out 2, Cells.cell K21.out 1, Cells.cell K21.out 2, Cells.cell G21.out 0, Cells.cell G21.out 1, Cells.cell G21.out 2, Cells.cell G21.out 3, Cells.cell G21.out 4⟩) (fun hHeld => ?_)
                generalize w20.drew = w21 at *
                clear L20 X20 K20 G20 
                (first | (refine Reg.take 0 (v := ?_) rfl (by kernel_rfl) (by kernel_rfl) (by kernel_rfl) (fun _ _ _ h => h) (Or.inl ⟨by rfl, ?_⟩) (by assumption) ?_; rotate_left; (focus ((intro W hSW); (try dsimp only at hSW); (try go_split_ands); go_simp; (try (with_reducible rfl)); done))) | (refine Reg.take 0 (v := undef) rfl (by kernel_rfl) (by kernel_rfl) (by kernel_rfl) (fun _ _ _ h => h) (Or.inr ⟨by rfl, rfl⟩) (by assumption) ?_))
                (try simp only [Act.put, List.setIfInBounds_toArray, List.set_cons_zero, List.set_cons_succ])
                (first | (refine Reg.take 1 (v := ?_) rfl (by kernel_rfl) (by kernel_rfl) (by kernel_rfl) (fun _ _ _ h => h) (Or.inl ⟨by rfl, ?_⟩) (by assumption) ?_; rotate_left; (focus ((intro W hSW); (try dsimp only at hSW); (try go_split_ands); go_simp; (try (with_reducible rfl)); done))) | (refine Reg.take 1 (v := undef) rfl (by kernel_rfl) (by kernel_rfl) (by kernel_rfl) (fun _ _ _ h => h) (Or.inr ⟨by rfl, rfl⟩) (by assumption) ?_))
                (try simp only [Act.put, List.setIfInBounds_toArray, List.set_cons_zero, List.set_cons_succ])
                (first | (refine Reg.take 2 (v := ?_) rfl (by kernel_rfl) (by kernel_rfl) (by kernel_rfl) (fun _ _ _ h => h) (Or.inl ⟨by rfl, ?_⟩) (by assumption) ?_; rotate_left; (focus ((intro W hSW); (try dsimp only at hSW); (try go_split_ands); go_simp; (try (with_reducible rfl)); done))) | (refine Reg.take 2 (v := undef) rfl (by kernel_rfl) (by kernel_rfl) (by kernel_rfl) (fun _ _ _ h => h) (Or.inr ⟨by rfl, rfl⟩) (by assumption) ?_))
                (try simp only [Act.put, List.setIfInBounds_toArray, List.set_cons_zero, List.set_cons_succ])
                (first | (refine Reg.take 3 (v := ?_) rfl (by kernel_rfl) (by kernel_rfl) (by kernel_rfl) (fun _ _ _ h => h) (Or.inl ⟨by rfl, ?_⟩) (by assumption) ?_; rotate_left; (focus ((intro W hSW); (try dsimp only at hSW); (try go_split_ands); go_simp; (try (with_reducible rfl)); done))) | (refine Reg.take 3 (v := undef) rfl (by kernel_rfl) (by kernel_rfl) (by kernel_rfl) (fun _ _ _ h => h) (Or.inr ⟨by rfl, rfl⟩) (by assumption) ?_))
                (try simp only [Act.put, List.setIfInBounds_toArray, List.set_cons_zero, List.set_cons_succ])
                (first | (refine Reg.take 4 (v := ?_) rfl (by kernel_rfl) (by kernel_rfl) (by kernel_rfl) (fun _ _ _ h => h) (Or.inl ⟨by rfl, ?_⟩) (by assumption) ?_; rotate_left; (focus ((intro W hSW); (try dsimp only at hSW); (try go_split_ands); go_simp; (try (with_reducible rfl)); done))) | (refine Reg.take 4 (v := undef) rfl (by kernel_rfl) (by kernel_rfl) (by kernel_rfl) (fun _ _ _ h => h) (Or.inr ⟨by rfl, rfl⟩) (by assumption) ?_))
                (try simp only [Act.put, List.setIfInBounds_toArray, List.set_cons_zero, List.set_cons_succ])
                (first | (refine Reg.take 5 (v := ?_) rfl (by kernel_rfl) (by kernel_rfl) (by kernel_rfl) (fun _ _ _ h => h) (Or.inl ⟨by rfl, ?_⟩) (by assumption) ?_; rotate_left; (focus ((intro W hSW); (try dsimp only at hSW); (try go_split_ands); go_simp; (try (with_reducible rfl)); done))) | (refine Reg.take 5 (v := undef) rfl (by kernel_rfl) (by kernel_rfl) (by kernel_rfl) (fun _ _ _ h => h) (Or.inr ⟨by rfl, rfl⟩) (by assumption) ?_))
                (try simp only [Act.put, List.setIfInBounds_toArray, List.set_cons_zero, List.set_cons_succ])
                (first | (refine Reg.take 6 (v := ?_) rfl (by kernel_rfl) (by kernel_rfl) (by kernel_rfl) (fun _ _ _ h => h) (Or.inl ⟨by rfl, ?_⟩) (by assumption) ?_; rotate_left; (focus ((intro W hSW); (try dsimp only at hSW); (try go_split_ands); go_simp; (try (with_reducible rfl)); done))) | (refine Reg.take 6 (v := undef) rfl (by kernel_rfl) (by kernel_rfl) (by kernel_rfl) (fun _ _ _ h => h) (Or.inr ⟨by rfl, rfl⟩) (by assumption) ?_))
                (try simp only [Act.put, List.setIfInBounds_toArray, List.set_cons_zero, List.set_cons_succ])
                (first | (refine Reg.take 7 (v := ?_) rfl (by kernel_rfl) (by kernel_rfl) (by kernel_rfl) (fun _ _ _ h => h) (Or.inl ⟨by rfl, ?_⟩) (by assumption) ?_; rotate_left; (focus ((intro W hSW); (try dsimp only at hSW); (try go_split_ands); go_simp; (try (with_reducible rfl)); done))) | (refine Reg.take 7 (v := undef) rfl (by kernel_rfl) (by kernel_rfl) (by kernel_rfl) (fun _ _ _ h => h) (Or.inr ⟨by rfl, rfl⟩) (by assumption) ?_))
                (try simp only [Act.put, List.setIfInBounds_toArray, List.set_cons_zero, List.set_cons_succ])
                (first | (refine Reg.take 8 (v := ?_) rfl (by kernel_rfl) (by kernel_rfl) (by kernel_rfl) (fun _ _ _ h => h) (Or.inl ⟨by rfl, ?_⟩) (by assumption) ?_; rotate_left; (focus ((intro W hSW); (try dsimp only at hSW); (try go_split_ands); go_simp; (try (with_reducible rfl)); done))) | (refine Reg.take 8 (v := undef) rfl (by kernel_rfl) (by kernel_rfl) (by kernel_rfl) (fun _ _ _ h => h) (Or.inr ⟨by rfl, rfl⟩) (by assumption) ?_))
                (try simp only [Act.put, List.setIfInBounds_toArray, List.set_cons_zero, List.set_cons_succ])
                (first | (refine Reg.take 9 (v := ?_) rfl (by kernel_rfl) (by kernel_rfl) (by kernel_rfl) (fun _ _ _ h => h) (Or.inl ⟨by rfl, ?_⟩) (by assumption) ?_; rotate_left; (focus ((intro W hSW); (try dsimp only at hSW); (try go_split_ands); go_simp; (try (with_reducible rfl)); done))) | (refine Reg.take 9 (v := undef) rfl (by kernel_rfl) (by kernel_rfl) (by kernel_rfl) (fun _ _ _ h => h) (Or.inr ⟨by rfl, rfl⟩) (by assumption) ?_))
                (try simp only [Act.put, List.setIfInBounds_toArray, List.set_cons_zero, List.set_cons_succ])
                (first | (refine Reg.take 10 (v := ?_) rfl (by kernel_rfl) (by kernel_rfl) (by kernel_rfl) (fun _ _ _ h => h) (Or.inl ⟨by rfl, ?_⟩) (by assumption) ?_; rotate_left; (focus ((intro W hSW); (try dsimp only at hSW); (try go_split_ands); go_simp; (try (with_reducible rfl)); done))) | (refine Reg.take 10 (v := undef) rfl (by kernel_rfl) (by kernel_rfl) (by kernel_rfl) (fun _ _ _ h => h) (Or.inr ⟨by rfl, rfl⟩) (by assumption) ?_))
                (try simp only [Act.put, List.setIfInBounds_toArray, List.set_cons_zero, List.set_cons_succ])
                (first | (refine Reg.take 11 (v := ?_) rfl (by kernel_rfl) (by kernel_rfl) (by kernel_rfl) (fun _ _ _ h => h) (Or.inl ⟨by rfl, ?_⟩) (by assumption) ?_; rotate_left; (focus ((intro W hSW); (try dsimp only at hSW); (try go_split_ands); go_simp; (try (with_reducible rfl)); done))) | (refine Reg.take 11 (v := undef) rfl (by kernel_rfl) (by kernel_rfl) (by kernel_rfl) (fun _ _ _ h => h) (Or.inr ⟨by rfl, rfl⟩) (by assumption) ?_))
                (try simp only [Act.put, List.setIfInBounds_toArray, List.set_cons_zero, List.set_cons_succ])
                (first | (refine Reg.take 12 (v := ?_) rfl (by kernel_rfl) (by kernel_rfl) (by kernel_rfl) (fun _ _ _ h => h) (Or.inl ⟨by rfl, ?_⟩) (by assumption) ?_; rotate_left; (focus ((intro W hSW); (try dsimp only at hSW); (try go_split_ands); go_simp; (try (with_reducible rfl)); done))) | (refine Reg.take 12 (v := undef) rfl (by kernel_rfl) (by kernel_rfl) (by kernel_rfl) (fun _ _ _ h => h) (Or.inr ⟨by rfl, rfl⟩) (by assumption) ?_))
                (try simp only [Act.put, List.setIfInBounds_toArray, List.set_cons_zero, List.set_cons_succ])
                (first | (refine Reg.take 13 (v := ?_) rfl (by kernel_rfl) (by kernel_rfl) (by kernel_rfl) (fun _ _ _ h => h) (Or.inl ⟨by rfl, ?_⟩) (by assumption) ?_; rotate_left; (focus ((intro W hSW); (try dsimp only at hSW); (try go_split_ands); go_simp; (try (with_reducible rfl)); done))) | (refine Reg.take 13 (v := undef) rfl (by kernel_rfl) (by kernel_rfl) (by kernel_rfl) (fun _ _ _ h => h) (Or.inr ⟨by rfl, rfl⟩) (by assumption) ?_))
                (try simp only [Act.put, List.setIfInBounds_toArray, List.set_cons_zero, List.set_cons_succ])
                (first | (refine Reg.take 14 (v := ?_) rfl (by kernel_rfl) (by kernel_rfl) (by kernel_rfl) (fun _ _ _ h => h) (Or.inl ⟨by rfl, ?_⟩) (by assumption) ?_; rotate_left; (focus ((intro W hSW); (try dsimp only at hSW); (try go_split_ands); go_simp; (try (with_reducible rfl)); done))) | (refine Reg.take 14 (v := undef) rfl (by kernel_rfl) (by kernel_rfl) (by kernel_rfl) (fun _ _ _ h => h) (Or.inr ⟨by rfl, rfl⟩) (by assumption) ?_))
                (try simp only [Act.put, List.setIfInBounds_toArray, List.set_cons_zero, List.set_cons_succ])
                (first | (refine Reg.take 16 (v := ?_) rfl (by kernel_rfl) (by kernel_rfl) (by kernel_rfl) (fun _ _ _ h => h) (Or.inl ⟨by rfl, ?_⟩) (by assumption) ?_; rotate_left; (focus ((intro W hSW); (try dsimp only at hSW); (try go_split_ands); go_simp; (try (with_reducible rfl)); done))) | (refine Reg.take 16 (v := undef) rfl (by kernel_rfl) (by kernel_rfl) (by kernel_rfl) (fun _ _ _ h => h) (Or.inr ⟨by rfl, rfl⟩) (by assumption) ?_))
                (try simp only [Act.put, List.setIfInBounds_toArray, List.set_cons_zero, List.set_cons_succ])
                refine Reg.step 15 rfl (by kernel_rfl) (by rfl) (fun K hK => ?_)
                refine OwnS.wp_append1 fitR Try.underlying24 info_recP rfl (by omega) (.const (.slice none 0 0)) (.tmp 93) rfl rfl w.heap.size (.slice none 0 0) 0 [] rfl (OwnS.Owns.nil _ _ _ _ _) A n c xs rfl (rowS_of (HR.out.below L21.out)) (by have := HN1.out; omega) L21.out.size ?_
                intro A5 a5 w22 ho hg hn
                rw [Nat.zero_add, List.nil_append] at ho
                rw [Nat.zero_add] at hn ⊢
                have hb : Below w21.heap.size w21 w22 := ⟨hg.os, hg.tape, hg.output, hg.size, fun i hi => hg.block i hi (by intro h; cases h)⟩
                have L22 := Lib.hid (L21.out.trans (hb.mono L21.out.size))
                have X22 := Lib.hid (Cells.below X21.out hb)
                have K22 := Lib.hid (Cells.below K21.out hb)
                have G22 := Lib.hid (Cells.below G21.out hb)
                have Z22 := Lib.hid (Z21.out.below hb)
                have Y22 := Lib.hid (fun z hz => (Y21.out z hz).below hb)
                have R22 := Lib.hid ho
                have AZ : Hid (Ap (.slice MA lm.length MC) (.slice A5 n a5)) := by
                  show Ap _ _
                  unfold Ap
                  rcases e1 : (Value.slice MA lm.length MC).ownBlock with _ | z
                  · exact .inl rfl
                  · refine .inr fun e2 => ?_
                    have h3 := (OwnS.Owns.lt Z21.out z e1).2
                    rcases hn with hn | hn
                    · rw [hn] at e2; cases e2
                    · rw [hn] at e2; injection e2 with e2; omega
                clear hb ho hg hn hHeld Z21 Y21
                clear L21 X21 K21 G21 
                refine hK.out _ _ (⟨Cells.cell X22.out 0, Cells.cell X22.out 1, Cells.cell X22.out 2, Cells.cell K22.out 1, Cells.cell K22.out 2, Cells.cell G22.out 0, Cells.cell G22.out 1, Cells.cell G22.out 2, Cells.cell G22.out 3, Cells.cell G22.out 4⟩) (fun hHeld => ?_)
                clear hK K
                (try simp only [Act.put, List.setIfInBounds_toArray, List.set_cons_zero, List.set_cons_succ])
                refine Reg.step 17 rfl (by kernel_rfl) (by rfl) (fun K hK => ?_)
                refine OwnS.wp_append1 fitR Try.underlying24 info_recP rfl (by omega) (.tmp 94) (.tmp 95) rfl rfl w.heap.size (.slice A5 n a5) n xs rfl R22.out A2 n2 c2 ys rfl (rowS_of (HR2.out.below L22.out)) (by have := HN1.out; have := HN2.out; omega) L22.out.size ?_
                intro A6 a6 w23 ho hg hn
                have cg : Chg 34 _ w22 w23 := Chg.own R22.out hg
                have L23 := Lib.hid (L22.out.trans (OwnS.below_row R22.out hg L22.out.size))
                have X23 := Lib.hid (cg.cells X22.out (by decide))
                have K23 := Lib.hid (cg.cells K22.out (by decide))
                have G23 := Lib.hid (cg.cells G22.out (by decide))
                have Z23 := Lib.hid (cg.owns_ne Z22.out AZ.out)
                have Y23 := Lib.hid (fun z hz => cg.ownI (Y22.out z hz) (by decide))
                have R23 := Lib.hid ho
                clear ho hg hn cg hHeld AZ Z22 Y22 R22
                clear L22 X22 K22 G22 
                refine hK.out _ _ (⟨Cells.cell X23.out 0, Cells.cell X23.out 1, Cells.cell X23.out 2, Cells.cell K23.out 1, Cells.cell K23.out 2, Cells.cell G23.out 0, Cells.cell G23.out 1, Cells.cell G23.out 2, Cells.cell G23.out 3, Cells.cell G23.out 4⟩) (fun hHeld => ?_)
                clear hK K
                (try simp only [Act.put, List.setIfInBounds_toArray, List.set_cons_zero, List.set_cons_succ])
                have hlm : lm.length ≤ 100000 := by rw [← HLM.out, List.length_append, HLN.out, HMN.out]; have := HN1.out; have := HN2.out; omega
                have hzd : ∀ z ∈ zs, Row cb w23 z.D z.r.data.length z.c z.r.data := fun z hz => (Wire.gave_row (Y23.out z hz) (by
                  have hm : z.r ∈ lm := by rw [← HZS.out]; exact List.mem_map_of_mem hz
                  have := (Seg.check_ok (HCA.out _ hm)).2
                  omega)).1
                have hr1 : RowR w23 MA lm.length MC zs := row_ownR Z23.out (by omega) hzd
                have hr2 : RowR w23 A6 (n + n2) a6 (xs ++ ys) := row_ownR R23.out (by have := HN1.out; have := HN2.out; omega) (fun x hx => by
                  rcases List.mem_append.1 hx with hx | hx
                  · exact (HR.out.data x hx).below L23.out
                  · exact (HR2.out.data x hx).below L23.out)
                have hln : n + n2 = lm.length := by rw [← HLM.out, List.length_append, HLN.out, HMN.out]
                have HSR : Hid (Calls Try.prog 16 #[.slice MA lm.length MC, .slice A6 (n + n2) a6] w23 fun e w' => e = .returned (.bool true) ∧ Below w23.heap.size w23 w') := by
                  have he : zs.map Rv.r = (xs ++ ys).map Rv.r := by rw [HZS.out, List.map_append, HL.out, HM.out, HLM.out]
                  rw [hln] at hr2 ⊢
                  exact Seg.sameRecs_any hr1 hr2 he
                clear hlm hzd hr1 hr2 hln
                refine Reg.step 18 rfl (by kernel_rfl) (by rfl) (fun K hK => ?_)
                go_simp
                refine HSR.out.mono ?_
                rintro e w24 ⟨rfl, hb⟩
                have L24 := Lib.hid (L23.out.trans (hb.mono L23.out.size))
                have X24 := Lib.hid (Cells.below X23.out hb)
                have K24 := Lib.hid (Cells.below K23.out hb)
                have G24 := Lib.hid (Cells.below G23.out hb)
                clear hb hHeld HSR Z23 Y23 R23
                clear L23 X23 K23 G23 
                refine hK.out _ _ (⟨Cells.cell X24.out 0, Cells.cell X24.out 1, Cells.cell X24.out 2, Cells.cell K24.out 1, Cells.cell K24.out 2, Cells.cell G24.out 0, Cells.cell G24.out 1, Cells.cell G24.out 2, Cells.cell G24.out 3, Cells.cell G24.out 4⟩) (fun hHeld => ?_)
                clear hK K
                (try simp only [Act.put, List.setIfInBounds_toArray, List.set_cons_zero, List.set_cons_succ])
                (first | (refine Reg.take 19 (v := ?_) rfl (by kernel_rfl) (by kernel_rfl) (by kernel_rfl) (fun _ _ _ h => h) (Or.inl ⟨by rfl, ?_⟩) (by assumption) ?_; rotate_left; (focus ((intro W hSW); (try dsimp only at hSW); (try go_split_ands); go_simp; (try (with_reducible rfl)); done))) | (refine Reg.take 19 (v := undef) rfl (by kernel_rfl) (by kernel_rfl) (by kernel_rfl) (fun _ _ _ h => h) (Or.inr ⟨by rfl, rfl⟩) (by assumption) ?_))
                (try simp only [Act.put, List.setIfInBounds_toArray, List.set_cons_zero, List.set_cons_succ])
                (first | (refine Reg.take 20 (v := ?_) rfl (by kernel_rfl) (by kernel_rfl) (by kernel_rfl) (fun _ _ _ h => h) (Or.inl ⟨by rfl, ?_⟩) (by assumption) ?_; rotate_left; (focus ((intro W hSW); (try dsimp only at hSW); (try go_split_ands); go_simp; (try (with_reducible rfl)); done))) | (refine Reg.take 20 (v := undef) rfl (by kernel_rfl) (by kernel_rfl) (by kernel_rfl) (fun _ _ _ h => h) (Or.inr ⟨by rfl, rfl⟩) (by assumption) ?_))
                (try simp only [Act.put, List.setIfInBounds_toArray, List.set_cons_zero, List.set_cons_succ])
                (first | (refine Reg.take 21 (v := ?_) rfl (by kernel_rfl) (by kernel_rfl) (by kernel_rfl) (fun _ _ _ h => h) (Or.inl ⟨by rfl, ?_⟩) (by assumption) ?_; rotate_left; (focus ((intro W hSW); (try dsimp only at hSW); (try go_split_ands); go_simp; (try (with_reducible rfl)); done))) | (refine Reg.take 21 (v := undef) rfl (by kernel_rfl) (by kernel_rfl) (by kernel_rfl) (fun _ _ _ h => h) (Or.inr ⟨by rfl, rfl⟩) (by assumption) ?_))
                (try simp only [Act.put, List.setIfInBounds_toArray, List.set_cons_zero, List.set_cons_succ])
                (first | (refine Reg.take 22 (v := ?_) rfl (by kernel_rfl) (by kernel_rfl) (by kernel_rfl) (fun _ _ _ h => h) (Or.inl ⟨by rfl, ?_⟩) (by assumption) ?_; rotate_left; (focus ((intro W hSW); (try dsimp only at hSW); (try go_split_ands); go_simp; (try (with_reducible rfl)); done))) | (refine Reg.take 22 (v := undef) rfl (by kernel_rfl) (by kernel_rfl) (by kernel_rfl) (fun _ _ _ h => h) (Or.inr ⟨by rfl, rfl⟩) (by assumption) ?_))
                (try simp only [Act.put, List.setIfInBounds_toArray, List.set_cons_zero, List.set_cons_succ])
                (first | (refine Reg.take 23 (v := ?_) rfl (by kernel_rfl) (by kernel_rfl) (by kernel_rfl) (fun _ _ _ h => h) (Or.inl ⟨by rfl, ?_⟩) (by assumption) ?_; rotate_left; (focus ((intro W hSW); (try dsimp only at hSW); (try go_split_ands); go_simp; (try (with_reducible rfl)); done))) | (refine Reg.take 23 (v := undef) rfl (by kernel_rfl) (by kernel_rfl) (by kernel_rfl) (fun _ _ _ h => h) (Or.inr ⟨by rfl, rfl⟩) (by assumption) ?_))
                (try simp only [Act.put, List.setIfInBounds_toArray, List.set_cons_zero, List.set_cons_succ])
                (first | (refine Reg.take 24 (v := ?_) rfl (by kernel_rfl) (by kernel_rfl) (by kernel_rfl) (fun _ _ _ h => h) (Or.inl ⟨by rfl, ?_⟩) (by assumption) ?_; rotate_left; (focus ((intro W hSW); (try dsimp only at hSW); (try go_split_ands); go_simp; (try (with_reducible rfl)); done))) | (refine Reg.take 24 (v := undef) rfl (by kernel_rfl) (by kernel_rfl) (by kernel_rfl) (fun _ _ _ h => h) (Or.inr ⟨by rfl, rfl⟩) (by assumption) ?_))
                (try simp only [Act.put, List.setIfInBounds_toArray, List.set_cons_zero, List.set_cons_succ])
                (first | (refine Reg.take 25 (v := ?_) rfl (by kernel_rfl) (by kernel_rfl) (by kernel_rfl) (fun _ _ _ h => h) (Or.inl ⟨by rfl, ?_⟩) (by assumption) ?_; rotate_left; (focus ((intro W hSW); (try dsimp only at hSW); (try go_split_ands); go_simp; (try (with_reducible rfl)); done))) | (refine Reg.take 25 (v := undef) rfl (by kernel_rfl) (by kernel_rfl) (by kernel_rfl) (fun _ _ _ h => h) (Or.inr ⟨by rfl, rfl⟩) (by assumption) ?_))
                (try simp only [Act.put, List.setIfInBounds_toArray, List.set_cons_zero, List.set_cons_succ])
                (first | (refine Reg.take 26 (v := ?_) rfl (by kernel_rfl) (by kernel_rfl) (by kernel_rfl) (fun _ _ _ h => h) (Or.inl ⟨by rfl, ?_⟩) (by assumption) ?_; rotate_left; (focus ((intro W hSW); (try dsimp only at hSW); (try go_split_ands); go_simp; (try (with_reducible rfl)); done))) | (refine Reg.take 26 (v := undef) rfl (by kernel_rfl) (by kernel_rfl) (by kernel_rfl) (fun _ _ _ h => h) (Or.inr ⟨by rfl, rfl⟩) (by assumption) ?_))
                (try simp only [Act.put, List.setIfInBounds_toArray, List.set_cons_zero, List.set_cons_succ])
                (first | (refine Reg.take 27 (v := ?_) rfl (by kernel_rfl) (by kernel_rfl) (by kernel_rfl) (fun _ _ _ h => h) (Or.inl ⟨by rfl, ?_⟩) (by assumption) ?_; rotate_left; (focus ((intro W hSW); (try dsimp only at hSW); (try go_split_ands); go_simp; (try (with_reducible rfl)); done))) | (refine Reg.take 27 (v := undef) rfl (by kernel_rfl) (by kernel_rfl) (by kernel_rfl) (fun _ _ _ h => h) (Or.inr ⟨by rfl, rfl⟩) (by assumption) ?_))
                (try simp only [Act.put, List.setIfInBounds_toArray, List.set_cons_zero, List.set_cons_succ])
                (first | (refine Reg.take 28 (v := ?_) rfl (by kernel_rfl) (by kernel_rfl) (by kernel_rfl) (fun _ _ _ h => h) (Or.inl ⟨by rfl, ?_⟩) (by assumption) ?_; rotate_left; (focus ((intro W hSW); (try dsimp only at hSW); (try go_split_ands); go_simp; (try (with_reducible rfl)); done))) | (refine Reg.take 28 (v := undef) rfl (by kernel_rfl) (by kernel_rfl) (by kernel_rfl) (fun _ _ _ h => h) (Or.inr ⟨by rfl, rfl⟩) (by assumption) ?_))
                (try simp only [Act.put, List.setIfInBounds_toArray, List.set_cons_zero, List.set_cons_succ])
                (first | (refine Reg.take 29 (v := ?_) rfl (by kernel_rfl) (by kernel_rfl) (by kernel_rfl) (fun _ _ _ h => h) (Or.inl ⟨by rfl, ?_⟩) (by assumption) ?_; rotate_left; (focus ((intro W hSW); (try dsimp only at hSW); (try go_split_ands); go_simp; (try (with_reducible rfl)); done))) | (refine Reg.take 29 (v := undef) rfl (by kernel_rfl) (by kernel_rfl) (by kernel_rfl) (fun _ _ _ h => h) (Or.inr ⟨by rfl, rfl⟩) (by assumption) ?_))
                (try simp only [Act.put, List.setIfInBounds_toArray, List.set_cons_zero, List.set_cons_succ])
                (first | (refine Reg.take 30 (v := ?_) rfl (by kernel_rfl) (by kernel_rfl) (by kernel_rfl) (fun _ _ _ h => h) (Or.inl ⟨by rfl, ?_⟩) (by assumption) ?_; rotate_left; (focus ((intro W hSW); (try dsimp only at hSW); (try go_split_ands); go_simp; (try (with_reducible rfl)); done))) | (refine Reg.take 30 (v := undef) rfl (by kernel_rfl) (by kernel_rfl) (by kernel_rfl) (fun _ _ _ h => h) (Or.inr ⟨by rfl, rfl⟩) (by assumption) ?_))
                (try simp only [Act.put, List.setIfInBounds_toArray, List.set_cons_zero, List.set_cons_succ])
                (first | (refine Reg.take 31 (v := ?_) rfl (by kernel_rfl) (by kernel_rfl) (by kernel_rfl) (fun _ _ _ h => h) (Or.inl ⟨by rfl, ?_⟩) (by assumption) ?_; rotate_left; (focus ((intro W hSW); (try dsimp only at hSW); (try go_split_ands); go_simp; (try (with_reducible rfl)); done))) | (refine Reg.take 31 (v := undef) rfl (by kernel_rfl) (by kernel_rfl) (by kernel_rfl) (fun _ _ _ h => h) (Or.inr ⟨by rfl, rfl⟩) (by assumption) ?_))
                (try simp only [Act.put, List.setIfInBounds_toArray, List.set_cons_zero, List.set_cons_succ])
                (first | (refine Reg.take 32 (v := ?_) rfl (by kernel_rfl) (by kernel_rfl) (by kernel_rfl) (fun _ _ _ h => h) (Or.inl ⟨by rfl, ?_⟩) (by assumption) ?_; rotate_left; (focus ((intro W hSW); (try dsimp only at hSW); (try go_split_ands); go_simp; (try (with_reducible rfl)); done))) | (refine Reg.take 32 (v := undef) rfl (by kernel_rfl) (by kernel_rfl) (by kernel_rfl) (fun _ _ _ h => h) (Or.inr ⟨by rfl, rfl⟩) (by assumption) ?_))
                (try simp only [Act.put, List.setIfInBounds_toArray, List.set_cons_zero, List.set_cons_succ])
                (first | (refine Reg.take 33 (v := ?_) rfl (by kernel_rfl) (by kernel_rfl) (by kernel_rfl) (fun _ _ _ h => h) (Or.inl ⟨by rfl, ?_⟩) (by assumption) ?_; rotate_left; (focus ((intro W hSW); (try dsimp only at hSW); (try go_split_ands); go_simp; (try (with_reducible rfl)); done))) | (refine Reg.take 33 (v := undef) rfl (by kernel_rfl) (by kernel_rfl) (by kernel_rfl) (fun _ _ _ h => h) (Or.inr ⟨by rfl, rfl⟩) (by assumption) ?_))
                (try simp only [Act.put, List.setIfInBounds_toArray, List.set_cons_zero, List.set_cons_succ])
                (first | (refine Reg.take 34 (v := ?_) rfl (by kernel_rfl) (by kernel_rfl) (by kernel_rfl) (fun _ _ _ h => h) (Or.inl ⟨by rfl, ?_⟩) (by assumption) ?_; rotate_left; (focus ((intro W hSW); (try dsimp only at hSW); (try go_split_ands); go_simp; (try (with_reducible rfl)); done))) | (refine Reg.take 34 (v := undef) rfl (by kernel_rfl) (by kernel_rfl) (by kernel_rfl) (fun _ _ _ h => h) (Or.inr ⟨by rfl, rfl⟩) (by assumption) ?_))
                (try simp only [Act.put, List.setIfInBounds_toArray, List.set_cons_zero, List.set_cons_succ])
                (first | (refine Reg.take 35 (v := ?_) rfl (by kernel_rfl) (by kernel_rfl) (by kernel_rfl) (fun _ _ _ h => h) (Or.inl ⟨by rfl, ?_⟩) (by assumption) ?_; rotate_left; (focus ((intro W hSW); (try dsimp only at hSW); (try go_split_ands); go_simp; (try (with_reducible rfl)); done))) | (refine Reg.take 35 (v := undef) rfl (by kernel_rfl) (by kernel_rfl) (by kernel_rfl) (fun _ _ _ h => h) (Or.inr ⟨by rfl, rfl⟩) (by assumption) ?_))
                (try simp only [Act.put, List.setIfInBounds_toArray, List.set_cons_zero, List.set_cons_succ])
                (first | (refine Reg.take 36 (v := ?_) rfl (by kernel_rfl) (by kernel_rfl) (by kernel_rfl) (fun _ _ _ h => h) (Or.inl ⟨by rfl, ?_⟩) (by assumption) ?_; rotate_left; (focus ((intro W hSW); (try dsimp only at hSW); (try go_split_ands); go_simp; (try (with_reducible rfl)); done))) | (refine Reg.take 36 (v := undef) rfl (by kernel_rfl) (by kernel_rfl) (by kernel_rfl) (fun _ _ _ h => h) (Or.inr ⟨by rfl, rfl⟩) (by assumption) ?_))
                (try simp only [Act.put, List.setIfInBounds_toArray, List.set_cons_zero, List.set_cons_succ])
                refine wpAnyH_done (by kernel_rfl) ?_ _
                clear hHeld
                go_wp2_with fail
                go_ret
                exact ⟨rfl, L24.out⟩
          · have hde : ((e : Int) != 0) = true := by rw [bne_iff_ne]; omega
            clear he
            go_upto_region 12 with (go_at_call 10; refine HA.out.mono ?_; rintro e w10 ⟨V, T, tn, td, rfl, hp, hO, -, hb⟩; have L10 := Lib.hid (L9.out.trans (hb.mono L9.out.size)); have X10 := Lib.hid (Cells.below X9.out hb); have B10 := Lib.hid (Mem.Owns.below B9.out hb); have O10 := Lib.hid (OwnP.below O9.out hb); have Q10 := Lib.hid (Cells.below Q9.out hb); have V10 := Lib.hid (hO.mono L9.out.size); have HV := Lib.hid hp; clear L9 X9 B9 O9 Q9; clear hp hO hb k0 k1 k2 k3 k4 k5 k6 k7 HA; obtain ⟨k0, k1, k2, k3, k4, k5, k6, k7⟩ := eight_cells Q10.out; obtain ⟨f0, f1, f2, f3, f4, f5, f6, f7⟩ := eight_free Q10.out; unfold pxv)
            have bt := mov8 w10 q (.int .i64 V.p.h.host) (.int .i64 V.p.h.epoch) (.int .i64 V.p.h.seq) (.int .i64 V.p.zone) (.int .i64 V.p.cap) (.int .i64 V.p.at_) (.slice V.B V.p.buf.length V.bc) (.slice V.L V.p.l.length V.lc)
            unfold set8W at bt
            have cg := Chg.mov Q10.out bt
            have L11 := Lib.hid (L10.out.trans (bt.up L10.out.size GQ.out))
            have Q11 : Hid (PBox _ q V) := Lib.hid (set8 Q10.out (.int .i64 V.p.h.host) (.int .i64 V.p.h.epoch) (.int .i64 V.p.h.seq) (.int .i64 V.p.zone) (.int .i64 V.p.cap) (.int .i64 V.p.at_) (.slice V.B V.p.buf.length V.bc) (.slice V.L V.p.l.length V.lc))
            unfold set8W at Q11
            have V11 := Lib.hid (OwnP.chg V10.out cg (by decide) (by decide))
            have X11 := Lib.hid (cg.cells X10.out (by decide))
            have B11 := Lib.hid (cg.ownI B10.out (by decide))
            clear bt cg k0 k1 k2 k3 k4 k5 k6 k7 f0 f1 f2 f3 f4 f5 f6 f7 L10 Q10 O10 V10 X10 B10
            generalize (((((((w10.setCell ⟨q, 0, none⟩ (.int .i64 V.p.h.host)).setCell ⟨q, 1, none⟩ (.int .i64 V.p.h.epoch)).setCell ⟨q, 2, none⟩ (.int .i64 V.p.h.seq)).setCell ⟨q, 3, none⟩ (.int .i64 V.p.zone)).setCell ⟨q, 4, none⟩ (.int .i64 V.p.cap)).setCell ⟨q, 5, none⟩ (.int .i64 V.p.at_)).setCell ⟨q, 6, none⟩ (.slice V.B V.p.buf.length V.bc)).setCell ⟨q, 7, none⟩ (.slice V.L V.p.l.length V.lc) = w11 at *
            go_wp2_with fail
            go_ret
            exact ⟨rfl, L11.out⟩
      · go_wp2_with (go_at_call 12; refine (HSG w4 L4.out).out.mono ?_; rintro e w5 ⟨X, k, d, rfl, hX, hb⟩; have L5 := Lib.hid (L4.out.trans (hb.mono L4.out.size)); clear hb hX)
        go_ret
        exact ⟨rfl, L5.out⟩
      · go_wp2_with (go_at_call 12; refine (HSG w4 L4.out).out.mono ?_; rintro e w5 ⟨X, k, d, rfl, hX, hb⟩; have L5 := Lib.hid (L4.out.trans (hb.mono L4.out.size)); clear hb hX)
        go_ret
        exact ⟨rfl, L5.out⟩
    · go_wp2_with (first | (go_at_call 7; with_reducible refine (HB1 w2 L2.out).out.mono ?_; rintro e w3 ⟨rfl, hb⟩; have L3 := Lib.hid (L2.out.trans (hb.mono L2.out.size)); have X3 := Lib.hid (Cells.below X2.out hb); clear hb X2) | (go_at_call 7; with_reducible refine (HB2 w3 L3.out).out.mono ?_; rintro e w4 ⟨rfl, hb⟩; have L4 := Lib.hid (L3.out.trans (hb.mono L3.out.size)); have X4 := Lib.hid (Cells.below X3.out hb); clear hb X3) | fail)
      go_ret
      exact ⟨rfl, L4.out⟩
  · go_wp2_with (go_at_call 7; with_reducible refine (HB1 w2 L2.out).out.mono ?_; rintro e w3 ⟨rfl, hb⟩; have L3 := Lib.hid (L2.out.trans (hb.mono L2.out.size)); have X3 := Lib.hid (Cells.below X2.out hb); clear hb X2)
    go_ret
    exact ⟨rfl, L3.out⟩
end Pk
end Go.Proofs.Ytedandbkdjmfhaa
/-
  THE STATEMENT PackerResumes (Upto): its row. For every input that the row can read, within the bound of the second form. (Written by gen_pkrows.py.)
-/
namespace Go.Proofs.Ytedandbkdjmfhaa
open Go.ChangeShapes Go.WideShapes Go.ChangeAt Go.RowKit Mem Args
namespace Pk

theorem packerResumes_says : Frame.Says Rows.packerResumesSpec 3 := by
  refine ⟨rfl, fun H ds h => ?_, fun H ds h => ?_, fun H ds h => ?_⟩ <;>
  · match ds, h with
    | [d0, d1, d2], _ => rfl

set_option maxRecDepth 100000 in
theorem packerResumes_walks : Frame.WalksU 4 [23, 24, 24] := by
  intro H enc W args ds ps base hok hA hsz hbd
  obtain ⟨v0, vs0, d0, ds0, p0, q0, hargs, rfl, rfl, h0, r0⟩ := trodAll_cons hA
  obtain ⟨v1, vs1, d1, ds1, p1, q1, rfl, rfl, rfl, h1, r1⟩ := trodAll_cons r0
  obtain ⟨v2, vs2, d2, ds2, p2, q2, rfl, rfl, rfl, h2, r2⟩ := trodAll_cons r1
  obtain ⟨rfl, rfl, rfl⟩ := trodAll_nil r2
  obtain rfl : args = #[v0, v1, v2] := by cases args; simp_all
  obtain ⟨f0, rfl, hf0⟩ := open_hdr (hok 0 _ v0 rfl rfl) h0
  obtain ⟨A1, n1, c1, l1, rfl, k1, hg1, hw1⟩ := open_recs (hok 1 _ v1 rfl rfl) h1 (sized_arg hsz (j := 1) rfl rfl)
  obtain ⟨A2, n2, c2, l2, rfl, k2, hg2, hw2⟩ := open_recs (hok 2 _ v2 rfl rfl) h2 (sized_arg hsz (j := 2) rfl rfl)
  simp only [Rows.uptoBulkAll] at hbd
  exact resumes_walk f0 k1 k2 hf0 hg1 hg2 (by unfold Seg.weigh; omega)

set_option maxRecDepth 100000 in
theorem packerResumes_over : Rows.packerResumesUptoRow.holds Try.pinned (Rows.OpenSpec.upto Rows.packerResumesSpec) :=
  OpenClaim.holds_of_cond 4 Try.f4 rfl rfl rfl rfl rfl rfl rfl ⟨rfl, rfl, rfl, rfl, rfl⟩ rfl rfl rfl rfl rfl (by kernel_rfl) Try.func4 (by kernel_rfl)
    (of_decide_eq_true (by kernel_rfl)) (by unfold Func.isWrapper; first | (rw [if_pos (by decide +kernel)]; kernel_rfl) | (rw [if_neg (by decide +kernel)]; exact ⟨rfl, rfl⟩))
    (fun os started H enc _ F => Frame.liftedU (started := started) F Try.underlying4 (by kernel_rfl) Try.func4 (n := 3) (by rw [Try.params4]; rfl) packerResumes_says (by rw [Try.params4]; kernel_rfl) (by kernel_rfl)
      (OpenSpec.witness (enc := enc) (C := Try.checked) (s := Rows.OpenSpec.upto Rows.packerResumesSpec) (k := Rows.uptoSmall) rfl false ⟨#[], #[.agg #[.int .i64 0, .int .i64 0, .int .i64 0], .slice none 0 0, .slice none 0 0], []⟩ 8 (by kernel_rfl) (by kernel_rfl) (by kernel_rfl)
        (x := ([.agg [.lit (.int .i64 0), .lit (.int .i64 0), .lit (.int .i64 0)], .nil, .nil], [], [])) (by kernel_rfl) rfl (by kernel_rfl))
      (by rw [Try.params4]; exact packerResumes_walks))
end Pk
/-- The given statement. -/
theorem packerResumesUpto_holds : Rows.PackerResumesUptoSaid := Pk.packerResumes_over
end Go.Proofs.Ytedandbkdjmfhaa
