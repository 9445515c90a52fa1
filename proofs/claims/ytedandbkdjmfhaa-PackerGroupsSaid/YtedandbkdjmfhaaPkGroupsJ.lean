/-
  SEVERAL TEXTS IN ONE FILE: PkSame, PkLive, PkOne, PkFar, PkGroups, PkGroupsRow.
-/
import Derived.Test.YtedandbkdjmfhaaPkAdd
import Derived.Laws.MakeOwn
import Derived.Test.YtedandbkdjmfhaaCut
/-
  WALKS OVER THE DOCUMENT: two packs the same; ints the same. The chapter's example in plain.
-/
namespace Go.Proofs.Ytedandbkdjmfhaa
open Go.RowKit Mem Box
namespace Pk
open Seg (Hdr Rc Rv cellsOf cellsOf_len RowR hdV recV fits nums hnums nn goods frame headX recX frames check recB headB)
set_option maxRecDepth 100000 in
set_option maxHeartbeats 800000 in
theorem sameInts_any {A B : Option Addr} {n c m d : Nat} {l : List Int} {w : World} (h1 : Row ci w A n c l) (h2 : Row ci w B m d l) :
    Calls Try.prog 17 #[.slice A n c, .slice B m d] w fun e w' => e = .returned (.bool true) ∧ Below w.heap.size w w' := by
  obtain rfl : n = m := by rw [← h1.len, h2.len]
  have H1 := Lib.hid h1
  have H2 := Lib.hid h2
  have hb := h1.big
  clear h1 h2
  go_enter Try.func17, Try.ntmps17
  go_wp2_with fail
  go_loopw [13] (fun i wr => ∃ k : Nat, i = .int .i64 k ∧ k ≤ n ∧ Hid (Below w.heap.size w wr)) (fun i _ => n - (intOf i).toNat)
  case atStart => exact ⟨0, rfl, by omega, Below.refl _ _⟩
  case round =>
    obtain ⟨k, rfl, hk, hB⟩ := hrel
    by_cases hlt : k < n
    · obtain ⟨z, hz⟩ := H1.out.get hlt
      obtain ⟨b1, o1, rfl, hc1⟩ := (H1.out.below hB.out).cell hz
      obtain ⟨b2, o2, rfl, hc2⟩ := (H2.out.below hB.out).cell hz
      have hc1' : wr.cell? ⟨b1, o1 + k, none⟩ = some (.int .i64 z) := hc1
      have hc2' : wr.cell? ⟨b2, o2 + k, none⟩ = some (.int .i64 z) := hc2
      have hk0 : (0 : Int) ≤ (k : Int) := by omega
      have hk1 : (k : Int) < (n : Int) := by omega
      clear hc1 hc2 hz
      go_wp2_with fail
      go_quiet (fail)
      go_wp2_with fail
      go_roundw
      case rel => exact ⟨k + 1, by go_num, by omega, below_drewN hB.out _⟩
      case measure => simp [intOf]; omega
    · go_wp2_with fail
      go_ret
      exact ⟨rfl, hB.out⟩

set_option maxRecDepth 100000 in
set_option maxHeartbeats 6400000 in
theorem same_pk {x : Px} {B L : Option Addr} {bc lc : Nat} {ys : List Rv} {w : World} (hx : PackAt w x) (hy : PackAt w ⟨x.p, B, bc, L, lc, ys⟩) :
    Calls Try.prog 18 #[pxv x, .agg #[.int .i64 x.p.h.host, .int .i64 x.p.h.epoch, .int .i64 x.p.h.seq, .int .i64 x.p.zone, .int .i64 x.p.cap, .int .i64 x.p.at_, .slice B x.p.buf.length bc, .slice L x.p.l.length lc]] w fun e w' => e = .returned (.bool true) ∧ Below w.heap.size w w' := by
  have L1 : Below w.heap.size w ((w.alloc (.cells #[.int .i64 x.p.h.host, .int .i64 x.p.h.epoch, .int .i64 x.p.h.seq, .int .i64 x.p.zone, .int .i64 x.p.cap, .int .i64 x.p.at_, .slice x.B x.p.buf.length x.bc, .slice x.L x.p.l.length x.lc] 29)).alloc (.cells #[.int .i64 x.p.h.host, .int .i64 x.p.h.epoch, .int .i64 x.p.h.seq, .int .i64 x.p.zone, .int .i64 x.p.cap, .int .i64 x.p.at_, .slice B x.p.buf.length bc, .slice L x.p.l.length lc] 29)) := (((Below.refl _ w).alloc (by first | exact Nat.le_refl _ | (simp; try omega)) _).alloc (by first | exact Nat.le_refl _ | (simp; try omega)) _)
  have X1 : Hid (PBox ((w.alloc (.cells #[.int .i64 x.p.h.host, .int .i64 x.p.h.epoch, .int .i64 x.p.h.seq, .int .i64 x.p.zone, .int .i64 x.p.cap, .int .i64 x.p.at_, .slice x.B x.p.buf.length x.bc, .slice x.L x.p.l.length x.lc] 29)).alloc (.cells #[.int .i64 x.p.h.host, .int .i64 x.p.h.epoch, .int .i64 x.p.h.seq, .int .i64 x.p.zone, .int .i64 x.p.cap, .int .i64 x.p.at_, .slice B x.p.buf.length bc, .slice L x.p.l.length lc] 29)) w.heap.size x) := Cells.alloc (Cells.new _ _ _) _
  have Y1 : Hid (Cells ((w.alloc (.cells #[.int .i64 x.p.h.host, .int .i64 x.p.h.epoch, .int .i64 x.p.h.seq, .int .i64 x.p.zone, .int .i64 x.p.cap, .int .i64 x.p.at_, .slice x.B x.p.buf.length x.bc, .slice x.L x.p.l.length x.lc] 29)).alloc (.cells #[.int .i64 x.p.h.host, .int .i64 x.p.h.epoch, .int .i64 x.p.h.seq, .int .i64 x.p.zone, .int .i64 x.p.cap, .int .i64 x.p.at_, .slice B x.p.buf.length bc, .slice L x.p.l.length lc] 29)) (w.heap.size + 1) 29 #[.int .i64 x.p.h.host, .int .i64 x.p.h.epoch, .int .i64 x.p.h.seq, .int .i64 x.p.zone, .int .i64 x.p.cap, .int .i64 x.p.at_, .slice B x.p.buf.length bc, .slice L x.p.l.length lc]) := by
    have := Cells.new (w.alloc (.cells #[.int .i64 x.p.h.host, .int .i64 x.p.h.epoch, .int .i64 x.p.h.seq, .int .i64 x.p.zone, .int .i64 x.p.cap, .int .i64 x.p.at_, .slice x.B x.p.buf.length x.bc, .slice x.L x.p.l.length x.lc] 29)) #[.int .i64 x.p.h.host, .int .i64 x.p.h.epoch, .int .i64 x.p.h.seq, .int .i64 x.p.zone, .int .i64 x.p.cap, .int .i64 x.p.at_, .slice B x.p.buf.length bc, .slice L x.p.l.length lc] 29
    rw [World.size_alloc] at this
    exact this
  have s1 := run_str (hx.buf.below L1)
  have s2 := run_str (hy.buf.below L1)
  have HS := fun W (hW : Below w.heap.size w W) => Lib.hid (Seg.sameRecs_any (hx.recs.below hW) (hy.recs.below hW) (hx.eq.trans hy.eq.symm))
  have L1 := Lib.hid L1
  unfold pxv
  dsimp only at s2 HS
  generalize str x.p.buf = sx at *
  clear hx hy
  go_enter Try.func18, Try.ntmps18
  go_upto_region 1 with fail
  generalize (w.alloc (.cells #[.int .i64 x.p.h.host, .int .i64 x.p.h.epoch, .int .i64 x.p.h.seq, .int .i64 x.p.zone, .int .i64 x.p.cap, .int .i64 x.p.at_, .slice x.B x.p.buf.length x.bc, .slice x.L x.p.l.length x.lc] 29)).alloc (.cells #[.int .i64 x.p.h.host, .int .i64 x.p.h.epoch, .int .i64 x.p.h.seq, .int .i64 x.p.zone, .int .i64 x.p.cap, .int .i64 x.p.at_, .slice B x.p.buf.length bc, .slice L x.p.l.length lc] 29) = w1 at *
  obtain ⟨m0, m1, m2, m3, m4, m5, m6, m7⟩ := eight_cells X1.out
  obtain ⟨k0, k1, k2, k3, k4, k5, k6, k7⟩ := eight_cells Y1.out
  go_wp2_with (go_at_call 16; refine (HS w1 L1.out).out.mono ?_; rintro e w2 ⟨rfl, hb⟩; have L2 := Lib.hid (L1.out.trans (hb.mono L1.out.size)); clear hb)
  go_ret
  exact ⟨rfl, L2.out⟩

/-! ### The example -/
def exH : Hdr := ⟨1, 2, 0⟩
def exR : Rc := ⟨1, 0, 1, 0, 0, 0, List.replicate 16 0#8⟩
theorem exH_nn : nn (hnums exH) := by intro z hz; simp [hnums, exH] at hz; omega
theorem exH_fits : fits (hnums exH) := by intro z hz; simp [hnums, exH] at hz; omega
theorem exR_fits : fits (nums exR) := by intro z hz; simp [nums, exR] at hz; omega
theorem exR_check : check exR = 0 := by decide
theorem enc_one {n : Nat} (h : n < 128) : (Wire.enc n).length = 1 := by rw [Wire.enc_lt h]; rfl
theorem exH_len : (frame (headX exH)).length = 9 := by
  have h : (headX exH).length = 4 := by simp [headX, hnums, exH, Wire.encs, Wire.enc_lt]
  rw [Seg.frame_len, h, enc_one (by omega)]
theorem exR_len : flen exR = 28 := by
  have h : (recX exR).length = 23 := by simp [recX, nums, exR, Wire.encs, Wire.enc_lt, Wire.encV]
  unfold flen
  rw [Seg.frame_len, h, enc_one (by omega)]
def exP : Pp := ⟨exH, 3, 200, 0, frame (headX exH), []⟩
theorem exP_len : exP.buf.length = 9 := exH_len
theorem ex_may : mayZ 3 200 := by unfold mayZ; omega
theorem ex_begin : beginP exH 3 200 = (exP, 0) := by
  unfold beginP
  rw [if_pos exH_nn, if_pos ex_may, if_pos (by rw [exH_len]; omega)]
  rfl
theorem exP_ok : OkP exP := OkP.begun (h := exH) ex_may (by rw [exH_len]; omega)
theorem ex_fits : fitsP exP [exR] := by
  unfold fitsP
  rw [exP_len, frames_one, exR_len]
  show (0 : Int) + _ + _ ≤ 200
  omega
theorem ex_errB : errB [exR] = 0 := by rw [errB_one]; exact exR_check
theorem ex_place : placeR exR = 8 := by unfold placeR; rw [exR_len]; rfl
theorem ex_add : addP exP [exR] = (moreP exP [exR], [17], 0) := by
  rw [addP_ok ex_errB ex_fits, places_one, exP_len, ex_place]
  rfl
theorem exM_ok : OkP (moreP exP [exR]) := exP_ok.more ex_errB ex_fits
theorem exM_len : (moreP exP [exR]).buf.length = 37 := by
  show (exP.buf ++ frames [exR]).length = 37
  rw [List.length_append, exP_len, frames_one, exR_len]
end Pk
end Go.Proofs.Ytedandbkdjmfhaa
/-
  A WALK: the chapter's example (live).
-/
namespace Go.Proofs.Ytedandbkdjmfhaa
open Go.RowKit Mem Box
namespace Pk
open Seg (Hdr Rc Rv cellsOf cellsOf_len RowR hdV recV fits nums hnums nn goods frame headX recX frames check recB headB)
theorem run_make16 (w : World) : (Instr.makeSlice 27 (.int .i64 16) (.int .i64 16)).run Try.prog w = .ok (.slice (some ⟨w.heap.size, 0, none⟩) 16 16) (w.alloc (.cells (madeCells #[.int .u8 0] 16) 5)) := by
  obtain ⟨i, hi, hz0, hz1, hz2⟩ := info_parts info_byte
  have h := run_make (P := Try.prog) w 27 5 i _ Try.underlying27 hi hz0 .i64 .i64 16 16 (by omega) (by omega) (by rw [hz2]; omega) (by omega)
  rw [hz1] at h
  exact h
theorem made16 (w : World) : Row cb (w.alloc (.cells (madeCells #[.int .u8 0] 16) 5)) (some ⟨w.heap.size, 0, none⟩) 16 16 (List.replicate 16 0#8) := by
  have h := Mem.Owns.made cb 5 w (List.replicate 16 0#8) (by decide) (Nat.le_refl _)
  have e : ((List.replicate 16 0#8).map cb).toArray = madeCells #[.int .u8 0] 16 := by
    apply Array.toList_inj.1
    apply List.ext_getElem?
    intro i
    unfold madeCells
    simp only [Array.getElem?_toList, Array.getElem?_map, Array.getElem?_range, List.getElem?_map, List.getElem?_replicate]
    split <;> simp [cb, u, Nat.mod_one]
  rw [e] at h
  exact (Wire.gave_row h (by decide)).1
theorem exBegin_any (w : World) : Calls Try.prog 8 #[.agg #[.int .i64 1, .int .i64 2, .int .i64 0], .int .i64 3, .int .i64 200] w fun e w' => ∃ B bc L lc ys, e = .returned (.tuple #[.agg #[.int .i64 1, .int .i64 2, .int .i64 0, .int .i64 3, .int .i64 200, .int .i64 0, .slice B 9 bc, .slice L 0 lc], .int .i64 0]) ∧ OwnP w.heap.size w' ⟨exP, B, bc, L, lc, ys⟩ ∧ Below w.heap.size w w' := by
  have h := begin_any (h := exH) (zone := 3) (most := 200) (w := w) exH_fits
  rw [ex_begin] at h
  refine h.mono ?_
  rintro e w' ⟨⟨p, B, bc, L, lc, ys⟩, rfl, hp, hO, hb⟩
  obtain rfl : p = exP := hp
  refine ⟨B, bc, L, lc, ys, ?_, hO, hb⟩
  unfold pxv
  dsimp only
  rw [exP_len]
  rfl
theorem exAdd_any {B : Option Addr} {bc : Nat} {L : Option Addr} {lc : Nat} {ys : List Rv} {base g r : Nat} {w : World} (hp : OwnP base w ⟨exP, B, bc, L, lc, ys⟩) (hr : RowS cellsOf 7 w (some ⟨r, 0, none⟩) 1 1 [⟨exR, some ⟨g, 0, none⟩, 16⟩]) (hd : Row cb w (some ⟨g, 0, none⟩) 16 16 (List.replicate 16 0#8)) :
    Calls Try.prog 10 #[.agg #[.int .i64 1, .int .i64 2, .int .i64 0, .int .i64 3, .int .i64 200, .int .i64 0, .slice B 9 bc, .slice L 0 lc], .slice (some ⟨r, 0, none⟩) 1 1] w fun e w' => ∃ B bc L lc ys T d, e = .returned (.tuple #[.agg #[.int .i64 1, .int .i64 2, .int .i64 0, .int .i64 3, .int .i64 200, .int .i64 0, .slice B 37 bc, .slice L 1 lc], .slice T 1 d, .int .i64 0]) ∧ OwnP w.heap.size w' ⟨moreP exP [exR], B, bc, L, lc, ys⟩ ∧ Mem.Owns ci 3 w.heap.size w' (.slice T 1 d) 1 [17] ∧ Below w.heap.size w w' := by
  have hR : RowR w (some ⟨r, 0, none⟩) 1 1 [⟨exR, some ⟨g, 0, none⟩, 16⟩] := rowR_of hr (by omega) (by intro x hx; rw [List.mem_singleton.1 hx]; exact hd)
  have h := add_any (hp.any exP_ok) exP_ok hR (by intro r hr; rw [List.mem_singleton.1 hr]; exact exR_fits)
  rw [show [(⟨exR, some ⟨g, 0, none⟩, 16⟩ : Rv)].map Rv.r = [exR] from rfl, ex_add] at h
  have hv : pxv ⟨exP, B, bc, L, lc, ys⟩ = .agg #[.int .i64 1, .int .i64 2, .int .i64 0, .int .i64 3, .int .i64 200, .int .i64 0, .slice B 9 bc, .slice L 0 lc] := by
    unfold pxv
    dsimp only
    rw [exP_len]
    rfl
  rw [hv] at h
  refine h.mono ?_
  rintro e w' ⟨⟨p, B, bc, L, lc, ys⟩, T, k, d, rfl, hp, hO, hT, hb⟩
  obtain rfl : p = moreP exP [exR] := hp
  obtain rfl : 1 = k := hT.len
  refine ⟨B, bc, L, lc, ys, T, d, ?_, hO, hT, hb⟩
  unfold pxv
  dsimp only
  rw [exM_len]
  rfl
theorem exFlush_any {B : Option Addr} {bc : Nat} {L : Option Addr} {lc : Nat} {ys : List Rv} {base : Nat} {w : World} (hp : OwnP base w ⟨moreP exP [exR], B, bc, L, lc, ys⟩) :
    Calls Try.prog 15 #[.agg #[.int .i64 1, .int .i64 2, .int .i64 0, .int .i64 3, .int .i64 200, .int .i64 0, .slice B 37 bc, .slice L 1 lc]] w fun e w' => ∃ B d L lc M mc, e = .returned (.tuple #[.agg #[.int .i64 1, .int .i64 3, .int .i64 2, .int .i64 0, .int .i64 0, .slice B 37 d], .agg #[.int .i64 1, .int .i64 2, .int .i64 0, .int .i64 3, .int .i64 200, .int .i64 37, .slice L 0 lc, .slice M 0 mc], .bool true]) ∧ Below w.heap.size w w' := by
  have h := flush_some (hp.any exM_ok) exM_ok (by show 0 < (moreP exP [exR]).buf.length; rw [exM_len]; omega)
  have hv : pxv ⟨moreP exP [exR], B, bc, L, lc, ys⟩ = .agg #[.int .i64 1, .int .i64 2, .int .i64 0, .int .i64 3, .int .i64 200, .int .i64 0, .slice B 37 bc, .slice L 1 lc] := by
    unfold pxv
    dsimp only
    rw [exM_len]
    rfl
  rw [hv] at h
  refine h.mono ?_
  rintro e w' ⟨B, d, ⟨p, L, lc, M, mc, ys⟩, rfl, hp, -, -, hb⟩
  obtain rfl : p = behindP (moreP exP [exR]) := hp
  refine ⟨B, d, L, lc, M, mc, ?_, hb⟩
  unfold pxv behindP
  dsimp only
  rw [exM_len]
  rfl
set_option maxRecDepth 100000 in
set_option maxHeartbeats 6400000 in
theorem live_any (w : World) : Calls Try.prog 6 #[] w fun e w' => e = .returned (.bool true) ∧ Below w.heap.size w w' := by
  have HBG := fun w => Lib.hid (exBegin_any w)
  have hmk := run_make16
  have L1 := Lib.hid (Below.refl w.heap.size w)
  go_enter Try.func6, Try.ntmps6
  go_upto_region 2 with (go_at_call 8; refine (HBG w).out.mono ?_; rintro e w2 ⟨B, bc, L, lc, ys, rfl, hO, hb⟩; have L2 := Lib.hid (L1.out.trans (hb.mono L1.out.size)); have O2 := Lib.hid hO; clear hO hb L1)
  have BB : Below w2.heap.size w2 (w2.alloc (.cells #[.int .i64 1, .int .i64 2, .int .i64 0, .int .i64 3, .int .i64 200, .int .i64 0, .slice B 9 bc, .slice L 0 lc] 29)) := (Below.refl _ w2).alloc (Nat.le_refl _) _
  have Q3 : Hid (Cells (w2.alloc (.cells #[.int .i64 1, .int .i64 2, .int .i64 0, .int .i64 3, .int .i64 200, .int .i64 0, .slice B 9 bc, .slice L 0 lc] 29)) w2.heap.size 29 #[.int .i64 1, .int .i64 2, .int .i64 0, .int .i64 3, .int .i64 200, .int .i64 0, .slice B 9 bc, .slice L 0 lc]) := Cells.new _ _ _
  have L3 := Lib.hid (L2.out.trans (BB.mono L2.out.size))
  have O3 := Lib.hid (O2.out.below BB)
  have GQ := Lib.hid (L2.out.size)
  clear BB L2 O2
  generalize w2.alloc (.cells #[.int .i64 1, .int .i64 2, .int .i64 0, .int .i64 3, .int .i64 200, .int .i64 0, .slice B 9 bc, .slice L 0 lc] 29) = w3 at *
  generalize w2.heap.size = q at *
  have L4 := Lib.hid L3.out.drew
  have Q4 := Lib.hid (Cells.below Q3.out ((Below.refl _ w3).drew))
  have O4 := Lib.hid (OwnP.below O3.out ((Below.refl _ w3).drew))
  refine wp_region_held_drew (S := fun W => True) (by kernel_rfl) (trivial) (fun hHeld => ?_)
  generalize w3.drew = w4 at *
  clear L3 Q3 O3 
  refine Reg.step2 0 1 rfl rfl (by kernel_rfl) (by rfl) (by rfl) (fun K hK => ?_) (fun K hK => ?_)
  · skip
    obtain ⟨m0, m1, m2, m3, m4, m5, m6, m7⟩ := eight_cells Q4.out
    go_simp
    refine hK.out _ _ trivial (fun hHeld => ?_)
    clear hK K m0 m1 m2 m3 m4 m5 m6 m7
    (try simp only [Act.put, List.setIfInBounds_toArray, List.set_cons_zero, List.set_cons_succ])
    refine Reg.step 1 rfl (by kernel_rfl) (by rfl) (fun K hK => ?_)
    go_simp
    have bb : Below w4.heap.size w4 (w4.alloc (.cells (madeCells #[.int .u8 0] 16) 5)) := (Below.refl _ w4).alloc (Nat.le_refl _) _
    have D5 := Lib.hid (made16 w4)
    have L5 := Lib.hid (L4.out.trans (bb.mono L4.out.size))
    have Q5 := Lib.hid (Cells.below Q4.out bb)
    have O5 := Lib.hid (OwnP.below O4.out bb)
    obtain ⟨g, hg⟩ : ∃ p, p = w4.heap.size := ⟨_, rfl⟩
    rw [← hg] at D5
    rw [← hg]
    have Gg : Hid (g = w4.heap.size) := hg
    clear bb hHeld hg
    clear L4 Q4 O4 
    generalize w4.alloc (.cells (madeCells #[.int .u8 0] 16) 5) = w5 at *
    refine hK.out _ _ (trivial) (fun hHeld => ?_)
    clear hK K
    (try simp only [Act.put, List.setIfInBounds_toArray, List.set_cons_zero, List.set_cons_succ])
    (first | (refine Reg.take 2 (v := ?_) rfl (by kernel_rfl) (by kernel_rfl) (by kernel_rfl) (fun _ _ _ h => h) (Or.inl ⟨by rfl, ?_⟩) (by assumption) ?_; rotate_left; (focus ((intro W hSW); (try dsimp only at hSW); (try go_split_ands); go_simp; (try (with_reducible rfl)); done))) | (refine Reg.take 2 (v := undef) rfl (by kernel_rfl) (by kernel_rfl) (by kernel_rfl) (fun _ _ _ h => h) (Or.inr ⟨by rfl, rfl⟩) (by assumption) ?_))
    (try simp only [Act.put, List.setIfInBounds_toArray, List.set_cons_zero, List.set_cons_succ])
    refine Reg.step 3 rfl (by kernel_rfl) (by rfl) (fun K hK => ?_)
    go_simp
    have bb : Below w5.heap.size w5 (w5.alloc (.cells #[.int .i64 1, .int .i64 0, .int .i64 1, .int .i64 0, .int .i64 0, .int .i64 0, .slice (some ⟨g, 0, none⟩) 16 16] 34)) := (Below.refl _ w5).alloc (Nat.le_refl _) _
    have R6 := Lib.hid (show RowS cellsOf 7 (w5.alloc (.cells #[.int .i64 1, .int .i64 0, .int .i64 1, .int .i64 0, .int .i64 0, .int .i64 0, .slice (some ⟨g, 0, none⟩) 16 16] 34)) (some ⟨w5.heap.size, 0, none⟩) 1 1 [⟨exR, some ⟨g, 0, none⟩, 16⟩] from row_oneR (w := w5) (y := ⟨exR, some ⟨g, 0, none⟩, 16⟩) rfl)
    have L6 := Lib.hid (L5.out.trans (bb.mono L5.out.size))
    have Q6 := Lib.hid (Cells.below Q5.out bb)
    have O6 := Lib.hid (OwnP.below O5.out bb)
    have D6 := Lib.hid (Row.below D5.out bb)
    obtain ⟨r, hr⟩ : ∃ p, p = w5.heap.size := ⟨_, rfl⟩
    rw [← hr] at R6
    rw [← hr]
    have Gr : Hid (r = w5.heap.size) := hr
    clear bb hHeld hr
    clear L5 Q5 O5 D5 
    generalize w5.alloc (.cells #[.int .i64 1, .int .i64 0, .int .i64 1, .int .i64 0, .int .i64 0, .int .i64 0, .slice (some ⟨g, 0, none⟩) 16 16] 34) = w6 at *
    refine hK.out _ _ (trivial) (fun hHeld => ?_)
    clear hK K
    (try simp only [Act.put, List.setIfInBounds_toArray, List.set_cons_zero, List.set_cons_succ])
    refine Reg.step 4 rfl (by kernel_rfl) (by rfl) (fun K hK => ?_)
    go_simp
    refine (exAdd_any O6.out R6.out D6.out).mono ?_
    rintro e w7 ⟨B2, bc2, L2, lc2, ys2, T, td, rfl, hO, hT, hb⟩
    have L7 := Lib.hid (L6.out.trans (hb.mono L6.out.size))
    have Q7 := Lib.hid (Cells.below Q6.out hb)
    have O7 := Lib.hid (OwnP.below O6.out hb)
    have D7 := Lib.hid (Row.below D6.out hb)
    have R7 := Lib.hid (RowS.below R6.out hb)
    clear O7 D7 R7
    have O7 := Lib.hid (hO.mono L6.out.size)
    have T7 := Lib.hid (hT.mono L6.out.size)
    clear hb hHeld hO hT
    clear L6 Q6 O6 D6 R6 
    refine hK.out _ _ (trivial) (fun hHeld => ?_)
    clear hK K
    (try simp only [Act.put, List.setIfInBounds_toArray, List.set_cons_zero, List.set_cons_succ])
    (first | (refine Reg.take 5 (v := ?_) rfl (by kernel_rfl) (by kernel_rfl) (by kernel_rfl) (fun _ _ _ h => h) (Or.inl ⟨by rfl, ?_⟩) (by assumption) ?_; rotate_left; (focus ((intro W hSW); (try dsimp only at hSW); (try go_split_ands); go_simp; (try (with_reducible rfl)); done))) | (refine Reg.take 5 (v := undef) rfl (by kernel_rfl) (by kernel_rfl) (by kernel_rfl) (fun _ _ _ h => h) (Or.inr ⟨by rfl, rfl⟩) (by assumption) ?_))
    (try simp only [Act.put, List.setIfInBounds_toArray, List.set_cons_zero, List.set_cons_succ])
    (first | (refine Reg.take 6 (v := ?_) rfl (by kernel_rfl) (by kernel_rfl) (by kernel_rfl) (fun _ _ _ h => h) (Or.inl ⟨by rfl, ?_⟩) (by assumption) ?_; rotate_left; (focus ((intro W hSW); (try dsimp only at hSW); (try go_split_ands); go_simp; (try (with_reducible rfl)); done))) | (refine Reg.take 6 (v := undef) rfl (by kernel_rfl) (by kernel_rfl) (by kernel_rfl) (fun _ _ _ h => h) (Or.inr ⟨by rfl, rfl⟩) (by assumption) ?_))
    (try simp only [Act.put, List.setIfInBounds_toArray, List.set_cons_zero, List.set_cons_succ])
    (first | (refine Reg.take 7 (v := ?_) rfl (by kernel_rfl) (by kernel_rfl) (by kernel_rfl) (fun _ _ _ h => h) (Or.inl ⟨by rfl, ?_⟩) (by assumption) ?_; rotate_left; (focus ((intro W hSW); (try dsimp only at hSW); (try go_split_ands); go_simp; (try (with_reducible rfl)); done))) | (refine Reg.take 7 (v := undef) rfl (by kernel_rfl) (by kernel_rfl) (by kernel_rfl) (fun _ _ _ h => h) (Or.inr ⟨by rfl, rfl⟩) (by assumption) ?_))
    (try simp only [Act.put, List.setIfInBounds_toArray, List.set_cons_zero, List.set_cons_succ])
    (first | (refine Reg.take 8 (v := ?_) rfl (by kernel_rfl) (by kernel_rfl) (by kernel_rfl) (fun _ _ _ h => h) (Or.inl ⟨by rfl, ?_⟩) (by assumption) ?_; rotate_left; (focus ((intro W hSW); (try dsimp only at hSW); (try go_split_ands); go_simp; (try (with_reducible rfl)); done))) | (refine Reg.take 8 (v := undef) rfl (by kernel_rfl) (by kernel_rfl) (by kernel_rfl) (fun _ _ _ h => h) (Or.inr ⟨by rfl, rfl⟩) (by assumption) ?_))
    (try simp only [Act.put, List.setIfInBounds_toArray, List.set_cons_zero, List.set_cons_succ])
    have y0 := Cells.cell Q7.out 0
    have f0 := Cells.frozen Q7.out 0
    have y1 := Cells.cell Q7.out 1
    have f1 := Cells.frozen Q7.out 1
    have y2 := Cells.cell Q7.out 2
    have f2 := Cells.frozen Q7.out 2
    have y3 := Cells.cell Q7.out 3
    have f3 := Cells.frozen Q7.out 3
    have y4 := Cells.cell Q7.out 4
    have f4 := Cells.frozen Q7.out 4
    have y5 := Cells.cell Q7.out 5
    have f5 := Cells.frozen Q7.out 5
    have y6 := Cells.cell Q7.out 6
    have f6 := Cells.frozen Q7.out 6
    have y7 := Cells.cell Q7.out 7
    have f7 := Cells.frozen Q7.out 7
    refine Reg.step 9 rfl (by kernel_rfl) (by rfl) (fun K hK => ?_)
    go_simp
    have bt := mov8 w7 q (.int .i64 1) (.int .i64 2) (.int .i64 0) (.int .i64 3) (.int .i64 200) (.int .i64 0) (.slice B2 37 bc2) (.slice L2 1 lc2)
    unfold set8W at bt
    have cg := Chg.mov Q7.out bt
    have L8 := Lib.hid (L7.out.trans (bt.up L7.out.size GQ.out))
    have Q8 : Hid (Cells ((((((((w7.setCell ⟨q, 0, none⟩ (.int .i64 1)).setCell ⟨q, 1, none⟩ (.int .i64 2)).setCell ⟨q, 2, none⟩ (.int .i64 0)).setCell ⟨q, 3, none⟩ (.int .i64 3)).setCell ⟨q, 4, none⟩ (.int .i64 200)).setCell ⟨q, 5, none⟩ (.int .i64 0)).setCell ⟨q, 6, none⟩ (.slice B2 37 bc2)).setCell ⟨q, 7, none⟩ (.slice L2 1 lc2)) q 29 #[.int .i64 1, .int .i64 2, .int .i64 0, .int .i64 3, .int .i64 200, .int .i64 0, .slice B2 37 bc2, .slice L2 1 lc2]) := set8 Q7.out (.int .i64 1) (.int .i64 2) (.int .i64 0) (.int .i64 3) (.int .i64 200) (.int .i64 0) (.slice B2 37 bc2) (.slice L2 1 lc2)
    have O8 := Lib.hid (O7.out.chg cg (by decide) (by decide))
    have T8 := Lib.hid (cg.ownI T7.out (by decide))
    clear bt cg hHeld L7 Q7 O7 T7 y0 f0 y1 f1 y2 f2 y3 f3 y4 f4 y5 f5 y6 f6 y7 f7
    generalize (((((((w7.setCell ⟨q, 0, none⟩ (.int .i64 1)).setCell ⟨q, 1, none⟩ (.int .i64 2)).setCell ⟨q, 2, none⟩ (.int .i64 0)).setCell ⟨q, 3, none⟩ (.int .i64 3)).setCell ⟨q, 4, none⟩ (.int .i64 200)).setCell ⟨q, 5, none⟩ (.int .i64 0)).setCell ⟨q, 6, none⟩ (.slice B2 37 bc2)).setCell ⟨q, 7, none⟩ (.slice L2 1 lc2) = w8 at *
    refine hK.out _ _ trivial (fun hHeld => ?_)
    clear hK K
    (try simp only [Act.put, List.setIfInBounds_toArray, List.set_cons_zero, List.set_cons_succ])
    (first | (refine Reg.take 10 (v := ?_) rfl (by kernel_rfl) (by kernel_rfl) (by kernel_rfl) (fun _ _ _ h => h) (Or.inl ⟨by rfl, ?_⟩) (by assumption) ?_; rotate_left; (focus ((intro W hSW); (try dsimp only at hSW); (try go_split_ands); go_simp; (try (with_reducible rfl)); done))) | (refine Reg.take 10 (v := undef) rfl (by kernel_rfl) (by kernel_rfl) (by kernel_rfl) (fun _ _ _ h => h) (Or.inr ⟨by rfl, rfl⟩) (by assumption) ?_))
    (try simp only [Act.put, List.setIfInBounds_toArray, List.set_cons_zero, List.set_cons_succ])
    (first | (refine Reg.take 11 (v := ?_) rfl (by kernel_rfl) (by kernel_rfl) (by kernel_rfl) (fun _ _ _ h => h) (Or.inl ⟨by rfl, ?_⟩) (by assumption) ?_; rotate_left; (focus ((intro W hSW); (try dsimp only at hSW); (try go_split_ands); go_simp; (try (with_reducible rfl)); done))) | (refine Reg.take 11 (v := undef) rfl (by kernel_rfl) (by kernel_rfl) (by kernel_rfl) (fun _ _ _ h => h) (Or.inr ⟨by rfl, rfl⟩) (by assumption) ?_))
    (try simp only [Act.put, List.setIfInBounds_toArray, List.set_cons_zero, List.set_cons_succ])
    refine wpAnyH_done (by kernel_rfl) ?_ _
    clear hHeld
    obtain ⟨m0, m1, m2, m3, m4, m5, m6, m7⟩ := eight_cells Q8.out
    have FL := Lib.hid (exFlush_any O8.out)
    obtain ⟨b, o, hTA, hc⟩ := ((Wire.gave_row T8.out (by decide)).1).cell (i := 0) (x := (17 : Int)) rfl
    subst hTA
    obtain ⟨hbt, hcc⟩ : b < w8.heap.size ∧ w8.cell? ⟨b, o, none⟩ = some (.int .i64 17) := by
      refine ⟨(OwnB.owns_lt T8.out b rfl).2, hc⟩
    have HT := Lib.hid hcc
    clear hc hcc
    go_upto_region 4 with (go_at_call 15; refine FL.out.mono ?_; rintro e w9 ⟨C, cc, N, nc, M, mc, rfl, hb⟩; have L9 := Lib.hid (L8.out.trans (hb.mono L8.out.size)); have T9 := Lib.hid ((World.cell?_of_block (hb.block b hbt)).trans HT.out); have hbt2 := Nat.lt_of_lt_of_le hbt hb.size; clear hb m0 m1 m2 m3 m4 m5 m6 m7 FL)
    have L10 : Hid (Below w.heap.size w ((w9.alloc (.cells #[.int .i64 1, .int .i64 3, .int .i64 2, .int .i64 0, .int .i64 0, .slice C 37 cc] 48)).alloc (.cells #[.int .i64 1, .int .i64 2, .int .i64 0, .int .i64 3, .int .i64 200, .int .i64 37, .slice N 0 nc, .slice M 0 mc] 29))) := Lib.hid ((L9.out.alloc L9.out.size _).alloc (by have := L9.out.size; simp; omega) _)
    have C10 : Hid (Cells ((w9.alloc (.cells #[.int .i64 1, .int .i64 3, .int .i64 2, .int .i64 0, .int .i64 0, .slice C 37 cc] 48)).alloc (.cells #[.int .i64 1, .int .i64 2, .int .i64 0, .int .i64 3, .int .i64 200, .int .i64 37, .slice N 0 nc, .slice M 0 mc] 29)) w9.heap.size 48 #[.int .i64 1, .int .i64 3, .int .i64 2, .int .i64 0, .int .i64 0, .slice C 37 cc]) := Lib.hid (Cells.alloc (Cells.new _ _ _) _)
    have P10 : Hid (Cells ((w9.alloc (.cells #[.int .i64 1, .int .i64 3, .int .i64 2, .int .i64 0, .int .i64 0, .slice C 37 cc] 48)).alloc (.cells #[.int .i64 1, .int .i64 2, .int .i64 0, .int .i64 3, .int .i64 200, .int .i64 37, .slice N 0 nc, .slice M 0 mc] 29)) (w9.heap.size + 1) 29 #[.int .i64 1, .int .i64 2, .int .i64 0, .int .i64 3, .int .i64 200, .int .i64 37, .slice N 0 nc, .slice M 0 mc]) := by
      have := Cells.new (w9.alloc (.cells #[.int .i64 1, .int .i64 3, .int .i64 2, .int .i64 0, .int .i64 0, .slice C 37 cc] 48)) #[.int .i64 1, .int .i64 2, .int .i64 0, .int .i64 3, .int .i64 200, .int .i64 37, .slice N 0 nc, .slice M 0 mc] 29
      rw [World.size_alloc] at this
      exact this
    have T10 : Hid (((w9.alloc (.cells #[.int .i64 1, .int .i64 3, .int .i64 2, .int .i64 0, .int .i64 0, .slice C 37 cc] 48)).alloc (.cells #[.int .i64 1, .int .i64 2, .int .i64 0, .int .i64 3, .int .i64 200, .int .i64 37, .slice N 0 nc, .slice M 0 mc] 29)).cell? ⟨b, o, none⟩ = some (.int .i64 17)) := Lib.hid ((World.cell?_of_block (((((Below.refl w9.heap.size w9).alloc (Nat.le_refl _) _).alloc (by simp) _).block b hbt2))).trans T9.out)
    generalize (w9.alloc (.cells #[.int .i64 1, .int .i64 3, .int .i64 2, .int .i64 0, .int .i64 0, .slice C 37 cc] 48)).alloc (.cells #[.int .i64 1, .int .i64 2, .int .i64 0, .int .i64 3, .int .i64 200, .int .i64 37, .slice N 0 nc, .slice M 0 mc] 29) = w10 at *
    generalize w9.heap.size = p at *
    obtain ⟨c0, c1, c2, c3, c4, c5⟩ := six_cells C10.out
    obtain ⟨p0, p1, p2, p3, p4, p5, p6, p7⟩ := eight_cells P10.out
    have t0 := T10.out
    go_quiet (fail)
    go_wp2_with fail
    go_ret
    exact ⟨rfl, below_drewN L10.out _⟩
  · skip
    go_simp
    have bb : Below w4.heap.size w4 (w4.alloc (.cells (madeCells #[.int .u8 0] 16) 5)) := (Below.refl _ w4).alloc (Nat.le_refl _) _
    have D5 := Lib.hid (made16 w4)
    have L5 := Lib.hid (L4.out.trans (bb.mono L4.out.size))
    have Q5 := Lib.hid (Cells.below Q4.out bb)
    have O5 := Lib.hid (OwnP.below O4.out bb)
    obtain ⟨g, hg⟩ : ∃ p, p = w4.heap.size := ⟨_, rfl⟩
    rw [← hg] at D5
    rw [← hg]
    have Gg : Hid (g = w4.heap.size) := hg
    clear bb hHeld hg
    clear L4 Q4 O4 
    generalize w4.alloc (.cells (madeCells #[.int .u8 0] 16) 5) = w5 at *
    refine hK.out _ _ (trivial) (fun hHeld => ?_)
    clear hK K
    (try simp only [Act.put, List.setIfInBounds_toArray, List.set_cons_zero, List.set_cons_succ])
    (first | (refine Reg.take 2 (v := ?_) rfl (by kernel_rfl) (by kernel_rfl) (by kernel_rfl) (fun _ _ _ h => h) (Or.inl ⟨by rfl, ?_⟩) (by assumption) ?_; rotate_left; (focus ((intro W hSW); (try dsimp only at hSW); (try go_split_ands); go_simp; (try (with_reducible rfl)); done))) | (refine Reg.take 2 (v := undef) rfl (by kernel_rfl) (by kernel_rfl) (by kernel_rfl) (fun _ _ _ h => h) (Or.inr ⟨by rfl, rfl⟩) (by assumption) ?_))
    (try simp only [Act.put, List.setIfInBounds_toArray, List.set_cons_zero, List.set_cons_succ])
    refine Reg.step2 0 3 rfl rfl (by kernel_rfl) (by rfl) (by rfl) (fun K hK => ?_) (fun K hK => ?_)
    · skip
      obtain ⟨m0, m1, m2, m3, m4, m5, m6, m7⟩ := eight_cells Q5.out
      go_simp
      refine hK.out _ _ trivial (fun hHeld => ?_)
      clear hK K m0 m1 m2 m3 m4 m5 m6 m7
      (try simp only [Act.put, List.setIfInBounds_toArray, List.set_cons_zero, List.set_cons_succ])
      refine Reg.step 3 rfl (by kernel_rfl) (by rfl) (fun K hK => ?_)
      go_simp
      have bb : Below w5.heap.size w5 (w5.alloc (.cells #[.int .i64 1, .int .i64 0, .int .i64 1, .int .i64 0, .int .i64 0, .int .i64 0, .slice (some ⟨g, 0, none⟩) 16 16] 34)) := (Below.refl _ w5).alloc (Nat.le_refl _) _
      have R6 := Lib.hid (show RowS cellsOf 7 (w5.alloc (.cells #[.int .i64 1, .int .i64 0, .int .i64 1, .int .i64 0, .int .i64 0, .int .i64 0, .slice (some ⟨g, 0, none⟩) 16 16] 34)) (some ⟨w5.heap.size, 0, none⟩) 1 1 [⟨exR, some ⟨g, 0, none⟩, 16⟩] from row_oneR (w := w5) (y := ⟨exR, some ⟨g, 0, none⟩, 16⟩) rfl)
      have L6 := Lib.hid (L5.out.trans (bb.mono L5.out.size))
      have Q6 := Lib.hid (Cells.below Q5.out bb)
      have O6 := Lib.hid (OwnP.below O5.out bb)
      have D6 := Lib.hid (Row.below D5.out bb)
      obtain ⟨r, hr⟩ : ∃ p, p = w5.heap.size := ⟨_, rfl⟩
      rw [← hr] at R6
      rw [← hr]
      have Gr : Hid (r = w5.heap.size) := hr
      clear bb hHeld hr
      clear L5 Q5 O5 D5 
      generalize w5.alloc (.cells #[.int .i64 1, .int .i64 0, .int .i64 1, .int .i64 0, .int .i64 0, .int .i64 0, .slice (some ⟨g, 0, none⟩) 16 16] 34) = w6 at *
      refine hK.out _ _ (trivial) (fun hHeld => ?_)
      clear hK K
      (try simp only [Act.put, List.setIfInBounds_toArray, List.set_cons_zero, List.set_cons_succ])
      refine Reg.step 4 rfl (by kernel_rfl) (by rfl) (fun K hK => ?_)
      go_simp
      refine (exAdd_any O6.out R6.out D6.out).mono ?_
      rintro e w7 ⟨B2, bc2, L2, lc2, ys2, T, td, rfl, hO, hT, hb⟩
      have L7 := Lib.hid (L6.out.trans (hb.mono L6.out.size))
      have Q7 := Lib.hid (Cells.below Q6.out hb)
      have O7 := Lib.hid (OwnP.below O6.out hb)
      have D7 := Lib.hid (Row.below D6.out hb)
      have R7 := Lib.hid (RowS.below R6.out hb)
      clear O7 D7 R7
      have O7 := Lib.hid (hO.mono L6.out.size)
      have T7 := Lib.hid (hT.mono L6.out.size)
      clear hb hHeld hO hT
      clear L6 Q6 O6 D6 R6 
      refine hK.out _ _ (trivial) (fun hHeld => ?_)
      clear hK K
      (try simp only [Act.put, List.setIfInBounds_toArray, List.set_cons_zero, List.set_cons_succ])
      (first | (refine Reg.take 5 (v := ?_) rfl (by kernel_rfl) (by kernel_rfl) (by kernel_rfl) (fun _ _ _ h => h) (Or.inl ⟨by rfl, ?_⟩) (by assumption) ?_; rotate_left; (focus ((intro W hSW); (try dsimp only at hSW); (try go_split_ands); go_simp; (try (with_reducible rfl)); done))) | (refine Reg.take 5 (v := undef) rfl (by kernel_rfl) (by kernel_rfl) (by kernel_rfl) (fun _ _ _ h => h) (Or.inr ⟨by rfl, rfl⟩) (by assumption) ?_))
      (try simp only [Act.put, List.setIfInBounds_toArray, List.set_cons_zero, List.set_cons_succ])
      (first | (refine Reg.take 6 (v := ?_) rfl (by kernel_rfl) (by kernel_rfl) (by kernel_rfl) (fun _ _ _ h => h) (Or.inl ⟨by rfl, ?_⟩) (by assumption) ?_; rotate_left; (focus ((intro W hSW); (try dsimp only at hSW); (try go_split_ands); go_simp; (try (with_reducible rfl)); done))) | (refine Reg.take 6 (v := undef) rfl (by kernel_rfl) (by kernel_rfl) (by kernel_rfl) (fun _ _ _ h => h) (Or.inr ⟨by rfl, rfl⟩) (by assumption) ?_))
      (try simp only [Act.put, List.setIfInBounds_toArray, List.set_cons_zero, List.set_cons_succ])
      (first | (refine Reg.take 7 (v := ?_) rfl (by kernel_rfl) (by kernel_rfl) (by kernel_rfl) (fun _ _ _ h => h) (Or.inl ⟨by rfl, ?_⟩) (by assumption) ?_; rotate_left; (focus ((intro W hSW); (try dsimp only at hSW); (try go_split_ands); go_simp; (try (with_reducible rfl)); done))) | (refine Reg.take 7 (v := undef) rfl (by kernel_rfl) (by kernel_rfl) (by kernel_rfl) (fun _ _ _ h => h) (Or.inr ⟨by rfl, rfl⟩) (by assumption) ?_))
      (try simp only [Act.put, List.setIfInBounds_toArray, List.set_cons_zero, List.set_cons_succ])
      (first | (refine Reg.take 8 (v := ?_) rfl (by kernel_rfl) (by kernel_rfl) (by kernel_rfl) (fun _ _ _ h => h) (Or.inl ⟨by rfl, ?_⟩) (by assumption) ?_; rotate_left; (focus ((intro W hSW); (try dsimp only at hSW); (try go_split_ands); go_simp; (try (with_reducible rfl)); done))) | (refine Reg.take 8 (v := undef) rfl (by kernel_rfl) (by kernel_rfl) (by kernel_rfl) (fun _ _ _ h => h) (Or.inr ⟨by rfl, rfl⟩) (by assumption) ?_))
      (try simp only [Act.put, List.setIfInBounds_toArray, List.set_cons_zero, List.set_cons_succ])
      have y0 := Cells.cell Q7.out 0
      have f0 := Cells.frozen Q7.out 0
      have y1 := Cells.cell Q7.out 1
      have f1 := Cells.frozen Q7.out 1
      have y2 := Cells.cell Q7.out 2
      have f2 := Cells.frozen Q7.out 2
      have y3 := Cells.cell Q7.out 3
      have f3 := Cells.frozen Q7.out 3
      have y4 := Cells.cell Q7.out 4
      have f4 := Cells.frozen Q7.out 4
      have y5 := Cells.cell Q7.out 5
      have f5 := Cells.frozen Q7.out 5
      have y6 := Cells.cell Q7.out 6
      have f6 := Cells.frozen Q7.out 6
      have y7 := Cells.cell Q7.out 7
      have f7 := Cells.frozen Q7.out 7
      refine Reg.step 9 rfl (by kernel_rfl) (by rfl) (fun K hK => ?_)
      go_simp
      have bt := mov8 w7 q (.int .i64 1) (.int .i64 2) (.int .i64 0) (.int .i64 3) (.int .i64 200) (.int .i64 0) (.slice B2 37 bc2) (.slice L2 1 lc2)
      unfold set8W at bt
      have cg := Chg.mov Q7.out bt
      have L8 := Lib.hid (L7.out.trans (bt.up L7.out.size GQ.out))
      have Q8 : Hid (Cells ((((((((w7.setCell ⟨q, 0, none⟩ (.int .i64 1)).setCell ⟨q, 1, none⟩ (.int .i64 2)).setCell ⟨q, 2, none⟩ (.int .i64 0)).setCell ⟨q, 3, none⟩ (.int .i64 3)).setCell ⟨q, 4, none⟩ (.int .i64 200)).setCell ⟨q, 5, none⟩ (.int .i64 0)).setCell ⟨q, 6, none⟩ (.slice B2 37 bc2)).setCell ⟨q, 7, none⟩ (.slice L2 1 lc2)) q 29 #[.int .i64 1, .int .i64 2, .int .i64 0, .int .i64 3, .int .i64 200, .int .i64 0, .slice B2 37 bc2, .slice L2 1 lc2]) := set8 Q7.out (.int .i64 1) (.int .i64 2) (.int .i64 0) (.int .i64 3) (.int .i64 200) (.int .i64 0) (.slice B2 37 bc2) (.slice L2 1 lc2)
      have O8 := Lib.hid (O7.out.chg cg (by decide) (by decide))
      have T8 := Lib.hid (cg.ownI T7.out (by decide))
      clear bt cg hHeld L7 Q7 O7 T7 y0 f0 y1 f1 y2 f2 y3 f3 y4 f4 y5 f5 y6 f6 y7 f7
      generalize (((((((w7.setCell ⟨q, 0, none⟩ (.int .i64 1)).setCell ⟨q, 1, none⟩ (.int .i64 2)).setCell ⟨q, 2, none⟩ (.int .i64 0)).setCell ⟨q, 3, none⟩ (.int .i64 3)).setCell ⟨q, 4, none⟩ (.int .i64 200)).setCell ⟨q, 5, none⟩ (.int .i64 0)).setCell ⟨q, 6, none⟩ (.slice B2 37 bc2)).setCell ⟨q, 7, none⟩ (.slice L2 1 lc2) = w8 at *
      refine hK.out _ _ trivial (fun hHeld => ?_)
      clear hK K
      (try simp only [Act.put, List.setIfInBounds_toArray, List.set_cons_zero, List.set_cons_succ])
      (first | (refine Reg.take 10 (v := ?_) rfl (by kernel_rfl) (by kernel_rfl) (by kernel_rfl) (fun _ _ _ h => h) (Or.inl ⟨by rfl, ?_⟩) (by assumption) ?_; rotate_left; (focus ((intro W hSW); (try dsimp only at hSW); (try go_split_ands); go_simp; (try (with_reducible rfl)); done))) | (refine Reg.take 10 (v := undef) rfl (by kernel_rfl) (by kernel_rfl) (by kernel_rfl) (fun _ _ _ h => h) (Or.inr ⟨by rfl, rfl⟩) (by assumption) ?_))
      (try simp only [Act.put, List.setIfInBounds_toArray, List.set_cons_zero, List.set_cons_succ])
      (first | (refine Reg.take 11 (v := ?_) rfl (by kernel_rfl) (by kernel_rfl) (by kernel_rfl) (fun _ _ _ h => h) (Or.inl ⟨by rfl, ?_⟩) (by assumption) ?_; rotate_left; (focus ((intro W hSW); (try dsimp only at hSW); (try go_split_ands); go_simp; (try (with_reducible rfl)); done))) | (refine Reg.take 11 (v := undef) rfl (by kernel_rfl) (by kernel_rfl) (by kernel_rfl) (fun _ _ _ h => h) (Or.inr ⟨by rfl, rfl⟩) (by assumption) ?_))
      (try simp only [Act.put, List.setIfInBounds_toArray, List.set_cons_zero, List.set_cons_succ])
      refine wpAnyH_done (by kernel_rfl) ?_ _
      clear hHeld
      obtain ⟨m0, m1, m2, m3, m4, m5, m6, m7⟩ := eight_cells Q8.out
      have FL := Lib.hid (exFlush_any O8.out)
      obtain ⟨b, o, hTA, hc⟩ := ((Wire.gave_row T8.out (by decide)).1).cell (i := 0) (x := (17 : Int)) rfl
      subst hTA
      obtain ⟨hbt, hcc⟩ : b < w8.heap.size ∧ w8.cell? ⟨b, o, none⟩ = some (.int .i64 17) := by
        refine ⟨(OwnB.owns_lt T8.out b rfl).2, hc⟩
      have HT := Lib.hid hcc
      clear hc hcc
      go_upto_region 4 with (go_at_call 15; refine FL.out.mono ?_; rintro e w9 ⟨C, cc, N, nc, M, mc, rfl, hb⟩; have L9 := Lib.hid (L8.out.trans (hb.mono L8.out.size)); have T9 := Lib.hid ((World.cell?_of_block (hb.block b hbt)).trans HT.out); have hbt2 := Nat.lt_of_lt_of_le hbt hb.size; clear hb m0 m1 m2 m3 m4 m5 m6 m7 FL)
      have L10 : Hid (Below w.heap.size w ((w9.alloc (.cells #[.int .i64 1, .int .i64 3, .int .i64 2, .int .i64 0, .int .i64 0, .slice C 37 cc] 48)).alloc (.cells #[.int .i64 1, .int .i64 2, .int .i64 0, .int .i64 3, .int .i64 200, .int .i64 37, .slice N 0 nc, .slice M 0 mc] 29))) := Lib.hid ((L9.out.alloc L9.out.size _).alloc (by have := L9.out.size; simp; omega) _)
      have C10 : Hid (Cells ((w9.alloc (.cells #[.int .i64 1, .int .i64 3, .int .i64 2, .int .i64 0, .int .i64 0, .slice C 37 cc] 48)).alloc (.cells #[.int .i64 1, .int .i64 2, .int .i64 0, .int .i64 3, .int .i64 200, .int .i64 37, .slice N 0 nc, .slice M 0 mc] 29)) w9.heap.size 48 #[.int .i64 1, .int .i64 3, .int .i64 2, .int .i64 0, .int .i64 0, .slice C 37 cc]) := Lib.hid (Cells.alloc (Cells.new _ _ _) _)
      have P10 : Hid (Cells ((w9.alloc (.cells #[.int .i64 1, .int .i64 3, .int .i64 2, .int .i64 0, .int .i64 0, .slice C 37 cc] 48)).alloc (.cells #[.int .i64 1, .int .i64 2, .int .i64 0, .int .i64 3, .int .i64 200, .int .i64 37, .slice N 0 nc, .slice M 0 mc] 29)) (w9.heap.size + 1) 29 #[.int .i64 1, .int .i64 2, .int .i64 0, .int .i64 3, .int .i64 200, .int .i64 37, .slice N 0 nc, .slice M 0 mc]) := by
        have := Cells.new (w9.alloc (.cells #[.int .i64 1, .int .i64 3, .int .i64 2, .int .i64 0, .int .i64 0, .slice C 37 cc] 48)) #[.int .i64 1, .int .i64 2, .int .i64 0, .int .i64 3, .int .i64 200, .int .i64 37, .slice N 0 nc, .slice M 0 mc] 29
        rw [World.size_alloc] at this
        exact this
      have T10 : Hid (((w9.alloc (.cells #[.int .i64 1, .int .i64 3, .int .i64 2, .int .i64 0, .int .i64 0, .slice C 37 cc] 48)).alloc (.cells #[.int .i64 1, .int .i64 2, .int .i64 0, .int .i64 3, .int .i64 200, .int .i64 37, .slice N 0 nc, .slice M 0 mc] 29)).cell? ⟨b, o, none⟩ = some (.int .i64 17)) := Lib.hid ((World.cell?_of_block (((((Below.refl w9.heap.size w9).alloc (Nat.le_refl _) _).alloc (by simp) _).block b hbt2))).trans T9.out)
      generalize (w9.alloc (.cells #[.int .i64 1, .int .i64 3, .int .i64 2, .int .i64 0, .int .i64 0, .slice C 37 cc] 48)).alloc (.cells #[.int .i64 1, .int .i64 2, .int .i64 0, .int .i64 3, .int .i64 200, .int .i64 37, .slice N 0 nc, .slice M 0 mc] 29) = w10 at *
      generalize w9.heap.size = p at *
      obtain ⟨c0, c1, c2, c3, c4, c5⟩ := six_cells C10.out
      obtain ⟨p0, p1, p2, p3, p4, p5, p6, p7⟩ := eight_cells P10.out
      have t0 := T10.out
      go_quiet (fail)
      go_wp2_with fail
      go_ret
      exact ⟨rfl, below_drewN L10.out _⟩
    · skip
      go_simp
      have bb : Below w5.heap.size w5 (w5.alloc (.cells #[.int .i64 1, .int .i64 0, .int .i64 1, .int .i64 0, .int .i64 0, .int .i64 0, .slice (some ⟨g, 0, none⟩) 16 16] 34)) := (Below.refl _ w5).alloc (Nat.le_refl _) _
      have R6 := Lib.hid (show RowS cellsOf 7 (w5.alloc (.cells #[.int .i64 1, .int .i64 0, .int .i64 1, .int .i64 0, .int .i64 0, .int .i64 0, .slice (some ⟨g, 0, none⟩) 16 16] 34)) (some ⟨w5.heap.size, 0, none⟩) 1 1 [⟨exR, some ⟨g, 0, none⟩, 16⟩] from row_oneR (w := w5) (y := ⟨exR, some ⟨g, 0, none⟩, 16⟩) rfl)
      have L6 := Lib.hid (L5.out.trans (bb.mono L5.out.size))
      have Q6 := Lib.hid (Cells.below Q5.out bb)
      have O6 := Lib.hid (OwnP.below O5.out bb)
      have D6 := Lib.hid (Row.below D5.out bb)
      obtain ⟨r, hr⟩ : ∃ p, p = w5.heap.size := ⟨_, rfl⟩
      rw [← hr] at R6
      rw [← hr]
      have Gr : Hid (r = w5.heap.size) := hr
      clear bb hHeld hr
      clear L5 Q5 O5 D5 
      generalize w5.alloc (.cells #[.int .i64 1, .int .i64 0, .int .i64 1, .int .i64 0, .int .i64 0, .int .i64 0, .slice (some ⟨g, 0, none⟩) 16 16] 34) = w6 at *
      refine hK.out _ _ (trivial) (fun hHeld => ?_)
      clear hK K
      (try simp only [Act.put, List.setIfInBounds_toArray, List.set_cons_zero, List.set_cons_succ])
      obtain ⟨m0, m1, m2, m3, m4, m5, m6, m7⟩ := eight_cells Q6.out
      refine Reg.step 0 rfl (by kernel_rfl) (by rfl) (fun K hK => ?_)
      go_simp
      refine hK.out _ _ trivial (fun hHeld => ?_)
      clear hK K m0 m1 m2 m3 m4 m5 m6 m7
      (try simp only [Act.put, List.setIfInBounds_toArray, List.set_cons_zero, List.set_cons_succ])
      refine Reg.step 4 rfl (by kernel_rfl) (by rfl) (fun K hK => ?_)
      go_simp
      refine (exAdd_any O6.out R6.out D6.out).mono ?_
      rintro e w7 ⟨B2, bc2, L2, lc2, ys2, T, td, rfl, hO, hT, hb⟩
      have L7 := Lib.hid (L6.out.trans (hb.mono L6.out.size))
      have Q7 := Lib.hid (Cells.below Q6.out hb)
      have O7 := Lib.hid (OwnP.below O6.out hb)
      have D7 := Lib.hid (Row.below D6.out hb)
      have R7 := Lib.hid (RowS.below R6.out hb)
      clear O7 D7 R7
      have O7 := Lib.hid (hO.mono L6.out.size)
      have T7 := Lib.hid (hT.mono L6.out.size)
      clear hb hHeld hO hT
      clear L6 Q6 O6 D6 R6 
      refine hK.out _ _ (trivial) (fun hHeld => ?_)
      clear hK K
      (try simp only [Act.put, List.setIfInBounds_toArray, List.set_cons_zero, List.set_cons_succ])
      (first | (refine Reg.take 5 (v := ?_) rfl (by kernel_rfl) (by kernel_rfl) (by kernel_rfl) (fun _ _ _ h => h) (Or.inl ⟨by rfl, ?_⟩) (by assumption) ?_; rotate_left; (focus ((intro W hSW); (try dsimp only at hSW); (try go_split_ands); go_simp; (try (with_reducible rfl)); done))) | (refine Reg.take 5 (v := undef) rfl (by kernel_rfl) (by kernel_rfl) (by kernel_rfl) (fun _ _ _ h => h) (Or.inr ⟨by rfl, rfl⟩) (by assumption) ?_))
      (try simp only [Act.put, List.setIfInBounds_toArray, List.set_cons_zero, List.set_cons_succ])
      (first | (refine Reg.take 6 (v := ?_) rfl (by kernel_rfl) (by kernel_rfl) (by kernel_rfl) (fun _ _ _ h => h) (Or.inl ⟨by rfl, ?_⟩) (by assumption) ?_; rotate_left; (focus ((intro W hSW); (try dsimp only at hSW); (try go_split_ands); go_simp; (try (with_reducible rfl)); done))) | (refine Reg.take 6 (v := undef) rfl (by kernel_rfl) (by kernel_rfl) (by kernel_rfl) (fun _ _ _ h => h) (Or.inr ⟨by rfl, rfl⟩) (by assumption) ?_))
      (try simp only [Act.put, List.setIfInBounds_toArray, List.set_cons_zero, List.set_cons_succ])
      (first | (refine Reg.take 7 (v := ?_) rfl (by kernel_rfl) (by kernel_rfl) (by kernel_rfl) (fun _ _ _ h => h) (Or.inl ⟨by rfl, ?_⟩) (by assumption) ?_; rotate_left; (focus ((intro W hSW); (try dsimp only at hSW); (try go_split_ands); go_simp; (try (with_reducible rfl)); done))) | (refine Reg.take 7 (v := undef) rfl (by kernel_rfl) (by kernel_rfl) (by kernel_rfl) (fun _ _ _ h => h) (Or.inr ⟨by rfl, rfl⟩) (by assumption) ?_))
      (try simp only [Act.put, List.setIfInBounds_toArray, List.set_cons_zero, List.set_cons_succ])
      (first | (refine Reg.take 8 (v := ?_) rfl (by kernel_rfl) (by kernel_rfl) (by kernel_rfl) (fun _ _ _ h => h) (Or.inl ⟨by rfl, ?_⟩) (by assumption) ?_; rotate_left; (focus ((intro W hSW); (try dsimp only at hSW); (try go_split_ands); go_simp; (try (with_reducible rfl)); done))) | (refine Reg.take 8 (v := undef) rfl (by kernel_rfl) (by kernel_rfl) (by kernel_rfl) (fun _ _ _ h => h) (Or.inr ⟨by rfl, rfl⟩) (by assumption) ?_))
      (try simp only [Act.put, List.setIfInBounds_toArray, List.set_cons_zero, List.set_cons_succ])
      have y0 := Cells.cell Q7.out 0
      have f0 := Cells.frozen Q7.out 0
      have y1 := Cells.cell Q7.out 1
      have f1 := Cells.frozen Q7.out 1
      have y2 := Cells.cell Q7.out 2
      have f2 := Cells.frozen Q7.out 2
      have y3 := Cells.cell Q7.out 3
      have f3 := Cells.frozen Q7.out 3
      have y4 := Cells.cell Q7.out 4
      have f4 := Cells.frozen Q7.out 4
      have y5 := Cells.cell Q7.out 5
      have f5 := Cells.frozen Q7.out 5
      have y6 := Cells.cell Q7.out 6
      have f6 := Cells.frozen Q7.out 6
      have y7 := Cells.cell Q7.out 7
      have f7 := Cells.frozen Q7.out 7
      refine Reg.step 9 rfl (by kernel_rfl) (by rfl) (fun K hK => ?_)
      go_simp
      have bt := mov8 w7 q (.int .i64 1) (.int .i64 2) (.int .i64 0) (.int .i64 3) (.int .i64 200) (.int .i64 0) (.slice B2 37 bc2) (.slice L2 1 lc2)
      unfold set8W at bt
      have cg := Chg.mov Q7.out bt
      have L8 := Lib.hid (L7.out.trans (bt.up L7.out.size GQ.out))
      have Q8 : Hid (Cells ((((((((w7.setCell ⟨q, 0, none⟩ (.int .i64 1)).setCell ⟨q, 1, none⟩ (.int .i64 2)).setCell ⟨q, 2, none⟩ (.int .i64 0)).setCell ⟨q, 3, none⟩ (.int .i64 3)).setCell ⟨q, 4, none⟩ (.int .i64 200)).setCell ⟨q, 5, none⟩ (.int .i64 0)).setCell ⟨q, 6, none⟩ (.slice B2 37 bc2)).setCell ⟨q, 7, none⟩ (.slice L2 1 lc2)) q 29 #[.int .i64 1, .int .i64 2, .int .i64 0, .int .i64 3, .int .i64 200, .int .i64 0, .slice B2 37 bc2, .slice L2 1 lc2]) := set8 Q7.out (.int .i64 1) (.int .i64 2) (.int .i64 0) (.int .i64 3) (.int .i64 200) (.int .i64 0) (.slice B2 37 bc2) (.slice L2 1 lc2)
      have O8 := Lib.hid (O7.out.chg cg (by decide) (by decide))
      have T8 := Lib.hid (cg.ownI T7.out (by decide))
      clear bt cg hHeld L7 Q7 O7 T7 y0 f0 y1 f1 y2 f2 y3 f3 y4 f4 y5 f5 y6 f6 y7 f7
      generalize (((((((w7.setCell ⟨q, 0, none⟩ (.int .i64 1)).setCell ⟨q, 1, none⟩ (.int .i64 2)).setCell ⟨q, 2, none⟩ (.int .i64 0)).setCell ⟨q, 3, none⟩ (.int .i64 3)).setCell ⟨q, 4, none⟩ (.int .i64 200)).setCell ⟨q, 5, none⟩ (.int .i64 0)).setCell ⟨q, 6, none⟩ (.slice B2 37 bc2)).setCell ⟨q, 7, none⟩ (.slice L2 1 lc2) = w8 at *
      refine hK.out _ _ trivial (fun hHeld => ?_)
      clear hK K
      (try simp only [Act.put, List.setIfInBounds_toArray, List.set_cons_zero, List.set_cons_succ])
      (first | (refine Reg.take 10 (v := ?_) rfl (by kernel_rfl) (by kernel_rfl) (by kernel_rfl) (fun _ _ _ h => h) (Or.inl ⟨by rfl, ?_⟩) (by assumption) ?_; rotate_left; (focus ((intro W hSW); (try dsimp only at hSW); (try go_split_ands); go_simp; (try (with_reducible rfl)); done))) | (refine Reg.take 10 (v := undef) rfl (by kernel_rfl) (by kernel_rfl) (by kernel_rfl) (fun _ _ _ h => h) (Or.inr ⟨by rfl, rfl⟩) (by assumption) ?_))
      (try simp only [Act.put, List.setIfInBounds_toArray, List.set_cons_zero, List.set_cons_succ])
      (first | (refine Reg.take 11 (v := ?_) rfl (by kernel_rfl) (by kernel_rfl) (by kernel_rfl) (fun _ _ _ h => h) (Or.inl ⟨by rfl, ?_⟩) (by assumption) ?_; rotate_left; (focus ((intro W hSW); (try dsimp only at hSW); (try go_split_ands); go_simp; (try (with_reducible rfl)); done))) | (refine Reg.take 11 (v := undef) rfl (by kernel_rfl) (by kernel_rfl) (by kernel_rfl) (fun _ _ _ h => h) (Or.inr ⟨by rfl, rfl⟩) (by assumption) ?_))
      (try simp only [Act.put, List.setIfInBounds_toArray, List.set_cons_zero, List.set_cons_succ])
      refine wpAnyH_done (by kernel_rfl) ?_ _
      clear hHeld
      obtain ⟨m0, m1, m2, m3, m4, m5, m6, m7⟩ := eight_cells Q8.out
      have FL := Lib.hid (exFlush_any O8.out)
      obtain ⟨b, o, hTA, hc⟩ := ((Wire.gave_row T8.out (by decide)).1).cell (i := 0) (x := (17 : Int)) rfl
      subst hTA
      obtain ⟨hbt, hcc⟩ : b < w8.heap.size ∧ w8.cell? ⟨b, o, none⟩ = some (.int .i64 17) := by
        refine ⟨(OwnB.owns_lt T8.out b rfl).2, hc⟩
      have HT := Lib.hid hcc
      clear hc hcc
      go_upto_region 4 with (go_at_call 15; refine FL.out.mono ?_; rintro e w9 ⟨C, cc, N, nc, M, mc, rfl, hb⟩; have L9 := Lib.hid (L8.out.trans (hb.mono L8.out.size)); have T9 := Lib.hid ((World.cell?_of_block (hb.block b hbt)).trans HT.out); have hbt2 := Nat.lt_of_lt_of_le hbt hb.size; clear hb m0 m1 m2 m3 m4 m5 m6 m7 FL)
      have L10 : Hid (Below w.heap.size w ((w9.alloc (.cells #[.int .i64 1, .int .i64 3, .int .i64 2, .int .i64 0, .int .i64 0, .slice C 37 cc] 48)).alloc (.cells #[.int .i64 1, .int .i64 2, .int .i64 0, .int .i64 3, .int .i64 200, .int .i64 37, .slice N 0 nc, .slice M 0 mc] 29))) := Lib.hid ((L9.out.alloc L9.out.size _).alloc (by have := L9.out.size; simp; omega) _)
      have C10 : Hid (Cells ((w9.alloc (.cells #[.int .i64 1, .int .i64 3, .int .i64 2, .int .i64 0, .int .i64 0, .slice C 37 cc] 48)).alloc (.cells #[.int .i64 1, .int .i64 2, .int .i64 0, .int .i64 3, .int .i64 200, .int .i64 37, .slice N 0 nc, .slice M 0 mc] 29)) w9.heap.size 48 #[.int .i64 1, .int .i64 3, .int .i64 2, .int .i64 0, .int .i64 0, .slice C 37 cc]) := Lib.hid (Cells.alloc (Cells.new _ _ _) _)
      have P10 : Hid (Cells ((w9.alloc (.cells #[.int .i64 1, .int .i64 3, .int .i64 2, .int .i64 0, .int .i64 0, .slice C 37 cc] 48)).alloc (.cells #[.int .i64 1, .int .i64 2, .int .i64 0, .int .i64 3, .int .i64 200, .int .i64 37, .slice N 0 nc, .slice M 0 mc] 29)) (w9.heap.size + 1) 29 #[.int .i64 1, .int .i64 2, .int .i64 0, .int .i64 3, .int .i64 200, .int .i64 37, .slice N 0 nc, .slice M 0 mc]) := by
        have := Cells.new (w9.alloc (.cells #[.int .i64 1, .int .i64 3, .int .i64 2, .int .i64 0, .int .i64 0, .slice C 37 cc] 48)) #[.int .i64 1, .int .i64 2, .int .i64 0, .int .i64 3, .int .i64 200, .int .i64 37, .slice N 0 nc, .slice M 0 mc] 29
        rw [World.size_alloc] at this
        exact this
      have T10 : Hid (((w9.alloc (.cells #[.int .i64 1, .int .i64 3, .int .i64 2, .int .i64 0, .int .i64 0, .slice C 37 cc] 48)).alloc (.cells #[.int .i64 1, .int .i64 2, .int .i64 0, .int .i64 3, .int .i64 200, .int .i64 37, .slice N 0 nc, .slice M 0 mc] 29)).cell? ⟨b, o, none⟩ = some (.int .i64 17)) := Lib.hid ((World.cell?_of_block (((((Below.refl w9.heap.size w9).alloc (Nat.le_refl _) _).alloc (by simp) _).block b hbt2))).trans T9.out)
      generalize (w9.alloc (.cells #[.int .i64 1, .int .i64 3, .int .i64 2, .int .i64 0, .int .i64 0, .slice C 37 cc] 48)).alloc (.cells #[.int .i64 1, .int .i64 2, .int .i64 0, .int .i64 3, .int .i64 200, .int .i64 37, .slice N 0 nc, .slice M 0 mc] 29) = w10 at *
      generalize w9.heap.size = p at *
      obtain ⟨c0, c1, c2, c3, c4, c5⟩ := six_cells C10.out
      obtain ⟨p0, p1, p2, p3, p4, p5, p6, p7⟩ := eight_cells P10.out
      have t0 := T10.out
      go_quiet (fail)
      go_wp2_with fail
      go_ret
      exact ⟨rfl, below_drewN L10.out _⟩
end Pk
end Go.Proofs.Ytedandbkdjmfhaa
/-
  ONE RECORD ADDED; remainders.
-/
namespace Go.Proofs.Ytedandbkdjmfhaa
open Go.RowKit Mem Box
namespace Pk
open Seg (Hdr Rc Rv cellsOf cellsOf_len RowR hdV recV fits nums hnums nn goods frame headX recX frames check recB headB)
theorem rowR_one {w : World} {y : Rv} {r : Nat} (hr : RowS cellsOf 7 w (some ⟨r, 0, none⟩) 1 1 [y]) (hd : Row cb w y.D y.r.data.length y.c y.r.data) : RowR w (some ⟨r, 0, none⟩) 1 1 [y] :=
  rowR_of hr (by omega) (by intro x hx; rw [List.mem_singleton.1 hx]; exact hd)
/-- One record added: what comes of it. -/
theorem add1_any {x : Px} {y : Rv} {r : Nat} {w : World} (hx : PackAt w x) (ho : OkP x.p) (hr : RowS cellsOf 7 w (some ⟨r, 0, none⟩) 1 1 [y]) (hd : Row cb w y.D y.r.data.length y.c y.r.data) (hf : fits (nums y.r)) :
    Calls Try.prog 10 #[pxv x, .slice (some ⟨r, 0, none⟩) 1 1] w (GaveA w (addP x.p [y.r])) :=
  add_any hx ho (rowR_one hr hd) (by intro r hr; rw [List.mem_singleton.1 hr]; exact hf)
theorem add1_bad {x : Px} {y : Rv} {r : Nat} {w : World} (hx : PackAt w x) (ho : OkP x.p) (hr : RowS cellsOf 7 w (some ⟨r, 0, none⟩) 1 1 [y]) (hd : Row cb w y.D y.r.data.length y.c y.r.data) (hf : fits (nums y.r)) {e : Nat} (he : addP x.p [y.r] = (zeroP, [], e)) :
    Calls Try.prog 10 #[pxv x, .slice (some ⟨r, 0, none⟩) 1 1] w fun en w' => ∃ B bc L lc T d, en = .returned (.tuple #[.agg #[.int .i64 0, .int .i64 0, .int .i64 0, .int .i64 0, .int .i64 0, .int .i64 0, .slice B 0 bc, .slice L 0 lc], .slice T 0 d, .int .i64 (e : Int)]) ∧ Below w.heap.size w w' := by
  have h := add1_any hx ho hr hd hf
  rw [he] at h
  refine h.mono ?_
  rintro en w' ⟨⟨p, B, bc, L, lc, ys⟩, T, k, d, rfl, hp, hO, hT, hb⟩
  obtain rfl : p = zeroP := hp
  obtain rfl : 0 = k := hT.len
  exact ⟨B, bc, L, lc, T, d, rfl, hb⟩
theorem add1_ok {x : Px} {y : Rv} {r : Nat} {w : World} (hx : PackAt w x) (ho : OkP x.p) (hr : RowS cellsOf 7 w (some ⟨r, 0, none⟩) 1 1 [y]) (hd : Row cb w y.D y.r.data.length y.c y.r.data) (hf : fits (nums y.r)) (hc : check y.r = 0) (h2 : fitsP x.p [y.r]) :
    Calls Try.prog 10 #[pxv x, .slice (some ⟨r, 0, none⟩) 1 1] w fun en w' => ∃ Y T d, en = .returned (.tuple #[pxv Y, .slice T 1 d, .int .i64 0]) ∧ Y.p = moreP x.p [y.r] ∧ OwnP w.heap.size w' Y ∧ Mem.Owns ci 3 w.heap.size w' (.slice T 1 d) 1 [x.p.at_ + (x.p.buf.length : Int) + placeR y.r] ∧ Below w.heap.size w w' := by
  have h := add1_any hx ho hr hd hf
  rw [addP_ok (by rw [errB_one]; exact hc) h2] at h
  refine h.mono ?_
  rintro en w' ⟨Y, T, k, d, rfl, hp, hO, hT, hb⟩
  obtain rfl : 1 = k := hT.len
  exact ⟨Y, T, d, rfl, hp, hO, hT, hb⟩
theorem cut2000 (z : Int) : ∃ (r : Int) (j : Nat), Int.tmod z 2000 = r ∧ -2000 < r ∧ r < 2000 ∧ Int.tmod (r + 2000) 2000 = j ∧ (r + 2000) % 2000 = j ∧ j < 2000 := Cut.cut_at z 2000 (by omega)
theorem fitsP_one (p : Pp) (r : Rc) : fitsP p [r] ↔ p.at_ + (p.buf.length : Int) + (flen r : Int) ≤ p.cap := by unfold fitsP; rw [frames_one]
theorem more_buf (p : Pp) (r : Rc) : (moreP p [r]).buf.length = p.buf.length + flen r := by
  show (p.buf ++ frames [r]).length = _
  rw [List.length_append, frames_one]
theorem more_l (p : Pp) (r : Rc) : (moreP p [r]).l.length = p.l.length + 1 := by
  show (p.l ++ [r]).length = _
  simp
end Pk
end Go.Proofs.Ytedandbkdjmfhaa
/-
  WHAT STANDS APART FROM BYTES THAT GROW; one record added behind others.
-/
namespace Go.Proofs.Ytedandbkdjmfhaa
open Go.RowKit Mem Box
namespace Pk
open Seg (Hdr Rc Rv cellsOf cellsOf_len RowR hdV recV fits nums hnums nn goods frame headX recX frames check recB headB)
/-- No bytes of the pack lie in that row's block. -/
def Far (Y : Px) (s : Value) : Prop := ((Value.slice Y.B Y.p.buf.length Y.bc).ownBlock = none ∨ (Value.slice Y.B Y.p.buf.length Y.bc).ownBlock ≠ s.ownBlock) ∧ ∀ y ∈ Y.xs, (Value.slice y.D y.r.data.length y.c).ownBlock = none ∨ (Value.slice y.D y.r.data.length y.c).ownBlock ≠ s.ownBlock
theorem far_nil (Y : Px) : Far Y (.slice none 0 0) := by
  have h : ∀ o : Option Nat, o = none ∨ o ≠ (Value.slice none 0 0).ownBlock := fun o => by
    rcases o with _ | q
    · exact .inl rfl
    · exact .inr (by intro h; cases h)
  exact ⟨h _, fun y _ => h _⟩
theorem far_new {base : Nat} {w : World} {Y : Px} {s s' : Value} (h : Far Y s) (ho : OwnP base w Y) (hn : s'.ownBlock = s.ownBlock ∨ s'.ownBlock = some w.heap.size) : Far Y s' := by
  have one : ∀ (A : Option Addr) (n c : Nat) (l : List (BitVec 8)), Mem.Owns cb 5 base w (.slice A n c) n l → ((Value.slice A n c).ownBlock = none ∨ (Value.slice A n c).ownBlock ≠ s.ownBlock) → ((Value.slice A n c).ownBlock = none ∨ (Value.slice A n c).ownBlock ≠ s'.ownBlock) := fun A n c l h1 h2 => by
    rcases h2 with h2 | h2
    · exact .inl h2
    · rcases hn with hn | hn
      · exact .inr (by rw [hn]; exact h2)
      · refine .inr fun e => ?_
        rw [hn] at e
        have := (OwnB.owns_lt h1 _ e).2
        omega
  exact ⟨one _ _ _ _ ho.buf h.1, fun y hy => one _ _ _ _ (ho.data y hy) (h.2 y hy)⟩
theorem far_later {base : Nat} {w w' : World} {Y : Px} {s : Value} {n : Nat} {l : List (BitVec 8)} (hs : Mem.Owns cb 5 base w s n l) (ho : OwnP w.heap.size w' Y) : Far Y s := by
  have one : ∀ (A : Option Addr) (n c : Nat) (l : List (BitVec 8)), Mem.Owns cb 5 w.heap.size w' (.slice A n c) n l → ((Value.slice A n c).ownBlock = none ∨ (Value.slice A n c).ownBlock ≠ s.ownBlock) := fun A n c l h1 => by
    rcases e : (Value.slice A n c).ownBlock with _ | q
    · exact .inl rfl
    · refine .inr fun h => ?_
      have h2 := (OwnB.owns_lt hs q h.symm).2
      have h3 := (OwnB.owns_lt h1 q e).1
      omega
  exact ⟨one _ _ _ _ ho.buf, fun y hy => one _ _ _ _ (ho.data y hy)⟩
/-- A pack stays where bytes of another row grow. -/
theorem OwnP.bytes {base b n c : Nat} {w w' : World} {Y : Px} {A : Option Addr} {l : List (BitVec 8)} (ho : OwnP base w Y) (hs : Mem.Owns cb 5 b w (.slice A n c) n l) (hf : Far Y (.slice A n c)) (hg : w.grownBy w' (Value.slice A n c).ownBlock) : OwnP base w' Y := by
  have cg : Chg 5 _ w w' := Chg.own (OwnB.to hs) hg
  exact ⟨OwnB.back (cg.owns_ne (OwnB.to ho.buf) hf.1), cg.owns ho.recs (by decide), fun y hy => OwnB.back (cg.owns_ne (OwnB.to (ho.data y hy)) (hf.2 y hy)), ho.off, ho.eq⟩
/-- Two rows in other blocks. -/
def Ap (s2 s : Value) : Prop := s2.ownBlock = none ∨ s2.ownBlock ≠ s.ownBlock
theorem ap_nil (s2 : Value) : Ap s2 (.slice none 0 0) := by
  unfold Ap
  rcases s2.ownBlock with _ | q
  · exact .inl rfl
  · exact .inr (by intro h; cases h)
theorem ap_new {α : Type} {f : α → Value} {e : TypeId} {base n : Nat} {w : World} {s s' s2 : Value} {l : List α} (h : Ap s2 s) (ho : Mem.Owns f e base w s2 n l) (hn : s'.ownBlock = s.ownBlock ∨ s'.ownBlock = some w.heap.size) : Ap s2 s' := by
  rcases h with h | h
  · exact .inl h
  · rcases hn with hn | hn
    · exact .inr (by rw [hn]; exact h)
    · refine .inr fun e => ?_
      rw [hn] at e
      have := (OwnB.owns_lt ho _ e).2
      omega
theorem ap_later {α β : Type} {f : α → Value} {g : β → Value} {e e' : TypeId} {base n m : Nat} {w w' : World} {s s2 : Value} {l : List α} {l' : List β} (hs : Mem.Owns f e base w s n l) (ho : Mem.Owns g e' w.heap.size w' s2 m l') : Ap s2 s := by
  unfold Ap
  rcases e : s2.ownBlock with _ | q
  · exact .inl rfl
  · refine .inr fun h => ?_
    have h2 := (OwnB.owns_lt hs q h.symm).2
    have h3 := (OwnB.owns_lt ho q e).1
    omega
theorem add_prefix_bad {p : Pp} {l : List Rc} {k : Nat} {r : Rc} {e : Nat} (hr : l[k]? = some r) (he : e ≠ 0) (h : addP (moreP p (l.take k)) [r] = (zeroP, [], e)) : (addP p l).2.2 ≠ 0 := by
  intro h0
  rcases addP_cases p l with ⟨h1, h2, h3⟩ | ⟨e', he', _, h3⟩
  · have hc : check r = 0 := errB_zero h1 r (List.mem_of_getElem? hr)
    have ht : l.take (k + 1) = l.take k ++ [r] := by rw [List.take_add_one, hr]; rfl
    have hf : fitsP p (l.take k ++ [r]) := by
      rw [← ht]
      have e : l = l.take (k + 1) ++ l.drop (k + 1) := (List.take_append_drop _ _).symm
      rw [e] at h2
      exact fitsP_left h2
    rw [addP_ok (by rw [errB_one]; exact hc) ((fitsP_more _ _ _).2 hf)] at h
    have := congrArg (fun t => t.2.2) h
    exact he this.symm
  · rw [h3] at h0
    exact he' h0
theorem add_ok_one {r : Rc} (h1 : errB [r] = 0) : check r = 0 := by rw [← errB_one]; exact h1
end Pk
end Go.Proofs.Ytedandbkdjmfhaa
/-
  THE STATEMENT PackerGroups: its walk.
-/
namespace Go.Proofs.Ytedandbkdjmfhaa
open Go.RowKit Mem Box
namespace Pk
open Seg (Hdr Rc Rv cellsOf cellsOf_len RowR hdV recV fits nums hnums nn goods frame headX recX frames check recB headB)
set_option maxRecDepth 100000 in
set_option maxHeartbeats 51200000 in
theorem groups_walk (h : Hdr) {A : Option Addr} {n c : Nat} {xs : List Rv} {w : World} (hr : RowR w A n c xs) (hf : fits (hnums h)) (hg : goods (xs.map Rv.r)) :
    Calls Try.prog 5 #[hdV h, .slice A n c] w fun e w' => e = .returned (.bool true) ∧ Below w.heap.size w w' := by
  have HR := Lib.hid hr
  have HG := Lib.hid hg
  have hnbig := hr.big
  have HLV := fun w => Lib.hid (live_any w)
  have HB := fun W (hW : Below w.heap.size w W) => Lib.hid (Seg.big_any (most := 20000) (hr.below hW))
  obtain ⟨bg, hbg⟩ : ∃ b, b = decide ((20000 : Int) < Seg.bulkR (xs.map Rv.r)) := ⟨_, rfl⟩
  rw [← hbg] at HB
  have HBG := fun w => Lib.hid (begin_any (h := h) (zone := 1) (most := 60000) (w := w) hf)
  have HBC := Lib.hid (begin_cases h 1 60000)
  generalize beginP h 1 60000 = bp at *
  obtain ⟨l, hl⟩ : ∃ l, xs.map Rv.r = l := ⟨_, rfl⟩
  have HL := Lib.hid hl
  have HLN : Hid (l.length = n) := by show _ = _; rw [← hl, List.length_map, hr.len]
  have HADD := fun (x : Px) W (hW : Below w.heap.size w W) (hx : PackAt W x) (ho : OkP x.p) => Lib.hid (add_any hx ho (hr.below hW) hg)
  rw [hl] at HADD
  unfold hdV at HBG
  clear hr hg hf hbg hl
  have L1 : Hid (Below w.heap.size w (w.alloc (.cells #[.int .i64 h.host, .int .i64 h.epoch, .int .i64 h.seq] 23))) := (Below.refl _ w).alloc (Nat.le_refl _) _
  have X1 : Hid (Cells (w.alloc (.cells #[.int .i64 h.host, .int .i64 h.epoch, .int .i64 h.seq] 23)) w.heap.size 23 #[.int .i64 h.host, .int .i64 h.epoch, .int .i64 h.seq]) := Cells.new _ _ _
  unfold hdV
  go_enter Try.func5, Try.ntmps5
  go_upto_region 1 with fail
  generalize w.alloc (.cells #[.int .i64 h.host, .int .i64 h.epoch, .int .i64 h.seq] 23) = w1 at *
  go_upto_region 2 with (go_at_call 6; refine (HLV w1).out.mono ?_; rintro e w2 ⟨rfl, hb⟩; have L2 := Lib.hid (L1.out.trans (hb.mono L1.out.size)); have X2 := Lib.hid (Cells.below X1.out hb); clear hb L1 X1 HLV)
  rcases bg with _ | _
  · go_upto_region 4 with (go_at_call 7; refine (HB w2 L2.out).out.mono ?_; rintro e w3 ⟨rfl, hb⟩; have L3 := Lib.hid (L2.out.trans (hb.mono L2.out.size)); have X3 := Lib.hid (Cells.below X2.out hb); clear hb HB X2)
    have m0 := Cells.cell X3.out 0
    have m1 := Cells.cell X3.out 1
    have m2 := Cells.cell X3.out 2
    (try dsimp only at m0 m1 m2)
    rcases HBC.out with ⟨-, hmz, hle, rfl⟩ | rfl | rfl
    · obtain ⟨P0, hP0⟩ : ∃ P0, P0 = (⟨h, 1, 60000, 0, frame (headX h), []⟩ : Pp) := ⟨_, rfl⟩
      have hok : OkP P0 := by rw [hP0]; exact OkP.begun hmz hle
      have hcap : P0.cap = 60000 := by rw [hP0]
      have hat : P0.at_ = 0 := by rw [hP0]
      have hl0 : P0.l = [] := by rw [hP0]
      rw [← hP0] at HBG
      have OK0 := Lib.hid hok
      have CP0 := Lib.hid hcap
      have AT0 := Lib.hid hat
      have BL0 : Hid (0 < P0.buf.length) := by show _ < _; rw [hP0]; have := Seg.frame_ge (headX h); show 0 < (frame (headX h)).length; omega
      clear hmz hle hP0 hok hcap hat hl0
      dsimp only at HBG
      go_upto_region 6 with (go_at_call 8; refine (HBG w3).out.mono ?_; rintro e w4 ⟨Y0, rfl, hp, hO, hb⟩; have L4 := Lib.hid (L3.out.trans (hb.mono L3.out.size)); have O4 := Lib.hid (hO.mono L3.out.size); have HP := Lib.hid hp; clear hp hb hO m0 m1 m2 HBG X3 L3; unfold pxv)
      have BB : Below w4.heap.size w4 (w4.alloc (.cells #[.int .i64 Y0.p.h.host, .int .i64 Y0.p.h.epoch, .int .i64 Y0.p.h.seq, .int .i64 Y0.p.zone, .int .i64 Y0.p.cap, .int .i64 Y0.p.at_, .slice Y0.B Y0.p.buf.length Y0.bc, .slice Y0.L Y0.p.l.length Y0.lc] 29)) := (Below.refl _ w4).alloc (Nat.le_refl _) _
      have Q5 : Hid (PBox (w4.alloc (.cells #[.int .i64 Y0.p.h.host, .int .i64 Y0.p.h.epoch, .int .i64 Y0.p.h.seq, .int .i64 Y0.p.zone, .int .i64 Y0.p.cap, .int .i64 Y0.p.at_, .slice Y0.B Y0.p.buf.length Y0.bc, .slice Y0.L Y0.p.l.length Y0.lc] 29)) w4.heap.size Y0) := Cells.new _ _ _
      have L5 := Lib.hid (L4.out.trans (BB.mono L4.out.size))
      have O5 := Lib.hid (OwnP.below O4.out BB)
      have GQ := Lib.hid L4.out.size
      clear BB L4 O4
      generalize w4.alloc (.cells #[.int .i64 Y0.p.h.host, .int .i64 Y0.p.h.epoch, .int .i64 Y0.p.h.seq, .int .i64 Y0.p.zone, .int .i64 Y0.p.cap, .int .i64 Y0.p.at_, .slice Y0.B Y0.p.buf.length Y0.bc, .slice Y0.L Y0.p.l.length Y0.lc] 29) = w5 at *
      generalize w4.heap.size = g0 at *
      obtain ⟨ap, hap⟩ : ∃ ap, addP P0 l = ap := ⟨_, rfl⟩
      have HAP := Lib.hid hap
      have OKY : Hid (OkP Y0.p) := by show OkP _; rw [HP.out]; exact OK0.out
      have HA := Lib.hid (HADD Y0 w5 L5.out (O5.out.any OKY.out) OKY.out).out
      rw [HP.out, hap] at HA
      unfold pxv at HA
      clear hap HADD
      obtain ⟨k0, k1, k2, k3, k4, k5, k6, k7⟩ := eight_cells Q5.out
      go_upto_region 8 with (go_at_call 10; refine HA.out.mono ?_; rintro e w6 ⟨YA, U, ua, ud, rfl, hp, hE, hU, hb⟩; have L6 := Lib.hid (L5.out.trans (hb.mono L5.out.size)); have Q6 := Lib.hid (Cells.below Q5.out hb); have O6 := Lib.hid (OwnP.below O5.out hb); have E6 := Lib.hid (hE.mono L5.out.size); have U6 := Lib.hid (hU.mono L5.out.size); have HPA := Lib.hid hp; clear hp hb hE hU k0 k1 k2 k3 k4 k5 k6 k7 L5 Q5 O5 HA; unfold pxv)
      have A7 : Hid (PBox (w6.alloc (.cells #[.int .i64 YA.p.h.host, .int .i64 YA.p.h.epoch, .int .i64 YA.p.h.seq, .int .i64 YA.p.zone, .int .i64 YA.p.cap, .int .i64 YA.p.at_, .slice YA.B YA.p.buf.length YA.bc, .slice YA.L YA.p.l.length YA.lc] 29)) w6.heap.size YA) := Cells.new _ _ _
      have BB : Below w6.heap.size w6 (w6.alloc (.cells #[.int .i64 YA.p.h.host, .int .i64 YA.p.h.epoch, .int .i64 YA.p.h.seq, .int .i64 YA.p.zone, .int .i64 YA.p.cap, .int .i64 YA.p.at_, .slice YA.B YA.p.buf.length YA.bc, .slice YA.L YA.p.l.length YA.lc] 29)) := (Below.refl _ w6).alloc (Nat.le_refl _) _
      have L7 := Lib.hid (L6.out.trans (BB.mono L6.out.size))
      have Q7 := Lib.hid (Cells.below Q6.out BB)
      have O7 := Lib.hid (OwnP.below O6.out BB)
      have E7 := Lib.hid (OwnP.below E6.out BB)
      have U7 := Lib.hid (Mem.Owns.below U6.out BB)
      clear L6 Q6 O6 E6 U6 BB
      generalize w6.alloc (.cells #[.int .i64 YA.p.h.host, .int .i64 YA.p.h.epoch, .int .i64 YA.p.h.seq, .int .i64 YA.p.zone, .int .i64 YA.p.cap, .int .i64 YA.p.at_, .slice YA.B YA.p.buf.length YA.bc, .slice YA.L YA.p.l.length YA.lc] 29) = w7 at *
      generalize w6.heap.size = ga at *
      obtain ⟨k0, k1, k2, k3, k4, k5, k6, k7⟩ := eight_cells Q7.out
      go_upto_region 9 with fail
      have N8 : Hid (PBox (w7.alloc (.cells #[.int .i64 Y0.p.h.host, .int .i64 Y0.p.h.epoch, .int .i64 Y0.p.h.seq, .int .i64 Y0.p.zone, .int .i64 Y0.p.cap, .int .i64 Y0.p.at_, .slice Y0.B Y0.p.buf.length Y0.bc, .slice Y0.L Y0.p.l.length Y0.lc] 29)) w7.heap.size Y0) := Cells.new _ _ _
      have BB : Below w7.heap.size w7 (w7.alloc (.cells #[.int .i64 Y0.p.h.host, .int .i64 Y0.p.h.epoch, .int .i64 Y0.p.h.seq, .int .i64 Y0.p.zone, .int .i64 Y0.p.cap, .int .i64 Y0.p.at_, .slice Y0.B Y0.p.buf.length Y0.bc, .slice Y0.L Y0.p.l.length Y0.lc] 29)) := (Below.refl _ w7).alloc (Nat.le_refl _) _
      have HLTN : Hid (g0 < w7.heap.size ∧ ga < w7.heap.size) := ⟨Cells.lt Q7.out, Cells.lt A7.out⟩
      have L8 := Lib.hid (L7.out.trans (BB.mono L7.out.size))
      have Q8 := Lib.hid (Cells.below Q7.out BB)
      have O8 := Lib.hid (OwnP.below O7.out BB)
      have E8 := Lib.hid (OwnP.below E7.out BB)
      have U8 := Lib.hid (Mem.Owns.below U7.out BB)
      have A8 := Lib.hid (Cells.below A7.out BB)
      clear L7 Q7 O7 E7 U7 A7 BB k0 k1 k2 k3 k4 k5 k6 k7
      generalize w7.alloc (.cells #[.int .i64 Y0.p.h.host, .int .i64 Y0.p.h.epoch, .int .i64 Y0.p.h.seq, .int .i64 Y0.p.zone, .int .i64 Y0.p.cap, .int .i64 Y0.p.at_, .slice Y0.B Y0.p.buf.length Y0.bc, .slice Y0.L Y0.p.l.length Y0.lc] 29) = w8 at *
      generalize w7.heap.size = g1 at *
      obtain ⟨k0, k1, k2, k3, k4, k5, k6, k7⟩ := eight_cells Q8.out
      go_upto_region 10 with fail
      have S9 : Hid (PBox (w8.alloc (.cells #[.int .i64 Y0.p.h.host, .int .i64 Y0.p.h.epoch, .int .i64 Y0.p.h.seq, .int .i64 Y0.p.zone, .int .i64 Y0.p.cap, .int .i64 Y0.p.at_, .slice Y0.B Y0.p.buf.length Y0.bc, .slice Y0.L Y0.p.l.length Y0.lc] 29)) w8.heap.size Y0) := Cells.new _ _ _
      have BB : Below w8.heap.size w8 (w8.alloc (.cells #[.int .i64 Y0.p.h.host, .int .i64 Y0.p.h.epoch, .int .i64 Y0.p.h.seq, .int .i64 Y0.p.zone, .int .i64 Y0.p.cap, .int .i64 Y0.p.at_, .slice Y0.B Y0.p.buf.length Y0.bc, .slice Y0.L Y0.p.l.length Y0.lc] 29)) := (Below.refl _ w8).alloc (Nat.le_refl _) _
      have HLTS : Hid (g0 < w8.heap.size ∧ ga < w8.heap.size ∧ g1 < w8.heap.size) := ⟨Cells.lt Q8.out, Cells.lt A8.out, Cells.lt N8.out⟩
      have L9 := Lib.hid (L8.out.trans (BB.mono L8.out.size))
      have Q9 := Lib.hid (Cells.below Q8.out BB)
      have O9 := Lib.hid (OwnP.below O8.out BB)
      have E9 := Lib.hid (OwnP.below E8.out BB)
      have U9 := Lib.hid (Mem.Owns.below U8.out BB)
      have A9 := Lib.hid (Cells.below A8.out BB)
      have N9 := Lib.hid (Cells.below N8.out BB)
      clear L8 Q8 O8 E8 U8 A8 N8 BB k0 k1 k2 k3 k4 k5 k6 k7
      generalize w8.alloc (.cells #[.int .i64 Y0.p.h.host, .int .i64 Y0.p.h.epoch, .int .i64 Y0.p.h.seq, .int .i64 Y0.p.zone, .int .i64 Y0.p.cap, .int .i64 Y0.p.at_, .slice Y0.B Y0.p.buf.length Y0.bc, .slice Y0.L Y0.p.l.length Y0.lc] 29) = w9 at *
      generalize w8.heap.size = g2 at *
      have P9 : Hid (OwnP w.heap.size w9 Y0) := O9
      clear Q9
      have G1 : Hid (w.heap.size ≤ g1) := by have := GQ.out; have := HLTN.out; show _ ≤ _; omega
      have G2 : Hid (w.heap.size ≤ g2) := by have := GQ.out; have := HLTS.out; show _ ≤ _; omega
      have NA1 : Hid (ga ≠ g1) := by have := HLTN.out; show _ ≠ _; omega
      have NA2 : Hid (ga ≠ g2) := by have := HLTS.out; show _ ≠ _; omega
      have N12 : Hid (g1 ≠ g2) := by have := HLTS.out; show _ ≠ _; omega
      go_wp2_with fail
      go_loopw [13, 14, 52] (fun s1 s2 i wr => ∃ (k : Nat) (Y1 Y2 : Px) (T : Option Addr) (td : Nat) (B : Option Addr) (bn bc : Nat) (bs : List (BitVec 8)), s1 = .slice T k td ∧ s2 = .slice B bn bc ∧ i = .int .i64 k ∧ k ≤ n ∧ Hid (Y1.p = moreP P0 (l.take k)) ∧ Hid (OkP Y2.p ∧ Y2.p.cap = 60000 ∧ Y2.p.at_ = (bn : Int) ∧ (k = 0 ∨ Y2.p.buf = [])) ∧ Hid (bs ++ Y2.p.buf = (moreP P0 (l.take k)).buf) ∧ Hid (fitsP P0 (l.take k)) ∧ Hid (∀ r ∈ l.take k, check r = 0) ∧
          Hid (Below w.heap.size w wr) ∧ Hid (PBox wr ga YA) ∧ Hid (PBox wr g1 Y1) ∧ Hid (PBox wr g2 Y2) ∧ Hid (OwnP w.heap.size wr YA) ∧ Hid (OwnP w.heap.size wr Y1) ∧ Hid (OwnP w.heap.size wr Y2) ∧ Hid (Mem.Owns ci 3 w.heap.size wr (.slice U ua ud) ua ap.2.1) ∧ Hid (Mem.Owns ci 3 w.heap.size wr (.slice T k td) k (places (P0.at_ + (P0.buf.length : Int)) (l.take k))) ∧ Hid (Mem.Owns cb 5 w.heap.size wr (.slice B bn bc) bn bs) ∧
          Hid (Far YA (.slice B bn bc) ∧ Far Y1 (.slice B bn bc) ∧ Far Y2 (.slice B bn bc) ∧ Ap (.slice U ua ud) (.slice T k td))) (fun _ _ i _ => n - (intOf i).toNat)
      case atStart =>
        refine ⟨0, Y0, Y0, none, 0, none, 0, 0, [], rfl, rfl, rfl, by omega, ?_, ?_, ?_, ?_, ?_, L9, A9, N9, S9, E9, O9, O9, U9, ?_, ?_, ?_⟩
        · show _ = _; rw [List.take_zero, moreP_nil]; exact HP.out
        · exact Lib.hid ⟨OKY.out, by rw [HP.out]; exact CP0.out, by rw [HP.out]; exact AT0.out, .inl rfl⟩
        · show _ = _; rw [List.take_zero, moreP_nil, HP.out]; rfl
        · exact Lib.hid (fitsP_nil OK0.out)
        · exact Lib.hid (by simp)
        · exact Lib.hid (Mem.Owns.nil _ _ _ _)
        · exact Lib.hid (Mem.Owns.nil _ _ _ _)
        · exact Lib.hid ⟨far_nil _, far_nil _, far_nil _, ap_nil _⟩
      case round =>
        clear L9 A9 N9 S9 E9 O9 U9 P9
        obtain ⟨k, Y1, Y2, T, td, B, bn, bc, bs, rfl, rfl, rfl, hk, HY1, HY2, HBS, FT, HC, L2, A2, N2, S2, E2, O2, P2, U2, T2, B2, FR⟩ := hrel
        have HBN : Hid (bn ≤ 65536) := by
          have h1 := congrArg List.length HBS.out
          rw [List.length_append, B2.out.len] at h1
          have h2 := (OK0.out.more (errB_ok HC.out) FT.out).buf_le
          show _ ≤ _
          omega
        have HKS : Hid (k ≤ 65536) := by
          have h1 := frames_ge (l.take k)
          have h2 := (OK0.out.more (errB_ok HC.out) FT.out).buf_le
          have h3 : (moreP P0 (l.take k)).buf.length = P0.buf.length + (frames (l.take k)).length := List.length_append
          have h4 : (l.take k).length = k := by rw [List.length_take, HLN.out]; omega
          show _ ≤ _
          omega
        by_cases hlt : k < n
        · obtain ⟨y, hy⟩ := HR.out.get hlt
          obtain ⟨b0, o0, rfl, hb0, hcell⟩ := HR.out.seven hy
          obtain ⟨q0, q1, q2, q3, q4, q5, q6⟩ := hcell wr (L2.out.block b0 hb0)
          have hym := List.mem_of_getElem? hy
          have HX : Hid (l[k]? = some y.r) := by show _ = _; rw [← HL.out, List.getElem?_map, hy]; rfl
          have HD := Lib.hid (HR.out.data y hym)
          have HF : Hid (fits (nums y.r)) := HG.out y.r (List.mem_map_of_mem hym)
          have hk0 : (0 : Int) ≤ (k : Int) := by omega
          have hkn : (k : Int) < (n : Int) := by omega
          have OK1 : Hid (OkP Y1.p) := by show OkP _; rw [HY1.out]; exact OK0.out.more (errB_ok HC.out) FT.out
          clear hcell hy hym hb0
          go_upto_region 15 with fail
          have BB : Below wr.heap.size wr (wr.alloc (.cells #[.int .i64 y.r.kind, .int .i64 y.r.lba, .int .i64 y.r.n, .int .i64 y.r.ver, .int .i64 y.r.zone, .int .i64 y.r.off, .slice y.D y.r.data.length y.c] 34)) := (Below.refl _ wr).alloc (Nat.le_refl _) _
          have R3 : Hid (RBox (wr.alloc (.cells #[.int .i64 y.r.kind, .int .i64 y.r.lba, .int .i64 y.r.n, .int .i64 y.r.ver, .int .i64 y.r.zone, .int .i64 y.r.off, .slice y.D y.r.data.length y.c] 34)) wr.heap.size y) := Cells.new _ _ _
          have L3 := Lib.hid (L2.out.trans (BB.mono L2.out.size))
          have A3 := Lib.hid (Cells.below A2.out BB)
          have N3 := Lib.hid (Cells.below N2.out BB)
          have S3 := Lib.hid (Cells.below S2.out BB)
          have E3 := Lib.hid (OwnP.below E2.out BB)
          have O3 := Lib.hid (OwnP.below O2.out BB)
          have P3 := Lib.hid (OwnP.below P2.out BB)
          have U3 := Lib.hid (Mem.Owns.below U2.out BB)
          have T3 := Lib.hid (Mem.Owns.below T2.out BB)
          have B3 := Lib.hid (Mem.Owns.below B2.out BB)
          clear L2 A2 N2 S2 E2 O2 P2 U2 T2 B2 BB q0 q1 q2 q3 q4 q5 q6
          generalize wr.alloc (.cells #[.int .i64 y.r.kind, .int .i64 y.r.lba, .int .i64 y.r.n, .int .i64 y.r.ver, .int .i64 y.r.zone, .int .i64 y.r.off, .slice y.D y.r.data.length y.c] 34) = w3 at *
          generalize wr.heap.size = r at *
          obtain ⟨m0, m1, m2, m3, m4, m5, m6⟩ := seven_cells R3.out
          obtain ⟨k0, k1, k2, k3, k4, k5, k6, k7⟩ := eight_cells N3.out
          have BB : Below w3.heap.size w3 (w3.alloc (.cells #[.int .i64 y.r.kind, .int .i64 y.r.lba, .int .i64 y.r.n, .int .i64 y.r.ver, .int .i64 y.r.zone, .int .i64 y.r.off, .slice y.D y.r.data.length y.c] 34)) := (Below.refl _ w3).alloc (Nat.le_refl _) _
          have R1 := Lib.hid (row_oneR (w := w3) (y := y) rfl)
          have L4 := Lib.hid (L3.out.trans (BB.mono L3.out.size))
          have A4 := Lib.hid (Cells.below A3.out BB)
          have N4 := Lib.hid (Cells.below N3.out BB)
          have S4 := Lib.hid (Cells.below S3.out BB)
          have E4 := Lib.hid (OwnP.below E3.out BB)
          have O4 := Lib.hid (OwnP.below O3.out BB)
          have P4 := Lib.hid (OwnP.below P3.out BB)
          have U4 := Lib.hid (Mem.Owns.below U3.out BB)
          have T4 := Lib.hid (Mem.Owns.below T3.out BB)
          have B4 := Lib.hid (Mem.Owns.below B3.out BB)
          have R4 := Lib.hid (Cells.below R3.out BB)
          clear BB
          rcases addP_cases Y1.p [y.r] with ⟨h1, h2, -⟩ | ⟨e, he, -, h3⟩
          · have hc := add_ok_one h1
            have HC_ := Lib.hid hc
            have HF1 := Lib.hid h2
            have HAD := Lib.hid (add1_ok (O4.out.any OK1.out) OK1.out R1.out (HD.out.below L4.out) HF.out hc h2)
            unfold pxv at HAD
            have SZ4 := L4.out.size
            clear R1 hc h1 h2
            go_upto_region 16 with (go_at_call 10; refine HAD.out.mono ?_; rintro e w5 ⟨V, T1, d1, rfl, hV, hO, hT, hb⟩; have L5 := Lib.hid (L4.out.trans (hb.mono L4.out.size)); have A5 := Lib.hid (Cells.below A4.out hb); have N5 := Lib.hid (Cells.below N4.out hb); have S5 := Lib.hid (Cells.below S4.out hb); have E5 := Lib.hid (OwnP.below E4.out hb); have O5 := Lib.hid (OwnP.below O4.out hb); have P5 := Lib.hid (OwnP.below P4.out hb); have U5 := Lib.hid (Mem.Owns.below U4.out hb); have T5 := Lib.hid (Mem.Owns.below T4.out hb); have B5 := Lib.hid (Mem.Owns.below B4.out hb); have R5 := Lib.hid (Cells.below R4.out hb); have V5 := Lib.hid (hO.mono SZ4); have M5 := Lib.hid (hT.mono SZ4); have AM := Lib.hid (ap_later T4.out hT); have FV := Lib.hid (far_later B4.out hO); have HV := Lib.hid hV; clear hV hO hT hb m0 m1 m2 m3 m4 m5 m6 k0 k1 k2 k3 k4 k5 k6 k7 HAD SZ4 L3 L4 A3 N3 S3 E3 O3 P3 U3 T3 B3 R3 A4 N4 S4 E4 O4 P4 U4 T4 B4 R4)
            have BB : Below w5.heap.size w5 (w5.alloc (.cells #[.int .i64 V.p.h.host, .int .i64 V.p.h.epoch, .int .i64 V.p.h.seq, .int .i64 V.p.zone, .int .i64 V.p.cap, .int .i64 V.p.at_, .slice V.B V.p.buf.length V.bc, .slice V.L V.p.l.length V.lc] 29)) := (Below.refl _ w5).alloc (Nat.le_refl _) _
            have G6 : Hid (PBox (w5.alloc (.cells #[.int .i64 V.p.h.host, .int .i64 V.p.h.epoch, .int .i64 V.p.h.seq, .int .i64 V.p.zone, .int .i64 V.p.cap, .int .i64 V.p.at_, .slice V.B V.p.buf.length V.bc, .slice V.L V.p.l.length V.lc] 29)) w5.heap.size V) := Cells.new _ _ _
            have L6 := Lib.hid (L5.out.trans (BB.mono L5.out.size))
            have A6 := Lib.hid (Cells.below A5.out BB)
            have N6 := Lib.hid (Cells.below N5.out BB)
            have S6 := Lib.hid (Cells.below S5.out BB)
            have E6 := Lib.hid (OwnP.below E5.out BB)
            have O6 := Lib.hid (OwnP.below O5.out BB)
            have P6 := Lib.hid (OwnP.below P5.out BB)
            have U6 := Lib.hid (Mem.Owns.below U5.out BB)
            have T6 := Lib.hid (Mem.Owns.below T5.out BB)
            have B6 := Lib.hid (Mem.Owns.below B5.out BB)
            have R6 := Lib.hid (Cells.below R5.out BB)
            have V6 := Lib.hid (OwnP.below V5.out BB)
            have M6 := Lib.hid (Mem.Owns.below M5.out BB)
            clear L5 A5 N5 S5 E5 O5 P5 U5 T5 B5 R5 V5 M5 BB
            generalize w5.alloc (.cells #[.int .i64 V.p.h.host, .int .i64 V.p.h.epoch, .int .i64 V.p.h.seq, .int .i64 V.p.zone, .int .i64 V.p.cap, .int .i64 V.p.at_, .slice V.B V.p.buf.length V.bc, .slice V.L V.p.l.length V.lc] 29) = w6 at *
            generalize w5.heap.size = v at *
            obtain ⟨m0, m1, m2, m3, m4, m5, m6, m7⟩ := eight_cells G6.out
            obtain ⟨f0, f1, f2, f3, f4, f5, f6, f7⟩ := eight_free N6.out
            obtain ⟨k0, k1, k2, k3, k4, k5, k6, k7⟩ := eight_cells N6.out
            go_upto_region 19 with fail
            have bt := mov8 w6 g1 (.int .i64 V.p.h.host) (.int .i64 V.p.h.epoch) (.int .i64 V.p.h.seq) (.int .i64 V.p.zone) (.int .i64 V.p.cap) (.int .i64 V.p.at_) (.slice V.B V.p.buf.length V.bc) (.slice V.L V.p.l.length V.lc)
            unfold set8W at bt
            have cg := Chg.mov N6.out bt
            have L7 := Lib.hid (L6.out.trans (bt.up L6.out.size G1.out))
            have N7 : Hid (PBox _ g1 V) := Lib.hid (set8 N6.out (.int .i64 V.p.h.host) (.int .i64 V.p.h.epoch) (.int .i64 V.p.h.seq) (.int .i64 V.p.zone) (.int .i64 V.p.cap) (.int .i64 V.p.at_) (.slice V.B V.p.buf.length V.bc) (.slice V.L V.p.l.length V.lc))
            unfold set8W at N7
            have O7 := Lib.hid (OwnP.chg V6.out cg (by decide) (by decide))
            have A7 := Lib.hid (Cells.mov A6.out bt (by simpa using NA1.out))
            have S7 := Lib.hid (Cells.mov S6.out bt (by simpa using N12.out.symm))
            have E7 := Lib.hid (OwnP.chg E6.out cg (by decide) (by decide))
            have P7 := Lib.hid (OwnP.chg P6.out cg (by decide) (by decide))
            have U7 := Lib.hid (Chg.ownI cg U6.out (by decide))
            have T7 := Lib.hid (Chg.ownI cg T6.out (by decide))
            have B7 := Lib.hid (Chg.ownI cg B6.out (by decide))
            have R7 := Lib.hid (Chg.cells cg R6.out (by decide))
            have M7 := Lib.hid (Chg.ownI cg M6.out (by decide))
            clear bt cg m0 m1 m2 m3 m4 m5 m6 m7 f0 f1 f2 f3 f4 f5 f6 f7 k0 k1 k2 k3 k4 k5 k6 k7 L6 V6 G6 A6 N6 S6 E6 O6 P6 U6 T6 B6 R6 M6
            generalize (((((((w6.setCell ⟨g1, 0, none⟩ (.int .i64 V.p.h.host)).setCell ⟨g1, 1, none⟩ (.int .i64 V.p.h.epoch)).setCell ⟨g1, 2, none⟩ (.int .i64 V.p.h.seq)).setCell ⟨g1, 3, none⟩ (.int .i64 V.p.zone)).setCell ⟨g1, 4, none⟩ (.int .i64 V.p.cap)).setCell ⟨g1, 5, none⟩ (.int .i64 V.p.at_)).setCell ⟨g1, 6, none⟩ (.slice V.B V.p.buf.length V.bc)).setCell ⟨g1, 7, none⟩ (.slice V.L V.p.l.length V.lc) = w7 at *
            go_upto_region 20 with (first
              | (at_builtin
                 refine OwnB.wpList_append ci_one Try.underlying37 Wire.info_int rfl (by omega) rfl (.tmp 72) (.tmp 73) rfl rfl w.heap.size (.slice T k td) k _ rfl T7.out T1 1 d1 _ rfl (Wire.gave_row M7.out (by simp)).1 (by have := HKS.out; omega) L7.out.size ?_
                 intro T' td' w8 ho hg hn
                 have AU := Lib.hid (ap_new FR.out.2.2.2 U7.out hn)
                 have cg : Chg 3 _ w7 w8 := Chg.own (OwnB.to T7.out) hg
                 have L8 := Lib.hid (L7.out.trans (OwnB.below_row T7.out hg L7.out.size))
                 have T8 := Lib.hid ho
                 have M8 := Lib.hid (OwnB.back (cg.owns_ne (OwnB.to M7.out) AM.out))
                 have U8 := Lib.hid (OwnB.back (cg.owns_ne (OwnB.to U7.out) FR.out.2.2.2))
                 have A8 := Lib.hid (Chg.cells cg A7.out (by decide))
                 have N8 := Lib.hid (Chg.cells cg N7.out (by decide))
                 have S8 := Lib.hid (Chg.cells cg S7.out (by decide))
                 have E8 := Lib.hid (OwnP.chg E7.out cg (by decide) (by decide))
                 have O8 := Lib.hid (OwnP.chg O7.out cg (by decide) (by decide))
                 have P8 := Lib.hid (OwnP.chg P7.out cg (by decide) (by decide))
                 have B8 := Lib.hid (Chg.ownI cg B7.out (by decide))
                 have R8 := Lib.hid (Chg.cells cg R7.out (by decide))
                 clear ho hg hn cg L7 A7 N7 S7 E7 O7 P7 U7 T7 B7 R7 M7)
              | fail)
            obtain ⟨m0, m1, m2, m3, m4, m5, m6⟩ := seven_cells R8.out
            obtain ⟨k0, k1, k2, k3, k4, k5, k6, k7⟩ := eight_cells S8.out
            have BB : Below w8.heap.size w8 (w8.alloc (.cells #[.int .i64 y.r.kind, .int .i64 y.r.lba, .int .i64 y.r.n, .int .i64 y.r.ver, .int .i64 y.r.zone, .int .i64 y.r.off, .slice y.D y.r.data.length y.c] 34)) := (Below.refl _ w8).alloc (Nat.le_refl _) _
            have R1 := Lib.hid (row_oneR (w := w8) (y := y) rfl)
            have L9 := Lib.hid (L8.out.trans (BB.mono L8.out.size))
            have A9 := Lib.hid (Cells.below A8.out BB)
            have N9 := Lib.hid (Cells.below N8.out BB)
            have S9 := Lib.hid (Cells.below S8.out BB)
            have E9 := Lib.hid (OwnP.below E8.out BB)
            have O9 := Lib.hid (OwnP.below O8.out BB)
            have P9 := Lib.hid (OwnP.below P8.out BB)
            have U9 := Lib.hid (Mem.Owns.below U8.out BB)
            have T9 := Lib.hid (Mem.Owns.below T8.out BB)
            have B9 := Lib.hid (Mem.Owns.below B8.out BB)
            have R9 := Lib.hid (Cells.below R8.out BB)
            have M9 := Lib.hid (Mem.Owns.below M8.out BB)
            clear BB
            have HEQ : Hid (Y2.p.at_ + (Y2.p.buf.length : Int) = Y1.p.at_ + (Y1.p.buf.length : Int)) := by
              have h1 := congrArg List.length HBS.out
              rw [List.length_append, B8.out.len, ← HY1.out] at h1
              have h2 : Y1.p.at_ = 0 := by rw [HY1.out]; exact AT0.out
              have h3 := HY2.out.2.2.1
              show _ = _
              rw [h2, h3]
              omega
            have CP1 : Hid (Y1.p.cap = 60000) := by show _ = _; rw [HY1.out]; exact CP0.out
            have HF2 : fitsP Y2.p [y.r] := by
              have h1 := (fitsP_one _ _).1 HF1.out
              have h2 := HEQ.out
              rw [CP1.out] at h1
              refine (fitsP_one _ _).2 ?_
              rw [HY2.out.2.1]
              omega
            have HAD := Lib.hid (add1_ok (P9.out.any HY2.out.1) HY2.out.1 R1.out (HD.out.below L9.out) HF.out HC_.out HF2)
            unfold pxv at HAD
            rw [HEQ.out] at HAD
            have HF2 := Lib.hid HF2
            have SZ9 := L9.out.size
            clear R1
            go_upto_region 21 with (go_at_call 10; refine HAD.out.mono ?_; rintro e w10 ⟨V2, J, jd, rfl, hV, hO, hT, hb⟩; have L10 := Lib.hid (L9.out.trans (hb.mono L9.out.size)); have A10 := Lib.hid (Cells.below A9.out hb); have N10 := Lib.hid (Cells.below N9.out hb); have S10 := Lib.hid (Cells.below S9.out hb); have E10 := Lib.hid (OwnP.below E9.out hb); have O10 := Lib.hid (OwnP.below O9.out hb); have P10 := Lib.hid (OwnP.below P9.out hb); have U10 := Lib.hid (Mem.Owns.below U9.out hb); have T10 := Lib.hid (Mem.Owns.below T9.out hb); have B10 := Lib.hid (Mem.Owns.below B9.out hb); have R10 := Lib.hid (Cells.below R9.out hb); have M10 := Lib.hid (Mem.Owns.below M9.out hb); have X10 := Lib.hid (hO.mono SZ9); have J10 := Lib.hid (hT.mono SZ9); have HV2 := Lib.hid hV; clear hV hO hT hb m0 m1 m2 m3 m4 m5 m6 k0 k1 k2 k3 k4 k5 k6 k7 HAD SZ9 L8 L9 A8 N8 S8 E8 O8 P8 U8 T8 B8 R8 M8 A9 N9 S9 E9 O9 P9 U9 T9 B9 R9 M9)
            have BB : Below w10.heap.size w10 (w10.alloc (.cells #[.int .i64 V2.p.h.host, .int .i64 V2.p.h.epoch, .int .i64 V2.p.h.seq, .int .i64 V2.p.zone, .int .i64 V2.p.cap, .int .i64 V2.p.at_, .slice V2.B V2.p.buf.length V2.bc, .slice V2.L V2.p.l.length V2.lc] 29)) := (Below.refl _ w10).alloc (Nat.le_refl _) _
            have G11 : Hid (PBox (w10.alloc (.cells #[.int .i64 V2.p.h.host, .int .i64 V2.p.h.epoch, .int .i64 V2.p.h.seq, .int .i64 V2.p.zone, .int .i64 V2.p.cap, .int .i64 V2.p.at_, .slice V2.B V2.p.buf.length V2.bc, .slice V2.L V2.p.l.length V2.lc] 29)) w10.heap.size V2) := Cells.new _ _ _
            clear R10
            have L11 := Lib.hid (L10.out.trans (BB.mono L10.out.size))
            have A11 := Lib.hid (Cells.below A10.out BB)
            have N11 := Lib.hid (Cells.below N10.out BB)
            have S11 := Lib.hid (Cells.below S10.out BB)
            have E11 := Lib.hid (OwnP.below E10.out BB)
            have O11 := Lib.hid (OwnP.below O10.out BB)
            have P11 := Lib.hid (OwnP.below P10.out BB)
            have U11 := Lib.hid (Mem.Owns.below U10.out BB)
            have T11 := Lib.hid (Mem.Owns.below T10.out BB)
            have B11 := Lib.hid (Mem.Owns.below B10.out BB)
            have M11 := Lib.hid (Mem.Owns.below M10.out BB)
            have X11 := Lib.hid (OwnP.below X10.out BB)
            have J11 := Lib.hid (Mem.Owns.below J10.out BB)
            clear L10 A10 N10 S10 E10 O10 P10 U10 T10 B10 M10 X10 J10 BB
            generalize w10.alloc (.cells #[.int .i64 V2.p.h.host, .int .i64 V2.p.h.epoch, .int .i64 V2.p.h.seq, .int .i64 V2.p.zone, .int .i64 V2.p.cap, .int .i64 V2.p.at_, .slice V2.B V2.p.buf.length V2.bc, .slice V2.L V2.p.l.length V2.lc] 29) = w11 at *
            generalize w10.heap.size = v2 at *
            have HSI := Lib.hid (sameInts_any (Wire.gave_row J11.out (by simp)).1 (Wire.gave_row M11.out (by simp)).1)
            go_upto_region 23 with (go_at_call 17; refine HSI.out.mono ?_; rintro e w12 ⟨rfl, hb⟩; have L12 := Lib.hid (L11.out.trans (hb.mono L11.out.size)); have A12 := Lib.hid (Cells.below A11.out hb); have N12 := Lib.hid (Cells.below N11.out hb); have S12 := Lib.hid (Cells.below S11.out hb); have E12 := Lib.hid (OwnP.below E11.out hb); have O12 := Lib.hid (OwnP.below O11.out hb); have P12 := Lib.hid (OwnP.below P11.out hb); have U12 := Lib.hid (Mem.Owns.below U11.out hb); have T12 := Lib.hid (Mem.Owns.below T11.out hb); have B12 := Lib.hid (Mem.Owns.below B11.out hb); have M12 := Lib.hid (Mem.Owns.below M11.out hb); have X12 := Lib.hid (OwnP.below X11.out hb); have J12 := Lib.hid (Mem.Owns.below J11.out hb); have G12 := Lib.hid (Cells.below G11.out hb); clear L11 A11 N11 S11 E11 O11 P11 U11 T11 B11 M11 X11 J11 G11 hb HSI)
            clear J12 M12
            have OKV : Hid (OkP V2.p) := by show OkP _; rw [HV2.out]; exact HY2.out.1.more (by rw [errB_one]; exact HC_.out) HF2.out
            have VL : Hid (0 < V2.p.buf.length) := by show _ < _; rw [HV2.out, more_buf]; have := flen_ge y.r; omega
            have HFL := Lib.hid (flush_some (X12.out.any OKV.out) OKV.out VL.out)
            unfold pxv at HFL
            have SZ12 := L12.out.size
            obtain ⟨k0, k1, k2, k3, k4, k5, k6, k7⟩ := eight_cells G12.out
            go_upto_region 24 with (go_at_call 15; refine HFL.out.mono ?_; rintro e w13 ⟨C, cd, Z, rfl, hZ, hO, hC, hb⟩; have L13 := Lib.hid (L12.out.trans (hb.mono L12.out.size)); have A13 := Lib.hid (Cells.below A12.out hb); have N13 := Lib.hid (Cells.below N12.out hb); have S13 := Lib.hid (Cells.below S12.out hb); have E13 := Lib.hid (OwnP.below E12.out hb); have O13 := Lib.hid (OwnP.below O12.out hb); have P13 := Lib.hid (OwnP.below P12.out hb); have U13 := Lib.hid (Mem.Owns.below U12.out hb); have T13 := Lib.hid (Mem.Owns.below T12.out hb); have B13 := Lib.hid (Mem.Owns.below B12.out hb); have X13 := Lib.hid (OwnP.below X12.out hb); have G13 := Lib.hid (Cells.below G12.out hb); have Y13 := Lib.hid (hO.mono SZ12); have C13 := Lib.hid (hC.mono SZ12); have FZ := Lib.hid (far_later B12.out hO); have AC := Lib.hid (ap_later B12.out hC); have HZ := Lib.hid hZ; clear hZ hO hC hb k0 k1 k2 k3 k4 k5 k6 k7 HFL SZ12; clear L12 A12 N12 S12 E12 O12 P12 U12 T12 B12 X12 G12 X13 G13; unfold pxv)
            have BB : Below w13.heap.size w13 ((w13.alloc (.cells #[.int .i64 1, .int .i64 V2.p.zone, .int .i64 V2.p.h.epoch, .int .i64 0, .int .i64 0, .slice C V2.p.buf.length cd] 48)).alloc (.cells #[.int .i64 Z.p.h.host, .int .i64 Z.p.h.epoch, .int .i64 Z.p.h.seq, .int .i64 Z.p.zone, .int .i64 Z.p.cap, .int .i64 Z.p.at_, .slice Z.B Z.p.buf.length Z.bc, .slice Z.L Z.p.l.length Z.lc] 29)) := ((Below.refl _ w13).alloc (Nat.le_refl _) _).alloc (by simp) _
            have K14 : Hid (Cells ((w13.alloc (.cells #[.int .i64 1, .int .i64 V2.p.zone, .int .i64 V2.p.h.epoch, .int .i64 0, .int .i64 0, .slice C V2.p.buf.length cd] 48)).alloc (.cells #[.int .i64 Z.p.h.host, .int .i64 Z.p.h.epoch, .int .i64 Z.p.h.seq, .int .i64 Z.p.zone, .int .i64 Z.p.cap, .int .i64 Z.p.at_, .slice Z.B Z.p.buf.length Z.bc, .slice Z.L Z.p.l.length Z.lc] 29)) w13.heap.size 48 #[.int .i64 1, .int .i64 V2.p.zone, .int .i64 V2.p.h.epoch, .int .i64 0, .int .i64 0, .slice C V2.p.buf.length cd]) := Lib.hid (Cells.alloc (Cells.new _ _ _) _)
            have G14 : Hid (PBox ((w13.alloc (.cells #[.int .i64 1, .int .i64 V2.p.zone, .int .i64 V2.p.h.epoch, .int .i64 0, .int .i64 0, .slice C V2.p.buf.length cd] 48)).alloc (.cells #[.int .i64 Z.p.h.host, .int .i64 Z.p.h.epoch, .int .i64 Z.p.h.seq, .int .i64 Z.p.zone, .int .i64 Z.p.cap, .int .i64 Z.p.at_, .slice Z.B Z.p.buf.length Z.bc, .slice Z.L Z.p.l.length Z.lc] 29)) (w13.heap.size + 1) Z) := by
              have := Cells.new (w13.alloc (.cells #[.int .i64 1, .int .i64 V2.p.zone, .int .i64 V2.p.h.epoch, .int .i64 0, .int .i64 0, .slice C V2.p.buf.length cd] 48)) #[.int .i64 Z.p.h.host, .int .i64 Z.p.h.epoch, .int .i64 Z.p.h.seq, .int .i64 Z.p.zone, .int .i64 Z.p.cap, .int .i64 Z.p.at_, .slice Z.B Z.p.buf.length Z.bc, .slice Z.L Z.p.l.length Z.lc] 29
              rw [World.size_alloc] at this
              exact this
            have L14 := Lib.hid (L13.out.trans (BB.mono L13.out.size))
            have A14 := Lib.hid (Cells.below A13.out BB)
            have N14 := Lib.hid (Cells.below N13.out BB)
            have S14 := Lib.hid (Cells.below S13.out BB)
            have E14 := Lib.hid (OwnP.below E13.out BB)
            have O14 := Lib.hid (OwnP.below O13.out BB)
            have P14 := Lib.hid (OwnP.below P13.out BB)
            have U14 := Lib.hid (Mem.Owns.below U13.out BB)
            have T14 := Lib.hid (Mem.Owns.below T13.out BB)
            have B14 := Lib.hid (Mem.Owns.below B13.out BB)
            have Y14 := Lib.hid (OwnP.below Y13.out BB)
            have C14 := Lib.hid (Mem.Owns.below C13.out BB)
            clear L13 A13 N13 S13 E13 O13 P13 U13 T13 B13 Y13 C13 BB
            generalize (w13.alloc (.cells #[.int .i64 1, .int .i64 V2.p.zone, .int .i64 V2.p.h.epoch, .int .i64 0, .int .i64 0, .slice C V2.p.buf.length cd] 48)).alloc (.cells #[.int .i64 Z.p.h.host, .int .i64 Z.p.h.epoch, .int .i64 Z.p.h.seq, .int .i64 Z.p.zone, .int .i64 Z.p.cap, .int .i64 Z.p.at_, .slice Z.B Z.p.buf.length Z.bc, .slice Z.L Z.p.l.length Z.lc] 29) = w14 at *
            generalize w13.heap.size = kb at *
            have m5 := Cells.cell K14.out 5
            (try dsimp only at m5)
            go_upto_region 25 with (first
              | (at_builtin
                 refine OwnB.wpList_append cb_one Try.underlying27 info_byte rfl (by omega) rfl (.tmp 97) (.tmp 99) rfl rfl w.heap.size (.slice B bn bc) bn _ rfl B14.out C V2.p.buf.length cd _ rfl (Wire.gave_row C14.out (by have := OKV.out.buf_le; omega)).1 (by have := OKV.out.buf_le; have := HBN.out; omega) L14.out.size ?_
                 intro B' bc' w15 ho hg hn
                 have cg : Chg 5 _ w14 w15 := Chg.own (OwnB.to B14.out) hg
                 have L15 := Lib.hid (L14.out.trans (OwnB.below_row B14.out hg L14.out.size))
                 have FR2 := Lib.hid (And.intro (far_new FR.out.1 E14.out hn) (And.intro (far_new FV.out O14.out hn) (And.intro (far_new FZ.out Y14.out hn) AU.out)))
                 have E15 := Lib.hid (OwnP.bytes E14.out B14.out FR.out.1 hg)
                 have O15 := Lib.hid (OwnP.bytes O14.out B14.out FV.out hg)
                 have Y15 := Lib.hid (OwnP.bytes Y14.out B14.out FZ.out hg)
                 have B15 := Lib.hid ho
                 have K15 := Lib.hid (cg.cells K14.out (by decide))
                 have G15 := Lib.hid (cg.cells G14.out (by decide))
                 have A15 := Lib.hid (Chg.cells cg A14.out (by decide))
                 have N15 := Lib.hid (Chg.cells cg N14.out (by decide))
                 have S15 := Lib.hid (Chg.cells cg S14.out (by decide))
                 have U15 := Lib.hid (Chg.ownI cg U14.out (by decide))
                 have T15 := Lib.hid (Chg.ownI cg T14.out (by decide))
                 clear ho hg hn cg m5 L14 K14 G14 A14 N14 S14 E14 O14 P14 U14 T14 B14 Y14 C14)
              | fail)
            obtain ⟨m0, m1, m2, m3, m4, m5, m6, m7⟩ := eight_cells G15.out
            obtain ⟨f0, f1, f2, f3, f4, f5, f6, f7⟩ := eight_free S15.out
            obtain ⟨k0, k1, k2, k3, k4, k5, k6, k7⟩ := eight_cells S15.out
            go_upto_region 26 with fail
            have bt := mov8 w15 g2 (.int .i64 Z.p.h.host) (.int .i64 Z.p.h.epoch) (.int .i64 Z.p.h.seq) (.int .i64 Z.p.zone) (.int .i64 Z.p.cap) (.int .i64 Z.p.at_) (.slice Z.B Z.p.buf.length Z.bc) (.slice Z.L Z.p.l.length Z.lc)
            unfold set8W at bt
            have cg := Chg.mov S15.out bt
            have L16 := Lib.hid (L15.out.trans (bt.up L15.out.size G2.out))
            have S16 : Hid (PBox _ g2 Z) := Lib.hid (set8 S15.out (.int .i64 Z.p.h.host) (.int .i64 Z.p.h.epoch) (.int .i64 Z.p.h.seq) (.int .i64 Z.p.zone) (.int .i64 Z.p.cap) (.int .i64 Z.p.at_) (.slice Z.B Z.p.buf.length Z.bc) (.slice Z.L Z.p.l.length Z.lc))
            unfold set8W at S16
            have P16 := Lib.hid (OwnP.chg Y15.out cg (by decide) (by decide))
            have A16 := Lib.hid (Cells.mov A15.out bt (by simpa using NA2.out))
            have N16 := Lib.hid (Cells.mov N15.out bt (by simpa using N12.out))
            have E16 := Lib.hid (OwnP.chg E15.out cg (by decide) (by decide))
            have O16 := Lib.hid (OwnP.chg O15.out cg (by decide) (by decide))
            have U16 := Lib.hid (Chg.ownI cg U15.out (by decide))
            have T16 := Lib.hid (Chg.ownI cg T15.out (by decide))
            have B16 := Lib.hid (Chg.ownI cg B15.out (by decide))
            clear bt cg m0 m1 m2 m3 m4 m5 m6 m7 f0 f1 f2 f3 f4 f5 f6 f7 k0 k1 k2 k3 k4 k5 k6 k7 L15 G15 K15 Y15 A15 N15 S15 E15 O15 U15 T15 B15
            generalize (((((((w15.setCell ⟨g2, 0, none⟩ (.int .i64 Z.p.h.host)).setCell ⟨g2, 1, none⟩ (.int .i64 Z.p.h.epoch)).setCell ⟨g2, 2, none⟩ (.int .i64 Z.p.h.seq)).setCell ⟨g2, 3, none⟩ (.int .i64 Z.p.zone)).setCell ⟨g2, 4, none⟩ (.int .i64 Z.p.cap)).setCell ⟨g2, 5, none⟩ (.int .i64 Z.p.at_)).setCell ⟨g2, 6, none⟩ (.slice Z.B Z.p.buf.length Z.bc)).setCell ⟨g2, 7, none⟩ (.slice Z.L Z.p.l.length Z.lc) = w16 at *
            have HSN : Hid (l.take (k + 1) = l.take k ++ [y.r]) := by show _ = _; rw [List.take_add_one, HX.out]; rfl
            have hnb : k ≤ 65536 := HKS.out
            go_wp2_with fail
            go_roundw
            case rel =>
              refine ⟨k + 1, V, Z, T', td', B', bn + V2.p.buf.length, bc', bs ++ V2.p.buf, rfl, rfl, by go_num, by omega, ?_, ?_, ?_, ?_, ?_, L16, A16, N16, S16, E16, O16, P16, U16, ?_, B16, FR2⟩
              · show _ = _; rw [HV.out, HY1.out, moreP_more, ← HSN.out]
              · refine Lib.hid ⟨?_, ?_, ?_, .inr ?_⟩
                · rw [HZ.out]; exact OKV.out.behind
                · rw [HZ.out, HV2.out]; exact HY2.out.2.1
                · rw [HZ.out, HV2.out]
                  show Y2.p.at_ + (((moreP Y2.p [y.r]).buf.length : Nat) : Int) = _
                  rw [HY2.out.2.2.1]
                  omega
                · rw [HZ.out]; rfl
              · show _ = _
                rw [HZ.out, HSN.out, HV2.out]
                show (bs ++ (Y2.p.buf ++ frames [y.r])) ++ [] = P0.buf ++ frames (l.take k ++ [y.r])
                have h1 := HBS.out
                rw [List.append_nil, ← List.append_assoc, h1, Seg.frames_append]
                show (P0.buf ++ frames (l.take k)) ++ frames [y.r] = _
                rw [List.append_assoc]
              · show fitsP _ _
                rw [HSN.out]
                have h1 := HF1.out
                rw [HY1.out] at h1
                exact (fitsP_more _ _ _).1 h1
              · refine Lib.hid fun r hr => ?_
                rw [HSN.out] at hr
                rcases List.mem_append.1 hr with hr | hr
                · exact HC.out r hr
                · rw [List.mem_singleton.1 hr]; exact HC_.out
              · show Mem.Owns _ _ _ _ _ _ _
                have := T16.out
                rw [HSN.out, places_snoc]
                have e : P0.at_ + (P0.buf.length : Int) + ((frames (l.take k)).length : Int) = Y1.p.at_ + (Y1.p.buf.length : Int) := by
                  rw [HY1.out]
                  show _ = P0.at_ + (((P0.buf ++ frames (l.take k)).length : Nat) : Int)
                  rw [List.length_append]
                  omega
                rw [e]
                exact this
            case measure => simp [intOf]; omega
          · have hne := add_prefix_bad HX.out he (by rw [← HY1.out]; exact h3)
            rw [HAP.out] at hne
            have hd1 : ((e : Int) != 0) = true := by rw [bne_iff_ne]; omega
            have hd2 : ((ap.2.2 : Int) != 0) = true := by rw [bne_iff_ne]; omega
            have HAD := Lib.hid (add1_bad (O4.out.any OK1.out) OK1.out R1.out (HD.out.below L4.out) HF.out h3)
            unfold pxv at HAD
            clear R1 he h3 hne
            go_wp2_with (go_at_call 10; refine HAD.out.mono ?_; rintro e' w5 ⟨B3, bc3, L3', lc3, T3, d3, rfl, hb⟩; have L5 := Lib.hid (L4.out.trans (hb.mono L4.out.size)); clear hb HAD)
            go_ret
            exact ⟨rfl, L5.out.alloc L5.out.size _⟩
        · have hkn : k = n := by omega
          subst hkn
          have htk : l.take k = l := List.take_of_length_le (by rw [HLN.out]; exact Nat.le_refl _)
          rw [htk] at HY1 HBS FT HC T2
          obtain rfl : ap = (moreP P0 l, places (P0.at_ + (P0.buf.length : Int)) l, 0) := HAP.out.symm.trans (addP_ok (errB_ok HC.out) FT.out)
          obtain ⟨p1, B1, bc1, L1', lc1, ys1⟩ := Y1
          obtain rfl : p1 = YA.p := HY1.out.trans HPA.out.symm
          have OKA : Hid (OkP YA.p) := by show OkP _; rw [HPA.out]; exact OK0.out.more (errB_ok HC.out) FT.out
          have HSA := Lib.hid (same_pk (E2.out.any OKA.out) (O2.out.any OKA.out))
          have HSI := fun W (hW : Below wr.heap.size wr W) => Lib.hid (sameInts_any ((Wire.gave_row U2.out (by show (places _ l).length ≤ _; rw [places_len, HLN.out]; have := HKS.out; omega)).1.below hW) ((Wire.gave_row T2.out (by rw [places_len, HLN.out]; have := HKS.out; omega)).1.below hW))
          have VL : Hid (0 < YA.p.buf.length) := by
            show _ < _
            rw [HPA.out]
            show 0 < (P0.buf ++ frames l).length
            rw [List.length_append]
            have := BL0.out
            omega
          have HFL := fun W (hW : Below wr.heap.size wr W) => Lib.hid (flush_some ((E2.out.any OKA.out).below hW) OKA.out VL.out)
          unfold pxv at HSA HFL
          (try dsimp only at N2)
          (try dsimp only at HSA)
          obtain ⟨k0, k1, k2, k3, k4, k5, k6, k7⟩ := eight_cells A2.out
          obtain ⟨m0, m1, m2, m3, m4, m5, m6, m7⟩ := eight_cells N2.out
          go_upto_region 29 with (first
            | (go_at_call 18; refine HSA.out.mono ?_; rintro e w3 ⟨rfl, hb⟩; have LR3 := Lib.hid hb; have L3 := Lib.hid (L2.out.trans (hb.mono L2.out.size)); clear hb k0 k1 k2 k3 k4 k5 k6 k7 m0 m1 m2 m3 m4 m5 m6 m7 HSA)
            | (go_at_call 17; refine (HSI w3 LR3.out).out.mono ?_; rintro e w4 ⟨rfl, hb⟩; have LR4 := Lib.hid (LR3.out.trans (hb.mono LR3.out.size)); have L4 := Lib.hid (L3.out.trans (hb.mono L3.out.size)); clear hb HSI)
            | fail)
          have A4 := Lib.hid (Cells.below A2.out LR4.out)
          have S4 := Lib.hid (Cells.below S2.out LR4.out)
          have B4 := Lib.hid (Mem.Owns.below B2.out LR4.out)
          have P4 := Lib.hid (OwnP.below P2.out LR4.out)
          obtain ⟨k0, k1, k2, k3, k4, k5, k6, k7⟩ := eight_cells A4.out
          have S4s := L4.out.size
          clear A2 N2 S2 E2 O2 P2 U2 T2 B2 L2 L3
          go_upto_region 30 with (go_at_call 15; refine (HFL w4 LR4.out).out.mono ?_; rintro e w5 ⟨C, cd, Z, rfl, hZ, hO, hC, hb⟩; have L5 := Lib.hid (L4.out.trans (hb.mono L4.out.size)); have S5 := Lib.hid (Cells.below S4.out hb); have B5 := Lib.hid (Mem.Owns.below B4.out hb); have C5 := Lib.hid (hC.mono S4s); have HZ := Lib.hid hZ; clear hZ hO hC hb k0 k1 k2 k3 k4 k5 k6 k7 HFL L4 A4 S4 B4 P4; unfold pxv)
          have BB : Below w5.heap.size w5 ((w5.alloc (.cells #[.int .i64 1, .int .i64 YA.p.zone, .int .i64 YA.p.h.epoch, .int .i64 0, .int .i64 0, .slice C YA.p.buf.length cd] 48)).alloc (.cells #[.int .i64 Z.p.h.host, .int .i64 Z.p.h.epoch, .int .i64 Z.p.h.seq, .int .i64 Z.p.zone, .int .i64 Z.p.cap, .int .i64 Z.p.at_, .slice Z.B Z.p.buf.length Z.bc, .slice Z.L Z.p.l.length Z.lc] 29)) := ((Below.refl _ w5).alloc (Nat.le_refl _) _).alloc (by simp) _
          have K6 : Hid (Cells ((w5.alloc (.cells #[.int .i64 1, .int .i64 YA.p.zone, .int .i64 YA.p.h.epoch, .int .i64 0, .int .i64 0, .slice C YA.p.buf.length cd] 48)).alloc (.cells #[.int .i64 Z.p.h.host, .int .i64 Z.p.h.epoch, .int .i64 Z.p.h.seq, .int .i64 Z.p.zone, .int .i64 Z.p.cap, .int .i64 Z.p.at_, .slice Z.B Z.p.buf.length Z.bc, .slice Z.L Z.p.l.length Z.lc] 29)) w5.heap.size 48 #[.int .i64 1, .int .i64 YA.p.zone, .int .i64 YA.p.h.epoch, .int .i64 0, .int .i64 0, .slice C YA.p.buf.length cd]) := Lib.hid (Cells.alloc (Cells.new _ _ _) _)
          have G6 : Hid (PBox ((w5.alloc (.cells #[.int .i64 1, .int .i64 YA.p.zone, .int .i64 YA.p.h.epoch, .int .i64 0, .int .i64 0, .slice C YA.p.buf.length cd] 48)).alloc (.cells #[.int .i64 Z.p.h.host, .int .i64 Z.p.h.epoch, .int .i64 Z.p.h.seq, .int .i64 Z.p.zone, .int .i64 Z.p.cap, .int .i64 Z.p.at_, .slice Z.B Z.p.buf.length Z.bc, .slice Z.L Z.p.l.length Z.lc] 29)) (w5.heap.size + 1) Z) := by
            have := Cells.new (w5.alloc (.cells #[.int .i64 1, .int .i64 YA.p.zone, .int .i64 YA.p.h.epoch, .int .i64 0, .int .i64 0, .slice C YA.p.buf.length cd] 48)) #[.int .i64 Z.p.h.host, .int .i64 Z.p.h.epoch, .int .i64 Z.p.h.seq, .int .i64 Z.p.zone, .int .i64 Z.p.cap, .int .i64 Z.p.at_, .slice Z.B Z.p.buf.length Z.bc, .slice Z.L Z.p.l.length Z.lc] 29
            rw [World.size_alloc] at this
            exact this
          have L6 := Lib.hid (L5.out.trans (BB.mono L5.out.size))
          have S6 := Lib.hid (Cells.below S5.out BB)
          have B6 := Lib.hid (Mem.Owns.below B5.out BB)
          have C6 := Lib.hid (Mem.Owns.below C5.out BB)
          clear BB L5 S5 B5 C5
          generalize (w5.alloc (.cells #[.int .i64 1, .int .i64 YA.p.zone, .int .i64 YA.p.h.epoch, .int .i64 0, .int .i64 0, .slice C YA.p.buf.length cd] 48)).alloc (.cells #[.int .i64 Z.p.h.host, .int .i64 Z.p.h.epoch, .int .i64 Z.p.h.seq, .int .i64 Z.p.zone, .int .i64 Z.p.cap, .int .i64 Z.p.at_, .slice Z.B Z.p.buf.length Z.bc, .slice Z.L Z.p.l.length Z.lc] 29) = w6 at *
          generalize w5.heap.size = kb at *
          rcases Nat.eq_zero_or_pos k with h0 | h0
          · have hd : ((k : Int) == 0) = true := by rw [h0]; rfl
            clear h0
            go_wp2_with fail
            go_ret
            exact ⟨rfl, L6.out⟩
          · have hd : ((k : Int) == 0) = false := by rw [beq_eq_false_iff_ne]; omega
            have hbe : Y2.p.buf = [] := by
              rcases HY2.out.2.2.2 with h | h
              · omega
              · exact h
            have hbs : bs = YA.p.buf := by
              have := HBS.out
              rw [hbe, List.append_nil] at this
              rw [this, HPA.out]
            have hdA : ((Z.p.at_ : Int) == Y2.p.at_) = true := by
              have h1 := B6.out.len
              have h2 : YA.p.at_ = 0 := by rw [HPA.out]; exact AT0.out
              rw [HZ.out, HY2.out.2.2.1, beq_iff_eq]
              show YA.p.at_ + (YA.p.buf.length : Int) = _
              rw [h2, ← h1, hbs]
              omega
            have hdB : ((Y2.p.buf.length : Int) == 0) = true := by rw [hbe]; rfl
            subst hbs
            have s1 := run_str (Wire.gave_row C6.out (by have := OKA.out.buf_le; omega)).1
            have s2 := run_str (Wire.gave_row B6.out (by have := OKA.out.buf_le; omega)).1
            generalize str YA.p.buf = sx at *
            obtain ⟨c0, c1, c2, c3, c4, c5⟩ := six_cells K6.out
            obtain ⟨k0, k1, k2, k3, k4, k5, k6, k7⟩ := eight_cells G6.out
            obtain ⟨m0, m1, m2, m3, m4, m5, m6, m7⟩ := eight_cells S6.out
            clear h0 hbe
            go_wp2_with fail
            go_ret
            exact ⟨rfl, L6.out⟩
    · go_wp2_with (go_at_call 8; refine (HBG w3).out.mono ?_; rintro e w4 ⟨Y, rfl, hp, hO, hb⟩; have L4 := Lib.hid (L3.out.trans (hb.mono L3.out.size)); clear hb hO; unfold pxv)
      go_ret
      exact ⟨rfl, L4.out.alloc L4.out.size _⟩
    · go_wp2_with (go_at_call 8; refine (HBG w3).out.mono ?_; rintro e w4 ⟨Y, rfl, hp, hO, hb⟩; have L4 := Lib.hid (L3.out.trans (hb.mono L3.out.size)); clear hb hO; unfold pxv)
      go_ret
      exact ⟨rfl, L4.out.alloc L4.out.size _⟩
  · go_wp2_with (go_at_call 7; refine (HB w2 L2.out).out.mono ?_; rintro e w3 ⟨rfl, hb⟩; have L3 := Lib.hid (L2.out.trans (hb.mono L2.out.size)); have X3 := Lib.hid (Cells.below X2.out hb); clear hb HB X2)
    go_ret
    exact ⟨rfl, L3.out⟩
end Pk
end Go.Proofs.Ytedandbkdjmfhaa
/-
  THE STATEMENT PackerGroups: its row. For every input that the row can read, no condition beside it. (Written by gen_pkrows.py.)
-/
namespace Go.Proofs.Ytedandbkdjmfhaa
open Go.ChangeShapes Go.WideShapes Go.ChangeAt Go.RowKit Mem Args
namespace Pk

theorem packerGroups_says : Frame.Says Rows.packerGroupsSpec 2 := by
  refine ⟨rfl, fun H ds h => ?_, fun H ds h => ?_, fun H ds h => ?_⟩ <;>
  · match ds, h with
    | [d0, d1], _ => rfl

set_option maxRecDepth 100000 in
theorem packerGroups_walks : Frame.Walks 5 [23, 24] := by
  intro H enc W args ds ps base hok hA hsz
  obtain ⟨v0, vs0, d0, ds0, p0, q0, hargs, rfl, rfl, h0, r0⟩ := trodAll_cons hA
  obtain ⟨v1, vs1, d1, ds1, p1, q1, rfl, rfl, rfl, h1, r1⟩ := trodAll_cons r0
  obtain ⟨rfl, rfl, rfl⟩ := trodAll_nil r1
  obtain rfl : args = #[v0, v1] := by cases args; simp_all
  obtain ⟨f0, rfl, hf0⟩ := open_hdr (hok 0 _ v0 rfl rfl) h0
  obtain ⟨A1, n1, c1, l1, rfl, k1, hg1, hw1⟩ := open_recs (hok 1 _ v1 rfl rfl) h1 (sized_arg hsz (j := 1) rfl rfl)
  exact groups_walk f0 k1 hf0 hg1

set_option maxRecDepth 100000 in
theorem packerGroups_over : Rows.packerGroupsRow.holds Try.pinned (OpenSpec.ofChange Rows.packerGroupsSpec) :=
  OpenClaim.holds_of_wide 5 Try.f5 rfl rfl rfl rfl rfl rfl rfl ⟨rfl, rfl, rfl, rfl, rfl⟩ rfl rfl rfl rfl rfl (by kernel_rfl) Try.func5 (by kernel_rfl)
    (of_decide_eq_true (by kernel_rfl)) (by unfold Func.isWrapper; first | (rw [if_pos (by decide +kernel)]; kernel_rfl) | (rw [if_neg (by decide +kernel)]; exact ⟨rfl, rfl⟩))
    (fun os started H enc _ => Frame.lifted (started := started) Try.underlying4 (by kernel_rfl) Try.func5 (n := 2) (by rw [Try.params5]; rfl) packerGroups_says (by rw [Try.params5]; kernel_rfl) (by kernel_rfl)
      (ChangeSpec.witness6 (enc := enc) (C := Try.checked) false ⟨#[], #[.agg #[.int .i64 0, .int .i64 0, .int .i64 0], .slice none 0 0], []⟩ 8 (by kernel_rfl) (by kernel_rfl) (by kernel_rfl) (by kernel_rfl))
      (by rw [Try.params5]; exact packerGroups_walks))
end Pk
/-- The given statement. -/
theorem packerGroups_holds : Rows.PackerGroupsSaid := Pk.packerGroups_over
end Go.Proofs.Ytedandbkdjmfhaa
