/-
  SEVERAL TEXTS IN ONE FILE: PkSame, PkLive, PkOne, PkRoom, PkRoomRow.
-/
import Derived.Test.YtedandbkdjmfhaaPkAdd
import Derived.Laws.MakeOwn
import Derived.Test.YtedandbkdjmfhaaCut
/-
  WALKS OVER THE DOCUMENT: two packs the same; ints the same. The chapter's example in plain.
-/
namespace Go.Proofs.Ytedandbkdjmfhaa
open Go.RowKit Mem Box
namespace Pk
open Seg (Hdr Rc Rv cellsOf cellsOf_len RowR hdV recV fits nums hnums nn goods frame headX recX frames check recB headB)
set_option maxRecDepth 100000 in
set_option maxHeartbeats 800000 in
theorem sameInts_any {A B : Option Addr} {n c m d : Nat} {l : List Int} {w : World} (h1 : Row ci w A n c l) (h2 : Row ci w B m d l) :
    Calls Try.prog 17 #[.slice A n c, .slice B m d] w fun e w' => e = .returned (.bool true) ∧ Below w.heap.size w w' := by
  obtain rfl : n = m := by rw [← h1.len, h2.len]
  have H1 := Lib.hid h1
  have H2 := Lib.hid h2
  have hb := h1.big
  clear h1 h2
  go_enter Try.func17, Try.ntmps17
  go_wp2_with fail
  go_loopw [13] (fun i wr => ∃ k : Nat, i = .int .i64 k ∧ k ≤ n ∧ Hid (Below w.heap.size w wr)) (fun i _ => n - (intOf i).toNat)
  case atStart => exact ⟨0, rfl, by omega, Below.refl _ _⟩
  case round =>
    obtain ⟨k, rfl, hk, hB⟩ := hrel
    by_cases hlt : k < n
    · obtain ⟨z, hz⟩ := H1.out.get hlt
      obtain ⟨b1, o1, rfl, hc1⟩ := (H1.out.below hB.out).cell hz
      obtain ⟨b2, o2, rfl, hc2⟩ := (H2.out.below hB.out).cell hz
      have hc1' : wr.cell? ⟨b1, o1 + k, none⟩ = some (.int .i64 z) := hc1
      have hc2' : wr.cell? ⟨b2, o2 + k, none⟩ = some (.int .i64 z) := hc2
      have hk0 : (0 : Int) ≤ (k : Int) := by omega
      have hk1 : (k : Int) < (n : Int) := by omega
      clear hc1 hc2 hz
      go_wp2_with fail
      go_quiet (fail)
      go_wp2_with fail
      go_roundw
      case rel => exact ⟨k + 1, by go_num, by omega, below_drewN hB.out _⟩
      case measure => simp [intOf]; omega
    · go_wp2_with fail
      go_ret
      exact ⟨rfl, hB.out⟩

set_option maxRecDepth 100000 in
set_option maxHeartbeats 6400000 in
theorem same_pk {x : Px} {B L : Option Addr} {bc lc : Nat} {ys : List Rv} {w : World} (hx : PackAt w x) (hy : PackAt w ⟨x.p, B, bc, L, lc, ys⟩) :
    Calls Try.prog 18 #[pxv x, .agg #[.int .i64 x.p.h.host, .int .i64 x.p.h.epoch, .int .i64 x.p.h.seq, .int .i64 x.p.zone, .int .i64 x.p.cap, .int .i64 x.p.at_, .slice B x.p.buf.length bc, .slice L x.p.l.length lc]] w fun e w' => e = .returned (.bool true) ∧ Below w.heap.size w w' := by
  have L1 : Below w.heap.size w ((w.alloc (.cells #[.int .i64 x.p.h.host, .int .i64 x.p.h.epoch, .int .i64 x.p.h.seq, .int .i64 x.p.zone, .int .i64 x.p.cap, .int .i64 x.p.at_, .slice x.B x.p.buf.length x.bc, .slice x.L x.p.l.length x.lc] 29)).alloc (.cells #[.int .i64 x.p.h.host, .int .i64 x.p.h.epoch, .int .i64 x.p.h.seq, .int .i64 x.p.zone, .int .i64 x.p.cap, .int .i64 x.p.at_, .slice B x.p.buf.length bc, .slice L x.p.l.length lc] 29)) := (((Below.refl _ w).alloc (by first | exact Nat.le_refl _ | (simp; try omega)) _).alloc (by first | exact Nat.le_refl _ | (simp; try omega)) _)
  have X1 : Hid (PBox ((w.alloc (.cells #[.int .i64 x.p.h.host, .int .i64 x.p.h.epoch, .int .i64 x.p.h.seq, .int .i64 x.p.zone, .int .i64 x.p.cap, .int .i64 x.p.at_, .slice x.B x.p.buf.length x.bc, .slice x.L x.p.l.length x.lc] 29)).alloc (.cells #[.int .i64 x.p.h.host, .int .i64 x.p.h.epoch, .int .i64 x.p.h.seq, .int .i64 x.p.zone, .int .i64 x.p.cap, .int .i64 x.p.at_, .slice B x.p.buf.length bc, .slice L x.p.l.length lc] 29)) w.heap.size x) := Cells.alloc (Cells.new _ _ _) _
  have Y1 : Hid (Cells ((w.alloc (.cells #[.int .i64 x.p.h.host, .int .i64 x.p.h.epoch, .int .i64 x.p.h.seq, .int .i64 x.p.zone, .int .i64 x.p.cap, .int .i64 x.p.at_, .slice x.B x.p.buf.length x.bc, .slice x.L x.p.l.length x.lc] 29)).alloc (.cells #[.int .i64 x.p.h.host, .int .i64 x.p.h.epoch, .int .i64 x.p.h.seq, .int .i64 x.p.zone, .int .i64 x.p.cap, .int .i64 x.p.at_, .slice B x.p.buf.length bc, .slice L x.p.l.length lc] 29)) (w.heap.size + 1) 29 #[.int .i64 x.p.h.host, .int .i64 x.p.h.epoch, .int .i64 x.p.h.seq, .int .i64 x.p.zone, .int .i64 x.p.cap, .int .i64 x.p.at_, .slice B x.p.buf.length bc, .slice L x.p.l.length lc]) := by
    have := Cells.new (w.alloc (.cells #[.int .i64 x.p.h.host, .int .i64 x.p.h.epoch, .int .i64 x.p.h.seq, .int .i64 x.p.zone, .int .i64 x.p.cap, .int .i64 x.p.at_, .slice x.B x.p.buf.length x.bc, .slice x.L x.p.l.length x.lc] 29)) #[.int .i64 x.p.h.host, .int .i64 x.p.h.epoch, .int .i64 x.p.h.seq, .int .i64 x.p.zone, .int .i64 x.p.cap, .int .i64 x.p.at_, .slice B x.p.buf.length bc, .slice L x.p.l.length lc] 29
    rw [World.size_alloc] at this
    exact this
  have s1 := run_str (hx.buf.below L1)
  have s2 := run_str (hy.buf.below L1)
  have HS := fun W (hW : Below w.heap.size w W) => Lib.hid (Seg.sameRecs_any (hx.recs.below hW) (hy.recs.below hW) (hx.eq.trans hy.eq.symm))
  have L1 := Lib.hid L1
  unfold pxv
  dsimp only at s2 HS
  generalize str x.p.buf = sx at *
  clear hx hy
  go_enter Try.func18, Try.ntmps18
  go_upto_region 1 with fail
  generalize (w.alloc (.cells #[.int .i64 x.p.h.host, .int .i64 x.p.h.epoch, .int .i64 x.p.h.seq, .int .i64 x.p.zone, .int .i64 x.p.cap, .int .i64 x.p.at_, .slice x.B x.p.buf.length x.bc, .slice x.L x.p.l.length x.lc] 29)).alloc (.cells #[.int .i64 x.p.h.host, .int .i64 x.p.h.epoch, .int .i64 x.p.h.seq, .int .i64 x.p.zone, .int .i64 x.p.cap, .int .i64 x.p.at_, .slice B x.p.buf.length bc, .slice L x.p.l.length lc] 29) = w1 at *
  obtain ⟨m0, m1, m2, m3, m4, m5, m6, m7⟩ := eight_cells X1.out
  obtain ⟨k0, k1, k2, k3, k4, k5, k6, k7⟩ := eight_cells Y1.out
  go_wp2_with (go_at_call 16; refine (HS w1 L1.out).out.mono ?_; rintro e w2 ⟨rfl, hb⟩; have L2 := Lib.hid (L1.out.trans (hb.mono L1.out.size)); clear hb)
  go_ret
  exact ⟨rfl, L2.out⟩

/-! ### The example -/
def exH : Hdr := ⟨1, 2, 0⟩
def exR : Rc := ⟨1, 0, 1, 0, 0, 0, List.replicate 16 0#8⟩
theorem exH_nn : nn (hnums exH) := by intro z hz; simp [hnums, exH] at hz; omega
theorem exH_fits : fits (hnums exH) := by intro z hz; simp [hnums, exH] at hz; omega
theorem exR_fits : fits (nums exR) := by intro z hz; simp [nums, exR] at hz; omega
theorem exR_check : check exR = 0 := by decide
theorem enc_one {n : Nat} (h : n < 128) : (Wire.enc n).length = 1 := by rw [Wire.enc_lt h]; rfl
theorem exH_len : (frame (headX exH)).length = 9 := by
  have h : (headX exH).length = 4 := by simp [headX, hnums, exH, Wire.encs, Wire.enc_lt]
  rw [Seg.frame_len, h, enc_one (by omega)]
theorem exR_len : flen exR = 28 := by
  have h : (recX exR).length = 23 := by simp [recX, nums, exR, Wire.encs, Wire.enc_lt, Wire.encV]
  unfold flen
  rw [Seg.frame_len, h, enc_one (by omega)]
def exP : Pp := ⟨exH, 3, 200, 0, frame (headX exH), []⟩
theorem exP_len : exP.buf.length = 9 := exH_len
theorem ex_may : mayZ 3 200 := by unfold mayZ; omega
theorem ex_begin : beginP exH 3 200 = (exP, 0) := by
  unfold beginP
  rw [if_pos exH_nn, if_pos ex_may, if_pos (by rw [exH_len]; omega)]
  rfl
theorem exP_ok : OkP exP := OkP.begun (h := exH) ex_may (by rw [exH_len]; omega)
theorem ex_fits : fitsP exP [exR] := by
  unfold fitsP
  rw [exP_len, frames_one, exR_len]
  show (0 : Int) + _ + _ ≤ 200
  omega
theorem ex_errB : errB [exR] = 0 := by rw [errB_one]; exact exR_check
theorem ex_place : placeR exR = 8 := by unfold placeR; rw [exR_len]; rfl
theorem ex_add : addP exP [exR] = (moreP exP [exR], [17], 0) := by
  rw [addP_ok ex_errB ex_fits, places_one, exP_len, ex_place]
  rfl
theorem exM_ok : OkP (moreP exP [exR]) := exP_ok.more ex_errB ex_fits
theorem exM_len : (moreP exP [exR]).buf.length = 37 := by
  show (exP.buf ++ frames [exR]).length = 37
  rw [List.length_append, exP_len, frames_one, exR_len]
end Pk
end Go.Proofs.Ytedandbkdjmfhaa
/-
  A WALK: the chapter's example (live).
-/
namespace Go.Proofs.Ytedandbkdjmfhaa
open Go.RowKit Mem Box
namespace Pk
open Seg (Hdr Rc Rv cellsOf cellsOf_len RowR hdV recV fits nums hnums nn goods frame headX recX frames check recB headB)
theorem run_make16 (w : World) : (Instr.makeSlice 27 (.int .i64 16) (.int .i64 16)).run Try.prog w = .ok (.slice (some ⟨w.heap.size, 0, none⟩) 16 16) (w.alloc (.cells (madeCells #[.int .u8 0] 16) 5)) := by
  obtain ⟨i, hi, hz0, hz1, hz2⟩ := info_parts info_byte
  have h := run_make (P := Try.prog) w 27 5 i _ Try.underlying27 hi hz0 .i64 .i64 16 16 (by omega) (by omega) (by rw [hz2]; omega) (by omega)
  rw [hz1] at h
  exact h
theorem made16 (w : World) : Row cb (w.alloc (.cells (madeCells #[.int .u8 0] 16) 5)) (some ⟨w.heap.size, 0, none⟩) 16 16 (List.replicate 16 0#8) := by
  have h := Mem.Owns.made cb 5 w (List.replicate 16 0#8) (by decide) (Nat.le_refl _)
  have e : ((List.replicate 16 0#8).map cb).toArray = madeCells #[.int .u8 0] 16 := by
    apply Array.toList_inj.1
    apply List.ext_getElem?
    intro i
    unfold madeCells
    simp only [Array.getElem?_toList, Array.getElem?_map, Array.getElem?_range, List.getElem?_map, List.getElem?_replicate]
    split <;> simp [cb, u, Nat.mod_one]
  rw [e] at h
  exact (Wire.gave_row h (by decide)).1
theorem exBegin_any (w : World) : Calls Try.prog 8 #[.agg #[.int .i64 1, .int .i64 2, .int .i64 0], .int .i64 3, .int .i64 200] w fun e w' => ∃ B bc L lc ys, e = .returned (.tuple #[.agg #[.int .i64 1, .int .i64 2, .int .i64 0, .int .i64 3, .int .i64 200, .int .i64 0, .slice B 9 bc, .slice L 0 lc], .int .i64 0]) ∧ OwnP w.heap.size w' ⟨exP, B, bc, L, lc, ys⟩ ∧ Below w.heap.size w w' := by
  have h := begin_any (h := exH) (zone := 3) (most := 200) (w := w) exH_fits
  rw [ex_begin] at h
  refine h.mono ?_
  rintro e w' ⟨⟨p, B, bc, L, lc, ys⟩, rfl, hp, hO, hb⟩
  obtain rfl : p = exP := hp
  refine ⟨B, bc, L, lc, ys, ?_, hO, hb⟩
  unfold pxv
  dsimp only
  rw [exP_len]
  rfl
theorem exAdd_any {B : Option Addr} {bc : Nat} {L : Option Addr} {lc : Nat} {ys : List Rv} {base g r : Nat} {w : World} (hp : OwnP base w ⟨exP, B, bc, L, lc, ys⟩) (hr : RowS cellsOf 7 w (some ⟨r, 0, none⟩) 1 1 [⟨exR, some ⟨g, 0, none⟩, 16⟩]) (hd : Row cb w (some ⟨g, 0, none⟩) 16 16 (List.replicate 16 0#8)) :
    Calls Try.prog 10 #[.agg #[.int .i64 1, .int .i64 2, .int .i64 0, .int .i64 3, .int .i64 200, .int .i64 0, .slice B 9 bc, .slice L 0 lc], .slice (some ⟨r, 0, none⟩) 1 1] w fun e w' => ∃ B bc L lc ys T d, e = .returned (.tuple #[.agg #[.int .i64 1, .int .i64 2, .int .i64 0, .int .i64 3, .int .i64 200, .int .i64 0, .slice B 37 bc, .slice L 1 lc], .slice T 1 d, .int .i64 0]) ∧ OwnP w.heap.size w' ⟨moreP exP [exR], B, bc, L, lc, ys⟩ ∧ Mem.Owns ci 3 w.heap.size w' (.slice T 1 d) 1 [17] ∧ Below w.heap.size w w' := by
  have hR : RowR w (some ⟨r, 0, none⟩) 1 1 [⟨exR, some ⟨g, 0, none⟩, 16⟩] := rowR_of hr (by omega) (by intro x hx; rw [List.mem_singleton.1 hx]; exact hd)
  have h := add_any (hp.any exP_ok) exP_ok hR (by intro r hr; rw [List.mem_singleton.1 hr]; exact exR_fits)
  rw [show [(⟨exR, some ⟨g, 0, none⟩, 16⟩ : Rv)].map Rv.r = [exR] from rfl, ex_add] at h
  have hv : pxv ⟨exP, B, bc, L, lc, ys⟩ = .agg #[.int .i64 1, .int .i64 2, .int .i64 0, .int .i64 3, .int .i64 200, .int .i64 0, .slice B 9 bc, .slice L 0 lc] := by
    unfold pxv
    dsimp only
    rw [exP_len]
    rfl
  rw [hv] at h
  refine h.mono ?_
  rintro e w' ⟨⟨p, B, bc, L, lc, ys⟩, T, k, d, rfl, hp, hO, hT, hb⟩
  obtain rfl : p = moreP exP [exR] := hp
  obtain rfl : 1 = k := hT.len
  refine ⟨B, bc, L, lc, ys, T, d, ?_, hO, hT, hb⟩
  unfold pxv
  dsimp only
  rw [exM_len]
  rfl
theorem exFlush_any {B : Option Addr} {bc : Nat} {L : Option Addr} {lc : Nat} {ys : List Rv} {base : Nat} {w : World} (hp : OwnP base w ⟨moreP exP [exR], B, bc, L, lc, ys⟩) :
    Calls Try.prog 15 #[.agg #[.int .i64 1, .int .i64 2, .int .i64 0, .int .i64 3, .int .i64 200, .int .i64 0, .slice B 37 bc, .slice L 1 lc]] w fun e w' => ∃ B d L lc M mc, e = .returned (.tuple #[.agg #[.int .i64 1, .int .i64 3, .int .i64 2, .int .i64 0, .int .i64 0, .slice B 37 d], .agg #[.int .i64 1, .int .i64 2, .int .i64 0, .int .i64 3, .int .i64 200, .int .i64 37, .slice L 0 lc, .slice M 0 mc], .bool true]) ∧ Below w.heap.size w w' := by
  have h := flush_some (hp.any exM_ok) exM_ok (by show 0 < (moreP exP [exR]).buf.length; rw [exM_len]; omega)
  have hv : pxv ⟨moreP exP [exR], B, bc, L, lc, ys⟩ = .agg #[.int .i64 1, .int .i64 2, .int .i64 0, .int .i64 3, .int .i64 200, .int .i64 0, .slice B 37 bc, .slice L 1 lc] := by
    unfold pxv
    dsimp only
    rw [exM_len]
    rfl
  rw [hv] at h
  refine h.mono ?_
  rintro e w' ⟨B, d, ⟨p, L, lc, M, mc, ys⟩, rfl, hp, -, -, hb⟩
  obtain rfl : p = behindP (moreP exP [exR]) := hp
  refine ⟨B, d, L, lc, M, mc, ?_, hb⟩
  unfold pxv behindP
  dsimp only
  rw [exM_len]
  rfl
set_option maxRecDepth 100000 in
set_option maxHeartbeats 6400000 in
theorem live_any (w : World) : Calls Try.prog 6 #[] w fun e w' => e = .returned (.bool true) ∧ Below w.heap.size w w' := by
  have HBG := fun w => Lib.hid (exBegin_any w)
  have hmk := run_make16
  have L1 := Lib.hid (Below.refl w.heap.size w)
  go_enter Try.func6, Try.ntmps6
  go_upto_region 2 with (go_at_call 8; refine (HBG w).out.mono ?_; rintro e w2 ⟨B, bc, L, lc, ys, rfl, hO, hb⟩; have L2 := Lib.hid (L1.out.trans (hb.mono L1.out.size)); have O2 := Lib.hid hO; clear hO hb L1)
  have BB : Below w2.heap.size w2 (w2.alloc (.cells #[.int .i64 1, .int .i64 2, .int .i64 0, .int .i64 3, .int .i64 200, .int .i64 0, .slice B 9 bc, .slice L 0 lc] 29)) := (Below.refl _ w2).alloc (Nat.le_refl _) _
  have Q3 : Hid (Cells (w2.alloc (.cells #[.int .i64 1, .int .i64 2, .int .i64 0, .int .i64 3, .int .i64 200, .int .i64 0, .slice B 9 bc, .slice L 0 lc] 29)) w2.heap.size 29 #[.int .i64 1, .int .i64 2, .int .i64 0, .int .i64 3, .int .i64 200, .int .i64 0, .slice B 9 bc, .slice L 0 lc]) := Cells.new _ _ _
  have L3 := Lib.hid (L2.out.trans (BB.mono L2.out.size))
  have O3 := Lib.hid (O2.out.below BB)
  have GQ := Lib.hid (L2.out.size)
  clear BB L2 O2
  generalize w2.alloc (.cells #[.int .i64 1, .int .i64 2, .int .i64 0, .int .i64 3, .int .i64 200, .int .i64 0, .slice B 9 bc, .slice L 0 lc] 29) = w3 at *
  generalize w2.heap.size = q at *
  have L4 := Lib.hid L3.out.drew
  have Q4 := Lib.hid (Cells.below Q3.out ((Below.refl _ w3).drew))
  have O4 := Lib.hid (OwnP.below O3.out ((Below.refl _ w3).drew))
  refine wp_region_held_drew (S := fun W => True) (by kernel_rfl) (trivial) (fun hHeld => ?_)
  generalize w3.drew = w4 at *
  clear L3 Q3 O3 
  refine Reg.step2 0 1 rfl rfl (by kernel_rfl) (by rfl) (by rfl) (fun K hK => ?_) (fun K hK => ?_)
  · skip
    obtain ⟨m0, m1, m2, m3, m4, m5, m6, m7⟩ := eight_cells Q4.out
    go_simp
    refine hK.out _ _ trivial (fun hHeld => ?_)
    clear hK K m0 m1 m2 m3 m4 m5 m6 m7
    (try simp only [Act.put, List.setIfInBounds_toArray, List.set_cons_zero, List.set_cons_succ])
    refine Reg.step 1 rfl (by kernel_rfl) (by rfl) (fun K hK => ?_)
    go_simp
    have bb : Below w4.heap.size w4 (w4.alloc (.cells (madeCells #[.int .u8 0] 16) 5)) := (Below.refl _ w4).alloc (Nat.le_refl _) _
    have D5 := Lib.hid (made16 w4)
    have L5 := Lib.hid (L4.out.trans (bb.mono L4.out.size))
    have Q5 := Lib.hid (Cells.below Q4.out bb)
    have O5 := Lib.hid (OwnP.below O4.out bb)
    obtain ⟨g, hg⟩ : ∃ p, p = w4.heap.size := ⟨_, rfl⟩
    rw [← hg] at D5
    rw [← hg]
    have Gg : Hid (g = w4.heap.size) := hg
    clear bb hHeld hg
    clear L4 Q4 O4 
    generalize w4.alloc (.cells (madeCells #[.int .u8 0] 16) 5) = w5 at *
    refine hK.out _ _ (trivial) (fun hHeld => ?_)
    clear hK K
    (try simp only [Act.put, List.setIfInBounds_toArray, List.set_cons_zero, List.set_cons_succ])
    (first | (refine Reg.take 2 (v := ?_) rfl (by kernel_rfl) (by kernel_rfl) (by kernel_rfl) (fun _ _ _ h => h) (Or.inl ⟨by rfl, ?_⟩) (by assumption) ?_; rotate_left; (focus ((intro W hSW); (try dsimp only at hSW); (try go_split_ands); go_simp; (try (with_reducible rfl)); done))) | (refine Reg.take 2 (v := undef) rfl (by kernel_rfl) (by kernel_rfl) (by kernel_rfl) (fun _ _ _ h => h) (Or.inr ⟨by rfl, rfl⟩) (by assumption) ?_))
    (try simp only [Act.put, List.setIfInBounds_toArray, List.set_cons_zero, List.set_cons_succ])
    refine Reg.step 3 rfl (by kernel_rfl) (by rfl) (fun K hK => ?_)
    go_simp
    have bb : Below w5.heap.size w5 (w5.alloc (.cells #[.int .i64 1, .int .i64 0, .int .i64 1, .int .i64 0, .int .i64 0, .int .i64 0, .slice (some ⟨g, 0, none⟩) 16 16] 34)) := (Below.refl _ w5).alloc (Nat.le_refl _) _
    have R6 := Lib.hid (show RowS cellsOf 7 (w5.alloc (.cells #[.int .i64 1, .int .i64 0, .int .i64 1, .int .i64 0, .int .i64 0, .int .i64 0, .slice (some ⟨g, 0, none⟩) 16 16] 34)) (some ⟨w5.heap.size, 0, none⟩) 1 1 [⟨exR, some ⟨g, 0, none⟩, 16⟩] from row_oneR (w := w5) (y := ⟨exR, some ⟨g, 0, none⟩, 16⟩) rfl)
    have L6 := Lib.hid (L5.out.trans (bb.mono L5.out.size))
    have Q6 := Lib.hid (Cells.below Q5.out bb)
    have O6 := Lib.hid (OwnP.below O5.out bb)
    have D6 := Lib.hid (Row.below D5.out bb)
    obtain ⟨r, hr⟩ : ∃ p, p = w5.heap.size := ⟨_, rfl⟩
    rw [← hr] at R6
    rw [← hr]
    have Gr : Hid (r = w5.heap.size) := hr
    clear bb hHeld hr
    clear L5 Q5 O5 D5 
    generalize w5.alloc (.cells #[.int .i64 1, .int .i64 0, .int .i64 1, .int .i64 0, .int .i64 0, .int .i64 0, .slice (some ⟨g, 0, none⟩) 16 16] 34) = w6 at *
    refine hK.out _ _ (trivial) (fun hHeld => ?_)
    clear hK K
    (try simp only [Act.put, List.setIfInBounds_toArray, List.set_cons_zero, List.set_cons_succ])
    refine Reg.step 4 rfl (by kernel_rfl) (by rfl) (fun K hK => ?_)
    go_simp
    refine (exAdd_any O6.out R6.out D6.out).mono ?_
    rintro e w7 ⟨B2, bc2, L2, lc2, ys2, T, td, rfl, hO, hT, hb⟩
    have L7 := Lib.hid (L6.out.trans (hb.mono L6.out.size))
    have Q7 := Lib.hid (Cells.below Q6.out hb)
    have O7 := Lib.hid (OwnP.below O6.out hb)
    have D7 := Lib.hid (Row.below D6.out hb)
    have R7 := Lib.hid (RowS.below R6.out hb)
    clear O7 D7 R7
    have O7 := Lib.hid (hO.mono L6.out.size)
    have T7 := Lib.hid (hT.mono L6.out.size)
    clear hb hHeld hO hT
    clear L6 Q6 O6 D6 R6 
    refine hK.out _ _ (trivial) (fun hHeld => ?_)
    clear hK K
    (try simp only [Act.put, List.setIfInBounds_toArray, List.set_cons_zero, List.set_cons_succ])
    (first | (refine Reg.take 5 (v := ?_) rfl (by kernel_rfl) (by kernel_rfl) (by kernel_rfl) (fun _ _ _ h => h) (Or.inl ⟨by rfl, ?_⟩) (by assumption) ?_; rotate_left; (focus ((intro W hSW); (try dsimp only at hSW); (try go_split_ands); go_simp; (try (with_reducible rfl)); done))) | (refine Reg.take 5 (v := undef) rfl (by kernel_rfl) (by kernel_rfl) (by kernel_rfl) (fun _ _ _ h => h) (Or.inr ⟨by rfl, rfl⟩) (by assumption) ?_))
    (try simp only [Act.put, List.setIfInBounds_toArray, List.set_cons_zero, List.set_cons_succ])
    (first | (refine Reg.take 6 (v := ?_) rfl (by kernel_rfl) (by kernel_rfl) (by kernel_rfl) (fun _ _ _ h => h) (Or.inl ⟨by rfl, ?_⟩) (by assumption) ?_; rotate_left; (focus ((intro W hSW); (try dsimp only at hSW); (try go_split_ands); go_simp; (try (with_reducible rfl)); done))) | (refine Reg.take 6 (v := undef) rfl (by kernel_rfl) (by kernel_rfl) (by kernel_rfl) (fun _ _ _ h => h) (Or.inr ⟨by rfl, rfl⟩) (by assumption) ?_))
    (try simp only [Act.put, List.setIfInBounds_toArray, List.set_cons_zero, List.set_cons_succ])
    (first | (refine Reg.take 7 (v := ?_) rfl (by kernel_rfl) (by kernel_rfl) (by kernel_rfl) (fun _ _ _ h => h) (Or.inl ⟨by rfl, ?_⟩) (by assumption) ?_; rotate_left; (focus ((intro W hSW); (try dsimp only at hSW); (try go_split_ands); go_simp; (try (with_reducible rfl)); done))) | (refine Reg.take 7 (v := undef) rfl (by kernel_rfl) (by kernel_rfl) (by kernel_rfl) (fun _ _ _ h => h) (Or.inr ⟨by rfl, rfl⟩) (by assumption) ?_))
    (try simp only [Act.put, List.setIfInBounds_toArray, List.set_cons_zero, List.set_cons_succ])
    (first | (refine Reg.take 8 (v := ?_) rfl (by kernel_rfl) (by kernel_rfl) (by kernel_rfl) (fun _ _ _ h => h) (Or.inl ⟨by rfl, ?_⟩) (by assumption) ?_; rotate_left; (focus ((intro W hSW); (try dsimp only at hSW); (try go_split_ands); go_simp; (try (with_reducible rfl)); done))) | (refine Reg.take 8 (v := undef) rfl (by kernel_rfl) (by kernel_rfl) (by kernel_rfl) (fun _ _ _ h => h) (Or.inr ⟨by rfl, rfl⟩) (by assumption) ?_))
    (try simp only [Act.put, List.setIfInBounds_toArray, List.set_cons_zero, List.set_cons_succ])
    have y0 := Cells.cell Q7.out 0
    have f0 := Cells.frozen Q7.out 0
    have y1 := Cells.cell Q7.out 1
    have f1 := Cells.frozen Q7.out 1
    have y2 := Cells.cell Q7.out 2
    have f2 := Cells.frozen Q7.out 2
    have y3 := Cells.cell Q7.out 3
    have f3 := Cells.frozen Q7.out 3
    have y4 := Cells.cell Q7.out 4
    have f4 := Cells.frozen Q7.out 4
    have y5 := Cells.cell Q7.out 5
    have f5 := Cells.frozen Q7.out 5
    have y6 := Cells.cell Q7.out 6
    have f6 := Cells.frozen Q7.out 6
    have y7 := Cells.cell Q7.out 7
    have f7 := Cells.frozen Q7.out 7
    refine Reg.step 9 rfl (by kernel_rfl) (by rfl) (fun K hK => ?_)
    go_simp
    have bt := mov8 w7 q (.int .i64 1) (.int .i64 2) (.int .i64 0) (.int .i64 3) (.int .i64 200) (.int .i64 0) (.slice B2 37 bc2) (.slice L2 1 lc2)
    unfold set8W at bt
    have cg := Chg.mov Q7.out bt
    have L8 := Lib.hid (L7.out.trans (bt.up L7.out.size GQ.out))
    have Q8 : Hid (Cells ((((((((w7.setCell ⟨q, 0, none⟩ (.int .i64 1)).setCell ⟨q, 1, none⟩ (.int .i64 2)).setCell ⟨q, 2, none⟩ (.int .i64 0)).setCell ⟨q, 3, none⟩ (.int .i64 3)).setCell ⟨q, 4, none⟩ (.int .i64 200)).setCell ⟨q, 5, none⟩ (.int .i64 0)).setCell ⟨q, 6, none⟩ (.slice B2 37 bc2)).setCell ⟨q, 7, none⟩ (.slice L2 1 lc2)) q 29 #[.int .i64 1, .int .i64 2, .int .i64 0, .int .i64 3, .int .i64 200, .int .i64 0, .slice B2 37 bc2, .slice L2 1 lc2]) := set8 Q7.out (.int .i64 1) (.int .i64 2) (.int .i64 0) (.int .i64 3) (.int .i64 200) (.int .i64 0) (.slice B2 37 bc2) (.slice L2 1 lc2)
    have O8 := Lib.hid (O7.out.chg cg (by decide) (by decide))
    have T8 := Lib.hid (cg.ownI T7.out (by decide))
    clear bt cg hHeld L7 Q7 O7 T7 y0 f0 y1 f1 y2 f2 y3 f3 y4 f4 y5 f5 y6 f6 y7 f7
    generalize (((((((w7.setCell ⟨q, 0, none⟩ (.int .i64 1)).setCell ⟨q, 1, none⟩ (.int .i64 2)).setCell ⟨q, 2, none⟩ (.int .i64 0)).setCell ⟨q, 3, none⟩ (.int .i64 3)).setCell ⟨q, 4, none⟩ (.int .i64 200)).setCell ⟨q, 5, none⟩ (.int .i64 0)).setCell ⟨q, 6, none⟩ (.slice B2 37 bc2)).setCell ⟨q, 7, none⟩ (.slice L2 1 lc2) = w8 at *
    refine hK.out _ _ trivial (fun hHeld => ?_)
    clear hK K
    (try simp only [Act.put, List.setIfInBounds_toArray, List.set_cons_zero, List.set_cons_succ])
    (first | (refine Reg.take 10 (v := ?_) rfl (by kernel_rfl) (by kernel_rfl) (by kernel_rfl) (fun _ _ _ h => h) (Or.inl ⟨by rfl, ?_⟩) (by assumption) ?_; rotate_left; (focus ((intro W hSW); (try dsimp only at hSW); (try go_split_ands); go_simp; (try (with_reducible rfl)); done))) | (refine Reg.take 10 (v := undef) rfl (by kernel_rfl) (by kernel_rfl) (by kernel_rfl) (fun _ _ _ h => h) (Or.inr ⟨by rfl, rfl⟩) (by assumption) ?_))
    (try simp only [Act.put, List.setIfInBounds_toArray, List.set_cons_zero, List.set_cons_succ])
    (first | (refine Reg.take 11 (v := ?_) rfl (by kernel_rfl) (by kernel_rfl) (by kernel_rfl) (fun _ _ _ h => h) (Or.inl ⟨by rfl, ?_⟩) (by assumption) ?_; rotate_left; (focus ((intro W hSW); (try dsimp only at hSW); (try go_split_ands); go_simp; (try (with_reducible rfl)); done))) | (refine Reg.take 11 (v := undef) rfl (by kernel_rfl) (by kernel_rfl) (by kernel_rfl) (fun _ _ _ h => h) (Or.inr ⟨by rfl, rfl⟩) (by assumption) ?_))
    (try simp only [Act.put, List.setIfInBounds_toArray, List.set_cons_zero, List.set_cons_succ])
    refine wpAnyH_done (by kernel_rfl) ?_ _
    clear hHeld
    obtain ⟨m0, m1, m2, m3, m4, m5, m6, m7⟩ := eight_cells Q8.out
    have FL := Lib.hid (exFlush_any O8.out)
    obtain ⟨b, o, hTA, hc⟩ := ((Wire.gave_row T8.out (by decide)).1).cell (i := 0) (x := (17 : Int)) rfl
    subst hTA
    obtain ⟨hbt, hcc⟩ : b < w8.heap.size ∧ w8.cell? ⟨b, o, none⟩ = some (.int .i64 17) := by
      refine ⟨(OwnB.owns_lt T8.out b rfl).2, hc⟩
    have HT := Lib.hid hcc
    clear hc hcc
    go_upto_region 4 with (go_at_call 15; refine FL.out.mono ?_; rintro e w9 ⟨C, cc, N, nc, M, mc, rfl, hb⟩; have L9 := Lib.hid (L8.out.trans (hb.mono L8.out.size)); have T9 := Lib.hid ((World.cell?_of_block (hb.block b hbt)).trans HT.out); have hbt2 := Nat.lt_of_lt_of_le hbt hb.size; clear hb m0 m1 m2 m3 m4 m5 m6 m7 FL)
    have L10 : Hid (Below w.heap.size w ((w9.alloc (.cells #[.int .i64 1, .int .i64 3, .int .i64 2, .int .i64 0, .int .i64 0, .slice C 37 cc] 48)).alloc (.cells #[.int .i64 1, .int .i64 2, .int .i64 0, .int .i64 3, .int .i64 200, .int .i64 37, .slice N 0 nc, .slice M 0 mc] 29))) := Lib.hid ((L9.out.alloc L9.out.size _).alloc (by have := L9.out.size; simp; omega) _)
    have C10 : Hid (Cells ((w9.alloc (.cells #[.int .i64 1, .int .i64 3, .int .i64 2, .int .i64 0, .int .i64 0, .slice C 37 cc] 48)).alloc (.cells #[.int .i64 1, .int .i64 2, .int .i64 0, .int .i64 3, .int .i64 200, .int .i64 37, .slice N 0 nc, .slice M 0 mc] 29)) w9.heap.size 48 #[.int .i64 1, .int .i64 3, .int .i64 2, .int .i64 0, .int .i64 0, .slice C 37 cc]) := Lib.hid (Cells.alloc (Cells.new _ _ _) _)
    have P10 : Hid (Cells ((w9.alloc (.cells #[.int .i64 1, .int .i64 3, .int .i64 2, .int .i64 0, .int .i64 0, .slice C 37 cc] 48)).alloc (.cells #[.int .i64 1, .int .i64 2, .int .i64 0, .int .i64 3, .int .i64 200, .int .i64 37, .slice N 0 nc, .slice M 0 mc] 29)) (w9.heap.size + 1) 29 #[.int .i64 1, .int .i64 2, .int .i64 0, .int .i64 3, .int .i64 200, .int .i64 37, .slice N 0 nc, .slice M 0 mc]) := by
      have := Cells.new (w9.alloc (.cells #[.int .i64 1, .int .i64 3, .int .i64 2, .int .i64 0, .int .i64 0, .slice C 37 cc] 48)) #[.int .i64 1, .int .i64 2, .int .i64 0, .int .i64 3, .int .i64 200, .int .i64 37, .slice N 0 nc, .slice M 0 mc] 29
      rw [World.size_alloc] at this
      exact this
    have T10 : Hid (((w9.alloc (.cells #[.int .i64 1, .int .i64 3, .int .i64 2, .int .i64 0, .int .i64 0, .slice C 37 cc] 48)).alloc (.cells #[.int .i64 1, .int .i64 2, .int .i64 0, .int .i64 3, .int .i64 200, .int .i64 37, .slice N 0 nc, .slice M 0 mc] 29)).cell? ⟨b, o, none⟩ = some (.int .i64 17)) := Lib.hid ((World.cell?_of_block (((((Below.refl w9.heap.size w9).alloc (Nat.le_refl _) _).alloc (by simp) _).block b hbt2))).trans T9.out)
    generalize (w9.alloc (.cells #[.int .i64 1, .int .i64 3, .int .i64 2, .int .i64 0, .int .i64 0, .slice C 37 cc] 48)).alloc (.cells #[.int .i64 1, .int .i64 2, .int .i64 0, .int .i64 3, .int .i64 200, .int .i64 37, .slice N 0 nc, .slice M 0 mc] 29) = w10 at *
    generalize w9.heap.size = p at *
    obtain ⟨c0, c1, c2, c3, c4, c5⟩ := six_cells C10.out
    obtain ⟨p0, p1, p2, p3, p4, p5, p6, p7⟩ := eight_cells P10.out
    have t0 := T10.out
    go_quiet (fail)
    go_wp2_with fail
    go_ret
    exact ⟨rfl, below_drewN L10.out _⟩
  · skip
    go_simp
    have bb : Below w4.heap.size w4 (w4.alloc (.cells (madeCells #[.int .u8 0] 16) 5)) := (Below.refl _ w4).alloc (Nat.le_refl _) _
    have D5 := Lib.hid (made16 w4)
    have L5 := Lib.hid (L4.out.trans (bb.mono L4.out.size))
    have Q5 := Lib.hid (Cells.below Q4.out bb)
    have O5 := Lib.hid (OwnP.below O4.out bb)
    obtain ⟨g, hg⟩ : ∃ p, p = w4.heap.size := ⟨_, rfl⟩
    rw [← hg] at D5
    rw [← hg]
    have Gg : Hid (g = w4.heap.size) := hg
    clear bb hHeld hg
    clear L4 Q4 O4 
    generalize w4.alloc (.cells (madeCells #[.int .u8 0] 16) 5) = w5 at *
    refine hK.out _ _ (trivial) (fun hHeld => ?_)
    clear hK K
    (try simp only [Act.put, List.setIfInBounds_toArray, List.set_cons_zero, List.set_cons_succ])
    (first | (refine Reg.take 2 (v := ?_) rfl (by kernel_rfl) (by kernel_rfl) (by kernel_rfl) (fun _ _ _ h => h) (Or.inl ⟨by rfl, ?_⟩) (by assumption) ?_; rotate_left; (focus ((intro W hSW); (try dsimp only at hSW); (try go_split_ands); go_simp; (try (with_reducible rfl)); done))) | (refine Reg.take 2 (v := undef) rfl (by kernel_rfl) (by kernel_rfl) (by kernel_rfl) (fun _ _ _ h => h) (Or.inr ⟨by rfl, rfl⟩) (by assumption) ?_))
    (try simp only [Act.put, List.setIfInBounds_toArray, List.set_cons_zero, List.set_cons_succ])
    refine Reg.step2 0 3 rfl rfl (by kernel_rfl) (by rfl) (by rfl) (fun K hK => ?_) (fun K hK => ?_)
    · skip
      obtain ⟨m0, m1, m2, m3, m4, m5, m6, m7⟩ := eight_cells Q5.out
      go_simp
      refine hK.out _ _ trivial (fun hHeld => ?_)
      clear hK K m0 m1 m2 m3 m4 m5 m6 m7
      (try simp only [Act.put, List.setIfInBounds_toArray, List.set_cons_zero, List.set_cons_succ])
      refine Reg.step 3 rfl (by kernel_rfl) (by rfl) (fun K hK => ?_)
      go_simp
      have bb : Below w5.heap.size w5 (w5.alloc (.cells #[.int .i64 1, .int .i64 0, .int .i64 1, .int .i64 0, .int .i64 0, .int .i64 0, .slice (some ⟨g, 0, none⟩) 16 16] 34)) := (Below.refl _ w5).alloc (Nat.le_refl _) _
      have R6 := Lib.hid (show RowS cellsOf 7 (w5.alloc (.cells #[.int .i64 1, .int .i64 0, .int .i64 1, .int .i64 0, .int .i64 0, .int .i64 0, .slice (some ⟨g, 0, none⟩) 16 16] 34)) (some ⟨w5.heap.size, 0, none⟩) 1 1 [⟨exR, some ⟨g, 0, none⟩, 16⟩] from row_oneR (w := w5) (y := ⟨exR, some ⟨g, 0, none⟩, 16⟩) rfl)
      have L6 := Lib.hid (L5.out.trans (bb.mono L5.out.size))
      have Q6 := Lib.hid (Cells.below Q5.out bb)
      have O6 := Lib.hid (OwnP.below O5.out bb)
      have D6 := Lib.hid (Row.below D5.out bb)
      obtain ⟨r, hr⟩ : ∃ p, p = w5.heap.size := ⟨_, rfl⟩
      rw [← hr] at R6
      rw [← hr]
      have Gr : Hid (r = w5.heap.size) := hr
      clear bb hHeld hr
      clear L5 Q5 O5 D5 
      generalize w5.alloc (.cells #[.int .i64 1, .int .i64 0, .int .i64 1, .int .i64 0, .int .i64 0, .int .i64 0, .slice (some ⟨g, 0, none⟩) 16 16] 34) = w6 at *
      refine hK.out _ _ (trivial) (fun hHeld => ?_)
      clear hK K
      (try simp only [Act.put, List.setIfInBounds_toArray, List.set_cons_zero, List.set_cons_succ])
      refine Reg.step 4 rfl (by kernel_rfl) (by rfl) (fun K hK => ?_)
      go_simp
      refine (exAdd_any O6.out R6.out D6.out).mono ?_
      rintro e w7 ⟨B2, bc2, L2, lc2, ys2, T, td, rfl, hO, hT, hb⟩
      have L7 := Lib.hid (L6.out.trans (hb.mono L6.out.size))
      have Q7 := Lib.hid (Cells.below Q6.out hb)
      have O7 := Lib.hid (OwnP.below O6.out hb)
      have D7 := Lib.hid (Row.below D6.out hb)
      have R7 := Lib.hid (RowS.below R6.out hb)
      clear O7 D7 R7
      have O7 := Lib.hid (hO.mono L6.out.size)
      have T7 := Lib.hid (hT.mono L6.out.size)
      clear hb hHeld hO hT
      clear L6 Q6 O6 D6 R6 
      refine hK.out _ _ (trivial) (fun hHeld => ?_)
      clear hK K
      (try simp only [Act.put, List.setIfInBounds_toArray, List.set_cons_zero, List.set_cons_succ])
      (first | (refine Reg.take 5 (v := ?_) rfl (by kernel_rfl) (by kernel_rfl) (by kernel_rfl) (fun _ _ _ h => h) (Or.inl ⟨by rfl, ?_⟩) (by assumption) ?_; rotate_left; (focus ((intro W hSW); (try dsimp only at hSW); (try go_split_ands); go_simp; (try (with_reducible rfl)); done))) | (refine Reg.take 5 (v := undef) rfl (by kernel_rfl) (by kernel_rfl) (by kernel_rfl) (fun _ _ _ h => h) (Or.inr ⟨by rfl, rfl⟩) (by assumption) ?_))
      (try simp only [Act.put, List.setIfInBounds_toArray, List.set_cons_zero, List.set_cons_succ])
      (first | (refine Reg.take 6 (v := ?_) rfl (by kernel_rfl) (by kernel_rfl) (by kernel_rfl) (fun _ _ _ h => h) (Or.inl ⟨by rfl, ?_⟩) (by assumption) ?_; rotate_left; (focus ((intro W hSW); (try dsimp only at hSW); (try go_split_ands); go_simp; (try (with_reducible rfl)); done))) | (refine Reg.take 6 (v := undef) rfl (by kernel_rfl) (by kernel_rfl) (by kernel_rfl) (fun _ _ _ h => h) (Or.inr ⟨by rfl, rfl⟩) (by assumption) ?_))
      (try simp only [Act.put, List.setIfInBounds_toArray, List.set_cons_zero, List.set_cons_succ])
      (first | (refine Reg.take 7 (v := ?_) rfl (by kernel_rfl) (by kernel_rfl) (by kernel_rfl) (fun _ _ _ h => h) (Or.inl ⟨by rfl, ?_⟩) (by assumption) ?_; rotate_left; (focus ((intro W hSW); (try dsimp only at hSW); (try go_split_ands); go_simp; (try (with_reducible rfl)); done))) | (refine Reg.take 7 (v := undef) rfl (by kernel_rfl) (by kernel_rfl) (by kernel_rfl) (fun _ _ _ h => h) (Or.inr ⟨by rfl, rfl⟩) (by assumption) ?_))
      (try simp only [Act.put, List.setIfInBounds_toArray, List.set_cons_zero, List.set_cons_succ])
      (first | (refine Reg.take 8 (v := ?_) rfl (by kernel_rfl) (by kernel_rfl) (by kernel_rfl) (fun _ _ _ h => h) (Or.inl ⟨by rfl, ?_⟩) (by assumption) ?_; rotate_left; (focus ((intro W hSW); (try dsimp only at hSW); (try go_split_ands); go_simp; (try (with_reducible rfl)); done))) | (refine Reg.take 8 (v := undef) rfl (by kernel_rfl) (by kernel_rfl) (by kernel_rfl) (fun _ _ _ h => h) (Or.inr ⟨by rfl, rfl⟩) (by assumption) ?_))
      (try simp only [Act.put, List.setIfInBounds_toArray, List.set_cons_zero, List.set_cons_succ])
      have y0 := Cells.cell Q7.out 0
      have f0 := Cells.frozen Q7.out 0
      have y1 := Cells.cell Q7.out 1
      have f1 := Cells.frozen Q7.out 1
      have y2 := Cells.cell Q7.out 2
      have f2 := Cells.frozen Q7.out 2
      have y3 := Cells.cell Q7.out 3
      have f3 := Cells.frozen Q7.out 3
      have y4 := Cells.cell Q7.out 4
      have f4 := Cells.frozen Q7.out 4
      have y5 := Cells.cell Q7.out 5
      have f5 := Cells.frozen Q7.out 5
      have y6 := Cells.cell Q7.out 6
      have f6 := Cells.frozen Q7.out 6
      have y7 := Cells.cell Q7.out 7
      have f7 := Cells.frozen Q7.out 7
      refine Reg.step 9 rfl (by kernel_rfl) (by rfl) (fun K hK => ?_)
      go_simp
      have bt := mov8 w7 q (.int .i64 1) (.int .i64 2) (.int .i64 0) (.int .i64 3) (.int .i64 200) (.int .i64 0) (.slice B2 37 bc2) (.slice L2 1 lc2)
      unfold set8W at bt
      have cg := Chg.mov Q7.out bt
      have L8 := Lib.hid (L7.out.trans (bt.up L7.out.size GQ.out))
      have Q8 : Hid (Cells ((((((((w7.setCell ⟨q, 0, none⟩ (.int .i64 1)).setCell ⟨q, 1, none⟩ (.int .i64 2)).setCell ⟨q, 2, none⟩ (.int .i64 0)).setCell ⟨q, 3, none⟩ (.int .i64 3)).setCell ⟨q, 4, none⟩ (.int .i64 200)).setCell ⟨q, 5, none⟩ (.int .i64 0)).setCell ⟨q, 6, none⟩ (.slice B2 37 bc2)).setCell ⟨q, 7, none⟩ (.slice L2 1 lc2)) q 29 #[.int .i64 1, .int .i64 2, .int .i64 0, .int .i64 3, .int .i64 200, .int .i64 0, .slice B2 37 bc2, .slice L2 1 lc2]) := set8 Q7.out (.int .i64 1) (.int .i64 2) (.int .i64 0) (.int .i64 3) (.int .i64 200) (.int .i64 0) (.slice B2 37 bc2) (.slice L2 1 lc2)
      have O8 := Lib.hid (O7.out.chg cg (by decide) (by decide))
      have T8 := Lib.hid (cg.ownI T7.out (by decide))
      clear bt cg hHeld L7 Q7 O7 T7 y0 f0 y1 f1 y2 f2 y3 f3 y4 f4 y5 f5 y6 f6 y7 f7
      generalize (((((((w7.setCell ⟨q, 0, none⟩ (.int .i64 1)).setCell ⟨q, 1, none⟩ (.int .i64 2)).setCell ⟨q, 2, none⟩ (.int .i64 0)).setCell ⟨q, 3, none⟩ (.int .i64 3)).setCell ⟨q, 4, none⟩ (.int .i64 200)).setCell ⟨q, 5, none⟩ (.int .i64 0)).setCell ⟨q, 6, none⟩ (.slice B2 37 bc2)).setCell ⟨q, 7, none⟩ (.slice L2 1 lc2) = w8 at *
      refine hK.out _ _ trivial (fun hHeld => ?_)
      clear hK K
      (try simp only [Act.put, List.setIfInBounds_toArray, List.set_cons_zero, List.set_cons_succ])
      (first | (refine Reg.take 10 (v := ?_) rfl (by kernel_rfl) (by kernel_rfl) (by kernel_rfl) (fun _ _ _ h => h) (Or.inl ⟨by rfl, ?_⟩) (by assumption) ?_; rotate_left; (focus ((intro W hSW); (try dsimp only at hSW); (try go_split_ands); go_simp; (try (with_reducible rfl)); done))) | (refine Reg.take 10 (v := undef) rfl (by kernel_rfl) (by kernel_rfl) (by kernel_rfl) (fun _ _ _ h => h) (Or.inr ⟨by rfl, rfl⟩) (by assumption) ?_))
      (try simp only [Act.put, List.setIfInBounds_toArray, List.set_cons_zero, List.set_cons_succ])
      (first | (refine Reg.take 11 (v := ?_) rfl (by kernel_rfl) (by kernel_rfl) (by kernel_rfl) (fun _ _ _ h => h) (Or.inl ⟨by rfl, ?_⟩) (by assumption) ?_; rotate_left; (focus ((intro W hSW); (try dsimp only at hSW); (try go_split_ands); go_simp; (try (with_reducible rfl)); done))) | (refine Reg.take 11 (v := undef) rfl (by kernel_rfl) (by kernel_rfl) (by kernel_rfl) (fun _ _ _ h => h) (Or.inr ⟨by rfl, rfl⟩) (by assumption) ?_))
      (try simp only [Act.put, List.setIfInBounds_toArray, List.set_cons_zero, List.set_cons_succ])
      refine wpAnyH_done (by kernel_rfl) ?_ _
      clear hHeld
      obtain ⟨m0, m1, m2, m3, m4, m5, m6, m7⟩ := eight_cells Q8.out
      have FL := Lib.hid (exFlush_any O8.out)
      obtain ⟨b, o, hTA, hc⟩ := ((Wire.gave_row T8.out (by decide)).1).cell (i := 0) (x := (17 : Int)) rfl
      subst hTA
      obtain ⟨hbt, hcc⟩ : b < w8.heap.size ∧ w8.cell? ⟨b, o, none⟩ = some (.int .i64 17) := by
        refine ⟨(OwnB.owns_lt T8.out b rfl).2, hc⟩
      have HT := Lib.hid hcc
      clear hc hcc
      go_upto_region 4 with (go_at_call 15; refine FL.out.mono ?_; rintro e w9 ⟨C, cc, N, nc, M, mc, rfl, hb⟩; have L9 := Lib.hid (L8.out.trans (hb.mono L8.out.size)); have T9 := Lib.hid ((World.cell?_of_block (hb.block b hbt)).trans HT.out); have hbt2 := Nat.lt_of_lt_of_le hbt hb.size; clear hb m0 m1 m2 m3 m4 m5 m6 m7 FL)
      have L10 : Hid (Below w.heap.size w ((w9.alloc (.cells #[.int .i64 1, .int .i64 3, .int .i64 2, .int .i64 0, .int .i64 0, .slice C 37 cc] 48)).alloc (.cells #[.int .i64 1, .int .i64 2, .int .i64 0, .int .i64 3, .int .i64 200, .int .i64 37, .slice N 0 nc, .slice M 0 mc] 29))) := Lib.hid ((L9.out.alloc L9.out.size _).alloc (by have := L9.out.size; simp; omega) _)
      have C10 : Hid (Cells ((w9.alloc (.cells #[.int .i64 1, .int .i64 3, .int .i64 2, .int .i64 0, .int .i64 0, .slice C 37 cc] 48)).alloc (.cells #[.int .i64 1, .int .i64 2, .int .i64 0, .int .i64 3, .int .i64 200, .int .i64 37, .slice N 0 nc, .slice M 0 mc] 29)) w9.heap.size 48 #[.int .i64 1, .int .i64 3, .int .i64 2, .int .i64 0, .int .i64 0, .slice C 37 cc]) := Lib.hid (Cells.alloc (Cells.new _ _ _) _)
      have P10 : Hid (Cells ((w9.alloc (.cells #[.int .i64 1, .int .i64 3, .int .i64 2, .int .i64 0, .int .i64 0, .slice C 37 cc] 48)).alloc (.cells #[.int .i64 1, .int .i64 2, .int .i64 0, .int .i64 3, .int .i64 200, .int .i64 37, .slice N 0 nc, .slice M 0 mc] 29)) (w9.heap.size + 1) 29 #[.int .i64 1, .int .i64 2, .int .i64 0, .int .i64 3, .int .i64 200, .int .i64 37, .slice N 0 nc, .slice M 0 mc]) := by
        have := Cells.new (w9.alloc (.cells #[.int .i64 1, .int .i64 3, .int .i64 2, .int .i64 0, .int .i64 0, .slice C 37 cc] 48)) #[.int .i64 1, .int .i64 2, .int .i64 0, .int .i64 3, .int .i64 200, .int .i64 37, .slice N 0 nc, .slice M 0 mc] 29
        rw [World.size_alloc] at this
        exact this
      have T10 : Hid (((w9.alloc (.cells #[.int .i64 1, .int .i64 3, .int .i64 2, .int .i64 0, .int .i64 0, .slice C 37 cc] 48)).alloc (.cells #[.int .i64 1, .int .i64 2, .int .i64 0, .int .i64 3, .int .i64 200, .int .i64 37, .slice N 0 nc, .slice M 0 mc] 29)).cell? ⟨b, o, none⟩ = some (.int .i64 17)) := Lib.hid ((World.cell?_of_block (((((Below.refl w9.heap.size w9).alloc (Nat.le_refl _) _).alloc (by simp) _).block b hbt2))).trans T9.out)
      generalize (w9.alloc (.cells #[.int .i64 1, .int .i64 3, .int .i64 2, .int .i64 0, .int .i64 0, .slice C 37 cc] 48)).alloc (.cells #[.int .i64 1, .int .i64 2, .int .i64 0, .int .i64 3, .int .i64 200, .int .i64 37, .slice N 0 nc, .slice M 0 mc] 29) = w10 at *
      generalize w9.heap.size = p at *
      obtain ⟨c0, c1, c2, c3, c4, c5⟩ := six_cells C10.out
      obtain ⟨p0, p1, p2, p3, p4, p5, p6, p7⟩ := eight_cells P10.out
      have t0 := T10.out
      go_quiet (fail)
      go_wp2_with fail
      go_ret
      exact ⟨rfl, below_drewN L10.out _⟩
    · skip
      go_simp
      have bb : Below w5.heap.size w5 (w5.alloc (.cells #[.int .i64 1, .int .i64 0, .int .i64 1, .int .i64 0, .int .i64 0, .int .i64 0, .slice (some ⟨g, 0, none⟩) 16 16] 34)) := (Below.refl _ w5).alloc (Nat.le_refl _) _
      have R6 := Lib.hid (show RowS cellsOf 7 (w5.alloc (.cells #[.int .i64 1, .int .i64 0, .int .i64 1, .int .i64 0, .int .i64 0, .int .i64 0, .slice (some ⟨g, 0, none⟩) 16 16] 34)) (some ⟨w5.heap.size, 0, none⟩) 1 1 [⟨exR, some ⟨g, 0, none⟩, 16⟩] from row_oneR (w := w5) (y := ⟨exR, some ⟨g, 0, none⟩, 16⟩) rfl)
      have L6 := Lib.hid (L5.out.trans (bb.mono L5.out.size))
      have Q6 := Lib.hid (Cells.below Q5.out bb)
      have O6 := Lib.hid (OwnP.below O5.out bb)
      have D6 := Lib.hid (Row.below D5.out bb)
      obtain ⟨r, hr⟩ : ∃ p, p = w5.heap.size := ⟨_, rfl⟩
      rw [← hr] at R6
      rw [← hr]
      have Gr : Hid (r = w5.heap.size) := hr
      clear bb hHeld hr
      clear L5 Q5 O5 D5 
      generalize w5.alloc (.cells #[.int .i64 1, .int .i64 0, .int .i64 1, .int .i64 0, .int .i64 0, .int .i64 0, .slice (some ⟨g, 0, none⟩) 16 16] 34) = w6 at *
      refine hK.out _ _ (trivial) (fun hHeld => ?_)
      clear hK K
      (try simp only [Act.put, List.setIfInBounds_toArray, List.set_cons_zero, List.set_cons_succ])
      obtain ⟨m0, m1, m2, m3, m4, m5, m6, m7⟩ := eight_cells Q6.out
      refine Reg.step 0 rfl (by kernel_rfl) (by rfl) (fun K hK => ?_)
      go_simp
      refine hK.out _ _ trivial (fun hHeld => ?_)
      clear hK K m0 m1 m2 m3 m4 m5 m6 m7
      (try simp only [Act.put, List.setIfInBounds_toArray, List.set_cons_zero, List.set_cons_succ])
      refine Reg.step 4 rfl (by kernel_rfl) (by rfl) (fun K hK => ?_)
      go_simp
      refine (exAdd_any O6.out R6.out D6.out).mono ?_
      rintro e w7 ⟨B2, bc2, L2, lc2, ys2, T, td, rfl, hO, hT, hb⟩
      have L7 := Lib.hid (L6.out.trans (hb.mono L6.out.size))
      have Q7 := Lib.hid (Cells.below Q6.out hb)
      have O7 := Lib.hid (OwnP.below O6.out hb)
      have D7 := Lib.hid (Row.below D6.out hb)
      have R7 := Lib.hid (RowS.below R6.out hb)
      clear O7 D7 R7
      have O7 := Lib.hid (hO.mono L6.out.size)
      have T7 := Lib.hid (hT.mono L6.out.size)
      clear hb hHeld hO hT
      clear L6 Q6 O6 D6 R6 
      refine hK.out _ _ (trivial) (fun hHeld => ?_)
      clear hK K
      (try simp only [Act.put, List.setIfInBounds_toArray, List.set_cons_zero, List.set_cons_succ])
      (first | (refine Reg.take 5 (v := ?_) rfl (by kernel_rfl) (by kernel_rfl) (by kernel_rfl) (fun _ _ _ h => h) (Or.inl ⟨by rfl, ?_⟩) (by assumption) ?_; rotate_left; (focus ((intro W hSW); (try dsimp only at hSW); (try go_split_ands); go_simp; (try (with_reducible rfl)); done))) | (refine Reg.take 5 (v := undef) rfl (by kernel_rfl) (by kernel_rfl) (by kernel_rfl) (fun _ _ _ h => h) (Or.inr ⟨by rfl, rfl⟩) (by assumption) ?_))
      (try simp only [Act.put, List.setIfInBounds_toArray, List.set_cons_zero, List.set_cons_succ])
      (first | (refine Reg.take 6 (v := ?_) rfl (by kernel_rfl) (by kernel_rfl) (by kernel_rfl) (fun _ _ _ h => h) (Or.inl ⟨by rfl, ?_⟩) (by assumption) ?_; rotate_left; (focus ((intro W hSW); (try dsimp only at hSW); (try go_split_ands); go_simp; (try (with_reducible rfl)); done))) | (refine Reg.take 6 (v := undef) rfl (by kernel_rfl) (by kernel_rfl) (by kernel_rfl) (fun _ _ _ h => h) (Or.inr ⟨by rfl, rfl⟩) (by assumption) ?_))
      (try simp only [Act.put, List.setIfInBounds_toArray, List.set_cons_zero, List.set_cons_succ])
      (first | (refine Reg.take 7 (v := ?_) rfl (by kernel_rfl) (by kernel_rfl) (by kernel_rfl) (fun _ _ _ h => h) (Or.inl ⟨by rfl, ?_⟩) (by assumption) ?_; rotate_left; (focus ((intro W hSW); (try dsimp only at hSW); (try go_split_ands); go_simp; (try (with_reducible rfl)); done))) | (refine Reg.take 7 (v := undef) rfl (by kernel_rfl) (by kernel_rfl) (by kernel_rfl) (fun _ _ _ h => h) (Or.inr ⟨by rfl, rfl⟩) (by assumption) ?_))
      (try simp only [Act.put, List.setIfInBounds_toArray, List.set_cons_zero, List.set_cons_succ])
      (first | (refine Reg.take 8 (v := ?_) rfl (by kernel_rfl) (by kernel_rfl) (by kernel_rfl) (fun _ _ _ h => h) (Or.inl ⟨by rfl, ?_⟩) (by assumption) ?_; rotate_left; (focus ((intro W hSW); (try dsimp only at hSW); (try go_split_ands); go_simp; (try (with_reducible rfl)); done))) | (refine Reg.take 8 (v := undef) rfl (by kernel_rfl) (by kernel_rfl) (by kernel_rfl) (fun _ _ _ h => h) (Or.inr ⟨by rfl, rfl⟩) (by assumption) ?_))
      (try simp only [Act.put, List.setIfInBounds_toArray, List.set_cons_zero, List.set_cons_succ])
      have y0 := Cells.cell Q7.out 0
      have f0 := Cells.frozen Q7.out 0
      have y1 := Cells.cell Q7.out 1
      have f1 := Cells.frozen Q7.out 1
      have y2 := Cells.cell Q7.out 2
      have f2 := Cells.frozen Q7.out 2
      have y3 := Cells.cell Q7.out 3
      have f3 := Cells.frozen Q7.out 3
      have y4 := Cells.cell Q7.out 4
      have f4 := Cells.frozen Q7.out 4
      have y5 := Cells.cell Q7.out 5
      have f5 := Cells.frozen Q7.out 5
      have y6 := Cells.cell Q7.out 6
      have f6 := Cells.frozen Q7.out 6
      have y7 := Cells.cell Q7.out 7
      have f7 := Cells.frozen Q7.out 7
      refine Reg.step 9 rfl (by kernel_rfl) (by rfl) (fun K hK => ?_)
      go_simp
      have bt := mov8 w7 q (.int .i64 1) (.int .i64 2) (.int .i64 0) (.int .i64 3) (.int .i64 200) (.int .i64 0) (.slice B2 37 bc2) (.slice L2 1 lc2)
      unfold set8W at bt
      have cg := Chg.mov Q7.out bt
      have L8 := Lib.hid (L7.out.trans (bt.up L7.out.size GQ.out))
      have Q8 : Hid (Cells ((((((((w7.setCell ⟨q, 0, none⟩ (.int .i64 1)).setCell ⟨q, 1, none⟩ (.int .i64 2)).setCell ⟨q, 2, none⟩ (.int .i64 0)).setCell ⟨q, 3, none⟩ (.int .i64 3)).setCell ⟨q, 4, none⟩ (.int .i64 200)).setCell ⟨q, 5, none⟩ (.int .i64 0)).setCell ⟨q, 6, none⟩ (.slice B2 37 bc2)).setCell ⟨q, 7, none⟩ (.slice L2 1 lc2)) q 29 #[.int .i64 1, .int .i64 2, .int .i64 0, .int .i64 3, .int .i64 200, .int .i64 0, .slice B2 37 bc2, .slice L2 1 lc2]) := set8 Q7.out (.int .i64 1) (.int .i64 2) (.int .i64 0) (.int .i64 3) (.int .i64 200) (.int .i64 0) (.slice B2 37 bc2) (.slice L2 1 lc2)
      have O8 := Lib.hid (O7.out.chg cg (by decide) (by decide))
      have T8 := Lib.hid (cg.ownI T7.out (by decide))
      clear bt cg hHeld L7 Q7 O7 T7 y0 f0 y1 f1 y2 f2 y3 f3 y4 f4 y5 f5 y6 f6 y7 f7
      generalize (((((((w7.setCell ⟨q, 0, none⟩ (.int .i64 1)).setCell ⟨q, 1, none⟩ (.int .i64 2)).setCell ⟨q, 2, none⟩ (.int .i64 0)).setCell ⟨q, 3, none⟩ (.int .i64 3)).setCell ⟨q, 4, none⟩ (.int .i64 200)).setCell ⟨q, 5, none⟩ (.int .i64 0)).setCell ⟨q, 6, none⟩ (.slice B2 37 bc2)).setCell ⟨q, 7, none⟩ (.slice L2 1 lc2) = w8 at *
      refine hK.out _ _ trivial (fun hHeld => ?_)
      clear hK K
      (try simp only [Act.put, List.setIfInBounds_toArray, List.set_cons_zero, List.set_cons_succ])
      (first | (refine Reg.take 10 (v := ?_) rfl (by kernel_rfl) (by kernel_rfl) (by kernel_rfl) (fun _ _ _ h => h) (Or.inl ⟨by rfl, ?_⟩) (by assumption) ?_; rotate_left; (focus ((intro W hSW); (try dsimp only at hSW); (try go_split_ands); go_simp; (try (with_reducible rfl)); done))) | (refine Reg.take 10 (v := undef) rfl (by kernel_rfl) (by kernel_rfl) (by kernel_rfl) (fun _ _ _ h => h) (Or.inr ⟨by rfl, rfl⟩) (by assumption) ?_))
      (try simp only [Act.put, List.setIfInBounds_toArray, List.set_cons_zero, List.set_cons_succ])
      (first | (refine Reg.take 11 (v := ?_) rfl (by kernel_rfl) (by kernel_rfl) (by kernel_rfl) (fun _ _ _ h => h) (Or.inl ⟨by rfl, ?_⟩) (by assumption) ?_; rotate_left; (focus ((intro W hSW); (try dsimp only at hSW); (try go_split_ands); go_simp; (try (with_reducible rfl)); done))) | (refine Reg.take 11 (v := undef) rfl (by kernel_rfl) (by kernel_rfl) (by kernel_rfl) (fun _ _ _ h => h) (Or.inr ⟨by rfl, rfl⟩) (by assumption) ?_))
      (try simp only [Act.put, List.setIfInBounds_toArray, List.set_cons_zero, List.set_cons_succ])
      refine wpAnyH_done (by kernel_rfl) ?_ _
      clear hHeld
      obtain ⟨m0, m1, m2, m3, m4, m5, m6, m7⟩ := eight_cells Q8.out
      have FL := Lib.hid (exFlush_any O8.out)
      obtain ⟨b, o, hTA, hc⟩ := ((Wire.gave_row T8.out (by decide)).1).cell (i := 0) (x := (17 : Int)) rfl
      subst hTA
      obtain ⟨hbt, hcc⟩ : b < w8.heap.size ∧ w8.cell? ⟨b, o, none⟩ = some (.int .i64 17) := by
        refine ⟨(OwnB.owns_lt T8.out b rfl).2, hc⟩
      have HT := Lib.hid hcc
      clear hc hcc
      go_upto_region 4 with (go_at_call 15; refine FL.out.mono ?_; rintro e w9 ⟨C, cc, N, nc, M, mc, rfl, hb⟩; have L9 := Lib.hid (L8.out.trans (hb.mono L8.out.size)); have T9 := Lib.hid ((World.cell?_of_block (hb.block b hbt)).trans HT.out); have hbt2 := Nat.lt_of_lt_of_le hbt hb.size; clear hb m0 m1 m2 m3 m4 m5 m6 m7 FL)
      have L10 : Hid (Below w.heap.size w ((w9.alloc (.cells #[.int .i64 1, .int .i64 3, .int .i64 2, .int .i64 0, .int .i64 0, .slice C 37 cc] 48)).alloc (.cells #[.int .i64 1, .int .i64 2, .int .i64 0, .int .i64 3, .int .i64 200, .int .i64 37, .slice N 0 nc, .slice M 0 mc] 29))) := Lib.hid ((L9.out.alloc L9.out.size _).alloc (by have := L9.out.size; simp; omega) _)
      have C10 : Hid (Cells ((w9.alloc (.cells #[.int .i64 1, .int .i64 3, .int .i64 2, .int .i64 0, .int .i64 0, .slice C 37 cc] 48)).alloc (.cells #[.int .i64 1, .int .i64 2, .int .i64 0, .int .i64 3, .int .i64 200, .int .i64 37, .slice N 0 nc, .slice M 0 mc] 29)) w9.heap.size 48 #[.int .i64 1, .int .i64 3, .int .i64 2, .int .i64 0, .int .i64 0, .slice C 37 cc]) := Lib.hid (Cells.alloc (Cells.new _ _ _) _)
      have P10 : Hid (Cells ((w9.alloc (.cells #[.int .i64 1, .int .i64 3, .int .i64 2, .int .i64 0, .int .i64 0, .slice C 37 cc] 48)).alloc (.cells #[.int .i64 1, .int .i64 2, .int .i64 0, .int .i64 3, .int .i64 200, .int .i64 37, .slice N 0 nc, .slice M 0 mc] 29)) (w9.heap.size + 1) 29 #[.int .i64 1, .int .i64 2, .int .i64 0, .int .i64 3, .int .i64 200, .int .i64 37, .slice N 0 nc, .slice M 0 mc]) := by
        have := Cells.new (w9.alloc (.cells #[.int .i64 1, .int .i64 3, .int .i64 2, .int .i64 0, .int .i64 0, .slice C 37 cc] 48)) #[.int .i64 1, .int .i64 2, .int .i64 0, .int .i64 3, .int .i64 200, .int .i64 37, .slice N 0 nc, .slice M 0 mc] 29
        rw [World.size_alloc] at this
        exact this
      have T10 : Hid (((w9.alloc (.cells #[.int .i64 1, .int .i64 3, .int .i64 2, .int .i64 0, .int .i64 0, .slice C 37 cc] 48)).alloc (.cells #[.int .i64 1, .int .i64 2, .int .i64 0, .int .i64 3, .int .i64 200, .int .i64 37, .slice N 0 nc, .slice M 0 mc] 29)).cell? ⟨b, o, none⟩ = some (.int .i64 17)) := Lib.hid ((World.cell?_of_block (((((Below.refl w9.heap.size w9).alloc (Nat.le_refl _) _).alloc (by simp) _).block b hbt2))).trans T9.out)
      generalize (w9.alloc (.cells #[.int .i64 1, .int .i64 3, .int .i64 2, .int .i64 0, .int .i64 0, .slice C 37 cc] 48)).alloc (.cells #[.int .i64 1, .int .i64 2, .int .i64 0, .int .i64 3, .int .i64 200, .int .i64 37, .slice N 0 nc, .slice M 0 mc] 29) = w10 at *
      generalize w9.heap.size = p at *
      obtain ⟨c0, c1, c2, c3, c4, c5⟩ := six_cells C10.out
      obtain ⟨p0, p1, p2, p3, p4, p5, p6, p7⟩ := eight_cells P10.out
      have t0 := T10.out
      go_quiet (fail)
      go_wp2_with fail
      go_ret
      exact ⟨rfl, below_drewN L10.out _⟩
end Pk
end Go.Proofs.Ytedandbkdjmfhaa
/-
  ONE RECORD ADDED; remainders.
-/
namespace Go.Proofs.Ytedandbkdjmfhaa
open Go.RowKit Mem Box
namespace Pk
open Seg (Hdr Rc Rv cellsOf cellsOf_len RowR hdV recV fits nums hnums nn goods frame headX recX frames check recB headB)
theorem rowR_one {w : World} {y : Rv} {r : Nat} (hr : RowS cellsOf 7 w (some ⟨r, 0, none⟩) 1 1 [y]) (hd : Row cb w y.D y.r.data.length y.c y.r.data) : RowR w (some ⟨r, 0, none⟩) 1 1 [y] :=
  rowR_of hr (by omega) (by intro x hx; rw [List.mem_singleton.1 hx]; exact hd)
/-- One record added: what comes of it. -/
theorem add1_any {x : Px} {y : Rv} {r : Nat} {w : World} (hx : PackAt w x) (ho : OkP x.p) (hr : RowS cellsOf 7 w (some ⟨r, 0, none⟩) 1 1 [y]) (hd : Row cb w y.D y.r.data.length y.c y.r.data) (hf : fits (nums y.r)) :
    Calls Try.prog 10 #[pxv x, .slice (some ⟨r, 0, none⟩) 1 1] w (GaveA w (addP x.p [y.r])) :=
  add_any hx ho (rowR_one hr hd) (by intro r hr; rw [List.mem_singleton.1 hr]; exact hf)
theorem add1_bad {x : Px} {y : Rv} {r : Nat} {w : World} (hx : PackAt w x) (ho : OkP x.p) (hr : RowS cellsOf 7 w (some ⟨r, 0, none⟩) 1 1 [y]) (hd : Row cb w y.D y.r.data.length y.c y.r.data) (hf : fits (nums y.r)) {e : Nat} (he : addP x.p [y.r] = (zeroP, [], e)) :
    Calls Try.prog 10 #[pxv x, .slice (some ⟨r, 0, none⟩) 1 1] w fun en w' => ∃ B bc L lc T d, en = .returned (.tuple #[.agg #[.int .i64 0, .int .i64 0, .int .i64 0, .int .i64 0, .int .i64 0, .int .i64 0, .slice B 0 bc, .slice L 0 lc], .slice T 0 d, .int .i64 (e : Int)]) ∧ Below w.heap.size w w' := by
  have h := add1_any hx ho hr hd hf
  rw [he] at h
  refine h.mono ?_
  rintro en w' ⟨⟨p, B, bc, L, lc, ys⟩, T, k, d, rfl, hp, hO, hT, hb⟩
  obtain rfl : p = zeroP := hp
  obtain rfl : 0 = k := hT.len
  exact ⟨B, bc, L, lc, T, d, rfl, hb⟩
theorem add1_ok {x : Px} {y : Rv} {r : Nat} {w : World} (hx : PackAt w x) (ho : OkP x.p) (hr : RowS cellsOf 7 w (some ⟨r, 0, none⟩) 1 1 [y]) (hd : Row cb w y.D y.r.data.length y.c y.r.data) (hf : fits (nums y.r)) (hc : check y.r = 0) (h2 : fitsP x.p [y.r]) :
    Calls Try.prog 10 #[pxv x, .slice (some ⟨r, 0, none⟩) 1 1] w fun en w' => ∃ Y T d, en = .returned (.tuple #[pxv Y, .slice T 1 d, .int .i64 0]) ∧ Y.p = moreP x.p [y.r] ∧ OwnP w.heap.size w' Y ∧ Mem.Owns ci 3 w.heap.size w' (.slice T 1 d) 1 [x.p.at_ + (x.p.buf.length : Int) + placeR y.r] ∧ Below w.heap.size w w' := by
  have h := add1_any hx ho hr hd hf
  rw [addP_ok (by rw [errB_one]; exact hc) h2] at h
  refine h.mono ?_
  rintro en w' ⟨Y, T, k, d, rfl, hp, hO, hT, hb⟩
  obtain rfl : 1 = k := hT.len
  exact ⟨Y, T, d, rfl, hp, hO, hT, hb⟩
theorem cut2000 (z : Int) : ∃ (r : Int) (j : Nat), Int.tmod z 2000 = r ∧ -2000 < r ∧ r < 2000 ∧ Int.tmod (r + 2000) 2000 = j ∧ (r + 2000) % 2000 = j ∧ j < 2000 := Cut.cut_at z 2000 (by omega)
theorem fitsP_one (p : Pp) (r : Rc) : fitsP p [r] ↔ p.at_ + (p.buf.length : Int) + (flen r : Int) ≤ p.cap := by unfold fitsP; rw [frames_one]
theorem more_buf (p : Pp) (r : Rc) : (moreP p [r]).buf.length = p.buf.length + flen r := by
  show (p.buf ++ frames [r]).length = _
  rw [List.length_append, frames_one]
theorem more_l (p : Pp) (r : Rc) : (moreP p [r]).l.length = p.l.length + 1 := by
  show (p.l ++ [r]).length = _
  simp
end Pk
end Go.Proofs.Ytedandbkdjmfhaa
/-
  THE STATEMENT PackerRoom: its walk.
-/
namespace Go.Proofs.Ytedandbkdjmfhaa
open Go.RowKit Mem Box
namespace Pk
open Seg (Hdr Rc Rv cellsOf cellsOf_len RowR hdV recV fits nums hnums nn goods frame headX recX frames check recB headB)
set_option maxRecDepth 100000 in
set_option maxHeartbeats 25600000 in
theorem room_walk (h : Hdr) {A : Option Addr} {n c : Nat} {xs : List Rv} (z : Int) {w : World} (hr : RowR w A n c xs) (hf : fits (hnums h)) (hg : goods (xs.map Rv.r)) :
    Calls Try.prog 3 #[hdV h, .slice A n c, .int .i64 z] w fun e w' => e = .returned (.bool true) ∧ Below w.heap.size w w' := by
  have HR := Lib.hid hr
  have HG := Lib.hid hg
  have hnbig := hr.big
  have HLV := fun w => Lib.hid (live_any w)
  have HB := fun W (hW : Below w.heap.size w W) => Lib.hid (Seg.big_any (most := 100000) (hr.below hW))
  obtain ⟨bg, hbg⟩ : ∃ b, b = decide ((100000 : Int) < Seg.bulkR (xs.map Rv.r)) := ⟨_, rfl⟩
  rw [← hbg] at HB
  obtain ⟨zr, Z, z1, z2, z3, z4, z5, z6⟩ := cut2000 z
  have HBG := fun w => Lib.hid (begin_any (h := h) (zone := 0) (most := 30 + (Z : Int)) (w := w) hf)
  have HBC := Lib.hid (begin_cases h 0 (30 + (Z : Int)))
  generalize beginP h 0 (30 + (Z : Int)) = bp at *
  unfold hdV at HBG
  clear hr hg hf hbg
  have L1 : Hid (Below w.heap.size w (w.alloc (.cells #[.int .i64 h.host, .int .i64 h.epoch, .int .i64 h.seq] 23))) := (Below.refl _ w).alloc (Nat.le_refl _) _
  have X1 : Hid (Cells (w.alloc (.cells #[.int .i64 h.host, .int .i64 h.epoch, .int .i64 h.seq] 23)) w.heap.size 23 #[.int .i64 h.host, .int .i64 h.epoch, .int .i64 h.seq]) := Cells.new _ _ _
  unfold hdV
  go_enter Try.func3, Try.ntmps3
  go_upto_region 1 with fail
  generalize w.alloc (.cells #[.int .i64 h.host, .int .i64 h.epoch, .int .i64 h.seq] 23) = w1 at *
  go_upto_region 2 with (go_at_call 6; refine (HLV w1).out.mono ?_; rintro e w2 ⟨rfl, hb⟩; have L2 := Lib.hid (L1.out.trans (hb.mono L1.out.size)); have X2 := Lib.hid (Cells.below X1.out hb); clear hb L1 X1 HLV)
  rcases bg with _ | _
  · by_cases hn : 200 < n
    · have hd : decide ((200 : Int) < (n : Int)) = true := by simp; omega
      clear hn
      go_wp2_with (go_at_call 7; refine (HB w2 L2.out).out.mono ?_; rintro e w3 ⟨rfl, hb⟩; have L3 := Lib.hid (L2.out.trans (hb.mono L2.out.size)); have X3 := Lib.hid (Cells.below X2.out hb); clear hb HB X2)
      go_ret
      exact ⟨rfl, L3.out⟩
    · have hd : decide ((200 : Int) < (n : Int)) = false := by simp; omega
      have HN : Hid (n ≤ 200) := by show _ ≤ _; omega
      clear hn
      go_upto_region 5 with (go_at_call 7; refine (HB w2 L2.out).out.mono ?_; rintro e w3 ⟨rfl, hb⟩; have L3 := Lib.hid (L2.out.trans (hb.mono L2.out.size)); have X3 := Lib.hid (Cells.below X2.out hb); clear hb HB X2)
      clear hd z1 z4
      have m0 := Cells.cell X3.out 0
      have m1 := Cells.cell X3.out 1
      have m2 := Cells.cell X3.out 2
      (try dsimp only at m0 m1 m2)
      rcases HBC.out with ⟨-, hmz, hle, rfl⟩ | rfl | rfl
      · have hok := OkP.begun hmz hle
        clear hmz hle
        go_upto_region 6 with (go_at_call 8; refine (HBG w3).out.mono ?_; rintro e w4 ⟨Y0, rfl, hp, hO, hb⟩; have L4 := Lib.hid (L3.out.trans (hb.mono L3.out.size)); have O4 := Lib.hid (hO.mono L3.out.size); have HP := Lib.hid hp; clear hp hb hO m0 m1 m2 HBG X3 L3; unfold pxv)
        have BB : Below w4.heap.size w4 (w4.alloc (.cells #[.int .i64 Y0.p.h.host, .int .i64 Y0.p.h.epoch, .int .i64 Y0.p.h.seq, .int .i64 Y0.p.zone, .int .i64 Y0.p.cap, .int .i64 Y0.p.at_, .slice Y0.B Y0.p.buf.length Y0.bc, .slice Y0.L Y0.p.l.length Y0.lc] 29)) := (Below.refl _ w4).alloc (Nat.le_refl _) _
        have Q5 : Hid (PBox (w4.alloc (.cells #[.int .i64 Y0.p.h.host, .int .i64 Y0.p.h.epoch, .int .i64 Y0.p.h.seq, .int .i64 Y0.p.zone, .int .i64 Y0.p.cap, .int .i64 Y0.p.at_, .slice Y0.B Y0.p.buf.length Y0.bc, .slice Y0.L Y0.p.l.length Y0.lc] 29)) w4.heap.size Y0) := Cells.new _ _ _
        have L5 := Lib.hid (L4.out.trans (BB.mono L4.out.size))
        have O5 := Lib.hid (OwnP.below O4.out BB)
        have OK5 : Hid (OkP Y0.p) := by show OkP _; rw [HP.out]; exact hok
        have CP5 : Hid (Y0.p.cap = 30 + (Z : Int)) := by show _ = _; rw [HP.out]
        have GQ := Lib.hid L4.out.size
        clear BB hok HP
        clear L4 O4
        generalize w4.alloc (.cells #[.int .i64 Y0.p.h.host, .int .i64 Y0.p.h.epoch, .int .i64 Y0.p.h.seq, .int .i64 Y0.p.zone, .int .i64 Y0.p.cap, .int .i64 Y0.p.at_, .slice Y0.B Y0.p.buf.length Y0.bc, .slice Y0.L Y0.p.l.length Y0.lc] 29) = w5 at *
        generalize w4.heap.size = q at *
        clear HBC
        go_wp2_with fail
        go_loopw [42] (fun i wr => ∃ (k : Nat) (Y : Px), i = .int .i64 k ∧ k ≤ n ∧ Hid (OkP Y.p) ∧ Hid (Y.p.cap = 30 + (Z : Int)) ∧ Hid (Below w.heap.size w wr) ∧ Hid (PBox wr q Y) ∧ Hid (OwnP w.heap.size wr Y)) (fun i _ => n - (intOf i).toNat)
        case atStart => exact ⟨0, Y0, rfl, by omega, OK5, CP5, L5, Q5, O5⟩
        case round =>
          clear OK5 CP5 L5 Q5 O5
          obtain ⟨k, Y, rfl, hk, OK, CP, L2, Q2, O2⟩ := hrel
          by_cases hlt : k < n
          · obtain ⟨y, hy⟩ := HR.out.get hlt
            obtain ⟨b0, o0, rfl, hb0, hcell⟩ := HR.out.seven hy
            obtain ⟨q0, q1, q2, q3, q4, q5, q6⟩ := hcell wr (L2.out.block b0 hb0)
            have hym := List.mem_of_getElem? hy
            have HD := Lib.hid (HR.out.data y hym)
            have HF : Hid (fits (nums y.r)) := HG.out y.r (List.mem_map_of_mem hym)
            have hk0 : (0 : Int) ≤ (k : Int) := by omega
            have hkn : (k : Int) < (n : Int) := by omega
            clear hcell hy hym hb0
            go_upto_region 11 with fail
            have BB : Below wr.heap.size wr (wr.alloc (.cells #[.int .i64 y.r.kind, .int .i64 y.r.lba, .int .i64 y.r.n, .int .i64 y.r.ver, .int .i64 y.r.zone, .int .i64 y.r.off, .slice y.D y.r.data.length y.c] 34)) := (Below.refl _ wr).alloc (Nat.le_refl _) _
            have R3 : Hid (RBox (wr.alloc (.cells #[.int .i64 y.r.kind, .int .i64 y.r.lba, .int .i64 y.r.n, .int .i64 y.r.ver, .int .i64 y.r.zone, .int .i64 y.r.off, .slice y.D y.r.data.length y.c] 34)) wr.heap.size y) := Cells.new _ _ _
            have L3 := Lib.hid (L2.out.trans (BB.mono L2.out.size))
            have Q3 := Lib.hid (Cells.below Q2.out BB)
            have O3 := Lib.hid (OwnP.below O2.out BB)
            clear BB q0 q1 q2 q3 q4 q5 q6 L2 Q2 O2
            generalize wr.alloc (.cells #[.int .i64 y.r.kind, .int .i64 y.r.lba, .int .i64 y.r.n, .int .i64 y.r.ver, .int .i64 y.r.zone, .int .i64 y.r.off, .slice y.D y.r.data.length y.c] 34) = w3 at *
            generalize wr.heap.size = r at *
            obtain ⟨m0, m1, m2, m3, m4, m5, m6⟩ := seven_cells R3.out
            have HRC := Lib.hid (Seg.rec_outer HF.out (HD.out.below L3.out))
            rcases Seg.check_le y.r with hc | hc | hc
            · have hrb : recB y.r = (frame (recX y.r), 0) := by unfold recB; rw [if_pos hc]
              rw [hrb] at HRC
              have HRV := Lib.hid OK.out.roomP
              have HFL : Hid ((frame (recX y.r)).length = flen y.r) := rfl
              have HRM := fun W => Lib.hid (room_any Y W OK.out)
              have HRG : Hid (0 ≤ roomP Y.p ∧ roomP Y.p ≤ 65536) := by
                have h1 := OK.out.roomP
                have h2 := OK.out.room
                have h3 := OK.out.cap
                have h4 := OK.out.at0
                show _ ∧ _
                omega
              have HFG := Lib.hid (flen_le HF.out hc)
              unfold pxv at HRM
              clear hrb
              by_cases hfit : fitsP Y.p [y.r]
              · have HM := Lib.hid (more_buf Y.p y.r)
                have HML := Lib.hid (more_l Y.p y.r)
                have OKM := Lib.hid (OK.out.more (l := [y.r]) (by rw [errB_one]; exact hc) hfit)
                have hfit2 := (fitsP_one _ _).1 hfit
                have hlt1 : ¬ roomP Y.p < (flen y.r : Int) := by have := HRV.out; omega
                have HRM2 : Hid (roomP (moreP Y.p [y.r]) = roomP Y.p - (flen y.r : Int)) := by
                  have h1 := OKM.out.roomP
                  have h2 := HRV.out
                  have h3 := HM.out
                  show _ = _
                  rw [h1, h2, h3]
                  show Y.p.cap - (Y.p.at_ + _) = _
                  omega
                have hw1 : IntKind.i64.wrap (roomP Y.p - (flen y.r : Int)) = roomP Y.p - (flen y.r : Int) := by have := HRG.out; have := HFG.out; rw [IntKind.wrap_i64]; omega
                have hw2 : IntKind.i64.wrap ((Y.p.l.length : Int) + 1) = ((Y.p.l.length + 1 : Nat) : Int) := by have := OK.out.l_le; rw [IntKind.wrap_i64]; omega
                clear hfit2
                go_upto_region 12 with (go_at_call 9; refine HRC.out.mono ?_; rintro e w4 ⟨X, bk, d, rfl, hO, hb⟩; obtain rfl : flen y.r = bk := HFL.out.symm.trans hO.len; have L4 := Lib.hid (L3.out.trans (hb.mono L3.out.size)); have Q4 := Lib.hid (Cells.below Q3.out hb); have O4 := Lib.hid (OwnP.below O3.out hb); have R4 := Lib.hid (Cells.below R3.out hb); clear hO hb m0 m1 m2 m3 m4 m5 m6 HRC; clear L3 Q3 O3 R3)
                obtain ⟨m0, m1, m2, m3, m4, m5, m6⟩ := seven_cells R4.out
                obtain ⟨k0, k1, k2, k3, k4, k5, k6, k7⟩ := eight_cells Q4.out
                have BB : Below w4.heap.size w4 (w4.alloc (.cells #[.int .i64 y.r.kind, .int .i64 y.r.lba, .int .i64 y.r.n, .int .i64 y.r.ver, .int .i64 y.r.zone, .int .i64 y.r.off, .slice y.D y.r.data.length y.c] 34)) := (Below.refl _ w4).alloc (Nat.le_refl _) _
                have R1 := Lib.hid (row_oneR (w := w4) (y := y) rfl)
                have L5 := Lib.hid (L4.out.trans (BB.mono L4.out.size))
                have Q5 := Lib.hid (Cells.below Q4.out BB)
                have O5 := Lib.hid (OwnP.below O4.out BB)
                clear BB
                have HAD := Lib.hid (add1_ok (O5.out.any OK.out) OK.out R1.out (HD.out.below L5.out) HF.out hc hfit)
                unfold pxv at HAD
                have S4 := L5.out.size
                clear R1 R4 hc hfit
                go_upto_region 13 with (go_at_call 10; refine HAD.out.mono ?_; rintro e w6 ⟨V, T, d2, rfl, hV, hO, hT, hb⟩; have L6 := Lib.hid (L5.out.trans (hb.mono L5.out.size)); have Q6 := Lib.hid (Cells.below Q5.out hb); have O6 := Lib.hid (OwnP.below O5.out hb); have V6 := Lib.hid (hO.mono S4); have HV := Lib.hid hV; clear hV hO hT hb m0 m1 m2 m3 m4 m5 m6 k0 k1 k2 k3 k4 k5 k6 k7 HAD L4 Q4 O4 L5 Q5 O5 S4)
                have BB : Below w6.heap.size w6 (w6.alloc (.cells #[.int .i64 V.p.h.host, .int .i64 V.p.h.epoch, .int .i64 V.p.h.seq, .int .i64 V.p.zone, .int .i64 V.p.cap, .int .i64 V.p.at_, .slice V.B V.p.buf.length V.bc, .slice V.L V.p.l.length V.lc] 29)) := (Below.refl _ w6).alloc (Nat.le_refl _) _
                have G7 : Hid (PBox (w6.alloc (.cells #[.int .i64 V.p.h.host, .int .i64 V.p.h.epoch, .int .i64 V.p.h.seq, .int .i64 V.p.zone, .int .i64 V.p.cap, .int .i64 V.p.at_, .slice V.B V.p.buf.length V.bc, .slice V.L V.p.l.length V.lc] 29)) w6.heap.size V) := Cells.new _ _ _
                have L7 := Lib.hid (L6.out.trans (BB.mono L6.out.size))
                have Q7 := Lib.hid (Cells.below Q6.out BB)
                have O7 := Lib.hid (OwnP.below O6.out BB)
                have V7 := Lib.hid (OwnP.below V6.out BB)
                have NV : Hid (w6.heap.size ≠ q) := by have := Cells.lt Q6.out; show _ ≠ _; omega
                clear BB L6 Q6 O6 V6
                generalize w6.alloc (.cells #[.int .i64 V.p.h.host, .int .i64 V.p.h.epoch, .int .i64 V.p.h.seq, .int .i64 V.p.zone, .int .i64 V.p.cap, .int .i64 V.p.at_, .slice V.B V.p.buf.length V.bc, .slice V.L V.p.l.length V.lc] 29) = w7 at *
                generalize w6.heap.size = v at *
                have OKV : Hid (OkP V.p) := by show OkP _; rw [HV.out]; exact OKM.out
                have HRW := fun W => Lib.hid (room_any V W OKV.out)
                unfold pxv at HRW
                rw [show roomP V.p = roomP Y.p - (flen y.r : Int) by rw [HV.out]; exact HRM2.out] at HRW
                have HVL : Hid (V.p.l.length = Y.p.l.length + 1) := by show _ = _; rw [HV.out]; exact HML.out
                have CPV : Hid (V.p.cap = 30 + (Z : Int)) := by show _ = _; rw [HV.out]; exact CP.out
                generalize flen y.r = fl at *
                generalize roomP Y.p = rm at *
                obtain ⟨k0, k1, k2, k3, k4, k5, k6, k7⟩ := eight_cells Q7.out
                go_upto_region 19 with (go_at_call 11; refine (HRM w7).out.mono ?_; rintro e w8 ⟨rfl, hb⟩; have L8 := Lib.hid (L7.out.trans (hb.mono L7.out.size)); have Q8 := Lib.hid (Cells.below Q7.out hb); have G8 : Hid (PBox w8 v V) := Lib.hid (Cells.below G7.out hb); have O8 := Lib.hid (OwnP.below O7.out hb); have V8 := Lib.hid (OwnP.below V7.out hb); clear hb k0 k1 k2 k3 k4 k5 k6 k7 L7 Q7 O7 V7 G7)
                have dd : Below w8.heap.size w8 w8.drew := (Below.refl _ w8).drew
                have L9 := Lib.hid (L8.out.trans (dd.mono L8.out.size))
                have Q9 := Lib.hid (Cells.below Q8.out dd)
                have O9 := Lib.hid (OwnP.below O8.out dd)
                have V9 := Lib.hid (OwnP.below V8.out dd)
                have G9 : Hid (PBox w8.drew v V) := Lib.hid (Cells.below G8.out dd)
                refine wp_region_held_drew (S := fun W => eightC W q (.int .i64 Y.p.h.host) (.int .i64 Y.p.h.epoch) (.int .i64 Y.p.h.seq) (.int .i64 Y.p.zone) (.int .i64 Y.p.cap) (.int .i64 Y.p.at_) (.slice Y.B Y.p.buf.length Y.bc) (.slice Y.L Y.p.l.length Y.lc) ∧ eightC W v (.int .i64 V.p.h.host) (.int .i64 V.p.h.epoch) (.int .i64 V.p.h.seq) (.int .i64 V.p.zone) (.int .i64 V.p.cap) (.int .i64 V.p.at_) (.slice V.B V.p.buf.length V.bc) (.slice V.L V.p.l.length V.lc)) (by kernel_rfl) ⟨eight_cells Q9.out, eight_cells G9.out⟩ (fun hHeld => ?_)
                generalize w8.drew = w9 at *
                unfold eightC at *
                clear dd L8 Q8 O8 V8 G8 hlt1
                have hcl : (((V.p.l.length : Int) != ((Y.p.l.length + 1 : Nat) : Int))) = false := by rw [HVL.out]; simp
                (first | (refine Reg.take 0 (v := ?_) rfl (by kernel_rfl) (by kernel_rfl) (by kernel_rfl) (fun _ _ _ h => h) (Or.inl ⟨by rfl, ?_⟩) (by assumption) ?_; rotate_left; (focus ((intro W hSW); (try dsimp only at hSW); (try go_split_ands); go_simp; (try (with_reducible rfl)); done))) | (refine Reg.take 0 (v := undef) rfl (by kernel_rfl) (by kernel_rfl) (by kernel_rfl) (fun _ _ _ h => h) (Or.inr ⟨by rfl, rfl⟩) (by assumption) ?_))
                (try simp only [Act.put, List.setIfInBounds_toArray, List.set_cons_zero, List.set_cons_succ])
                (first | (refine Reg.take 1 (v := ?_) rfl (by kernel_rfl) (by kernel_rfl) (by kernel_rfl) (fun _ _ _ h => h) (Or.inl ⟨by rfl, ?_⟩) (by assumption) ?_; rotate_left; (focus ((intro W hSW); (try dsimp only at hSW); (try go_split_ands); go_simp; (try (with_reducible rfl)); done))) | (refine Reg.take 1 (v := undef) rfl (by kernel_rfl) (by kernel_rfl) (by kernel_rfl) (fun _ _ _ h => h) (Or.inr ⟨by rfl, rfl⟩) (by assumption) ?_))
                (try simp only [Act.put, List.setIfInBounds_toArray, List.set_cons_zero, List.set_cons_succ])
                (first | (refine Reg.take 2 (v := ?_) rfl (by kernel_rfl) (by kernel_rfl) (by kernel_rfl) (fun _ _ _ h => h) (Or.inl ⟨by rfl, ?_⟩) (by assumption) ?_; rotate_left; (focus ((intro W hSW); (try dsimp only at hSW); (try go_split_ands); go_simp; (try (with_reducible rfl)); done))) | (refine Reg.take 2 (v := undef) rfl (by kernel_rfl) (by kernel_rfl) (by kernel_rfl) (fun _ _ _ h => h) (Or.inr ⟨by rfl, rfl⟩) (by assumption) ?_))
                (try simp only [Act.put, List.setIfInBounds_toArray, List.set_cons_zero, List.set_cons_succ])
                (first | (refine Reg.take 3 (v := ?_) rfl (by kernel_rfl) (by kernel_rfl) (by kernel_rfl) (fun _ _ _ h => h) (Or.inl ⟨by rfl, ?_⟩) (by assumption) ?_; rotate_left; (focus ((intro W hSW); (try dsimp only at hSW); (try go_split_ands); go_simp; (try (with_reducible rfl)); done))) | (refine Reg.take 3 (v := undef) rfl (by kernel_rfl) (by kernel_rfl) (by kernel_rfl) (fun _ _ _ h => h) (Or.inr ⟨by rfl, rfl⟩) (by assumption) ?_))
                (try simp only [Act.put, List.setIfInBounds_toArray, List.set_cons_zero, List.set_cons_succ])
                (first | (refine Reg.take 4 (v := ?_) rfl (by kernel_rfl) (by kernel_rfl) (by kernel_rfl) (fun _ _ _ h => h) (Or.inl ⟨by rfl, ?_⟩) (by assumption) ?_; rotate_left; (focus ((intro W hSW); (try dsimp only at hSW); (try go_split_ands); go_simp; (try (with_reducible rfl)); done))) | (refine Reg.take 4 (v := undef) rfl (by kernel_rfl) (by kernel_rfl) (by kernel_rfl) (fun _ _ _ h => h) (Or.inr ⟨by rfl, rfl⟩) (by assumption) ?_))
                (try simp only [Act.put, List.setIfInBounds_toArray, List.set_cons_zero, List.set_cons_succ])
                (first | (refine Reg.take 5 (v := ?_) rfl (by kernel_rfl) (by kernel_rfl) (by kernel_rfl) (fun _ _ _ h => h) (Or.inl ⟨by rfl, ?_⟩) (by assumption) ?_; rotate_left; (focus ((intro W hSW); (try dsimp only at hSW); (try go_split_ands); go_simp; (try (with_reducible rfl)); done))) | (refine Reg.take 5 (v := undef) rfl (by kernel_rfl) (by kernel_rfl) (by kernel_rfl) (fun _ _ _ h => h) (Or.inr ⟨by rfl, rfl⟩) (by assumption) ?_))
                (try simp only [Act.put, List.setIfInBounds_toArray, List.set_cons_zero, List.set_cons_succ])
                (first | (refine Reg.take 6 (v := ?_) rfl (by kernel_rfl) (by kernel_rfl) (by kernel_rfl) (fun _ _ _ h => h) (Or.inl ⟨by rfl, ?_⟩) (by assumption) ?_; rotate_left; (focus ((intro W hSW); (try dsimp only at hSW); (try go_split_ands); go_simp; (try (with_reducible rfl)); done))) | (refine Reg.take 6 (v := undef) rfl (by kernel_rfl) (by kernel_rfl) (by kernel_rfl) (fun _ _ _ h => h) (Or.inr ⟨by rfl, rfl⟩) (by assumption) ?_))
                (try simp only [Act.put, List.setIfInBounds_toArray, List.set_cons_zero, List.set_cons_succ])
                (first | (refine Reg.take 7 (v := ?_) rfl (by kernel_rfl) (by kernel_rfl) (by kernel_rfl) (fun _ _ _ h => h) (Or.inl ⟨by rfl, ?_⟩) (by assumption) ?_; rotate_left; (focus ((intro W hSW); (try dsimp only at hSW); (try go_split_ands); go_simp; (try (with_reducible rfl)); done))) | (refine Reg.take 7 (v := undef) rfl (by kernel_rfl) (by kernel_rfl) (by kernel_rfl) (fun _ _ _ h => h) (Or.inr ⟨by rfl, rfl⟩) (by assumption) ?_))
                (try simp only [Act.put, List.setIfInBounds_toArray, List.set_cons_zero, List.set_cons_succ])
                (first | (refine Reg.take 8 (v := ?_) rfl (by kernel_rfl) (by kernel_rfl) (by kernel_rfl) (fun _ _ _ h => h) (Or.inl ⟨by rfl, ?_⟩) (by assumption) ?_; rotate_left; (focus ((intro W hSW); (try dsimp only at hSW); (try go_split_ands); go_simp; (try (with_reducible rfl)); done))) | (refine Reg.take 8 (v := undef) rfl (by kernel_rfl) (by kernel_rfl) (by kernel_rfl) (fun _ _ _ h => h) (Or.inr ⟨by rfl, rfl⟩) (by assumption) ?_))
                (try simp only [Act.put, List.setIfInBounds_toArray, List.set_cons_zero, List.set_cons_succ])
                (first | (refine Reg.take 10 (v := ?_) rfl (by kernel_rfl) (by kernel_rfl) (by kernel_rfl) (fun _ _ _ h => h) (Or.inl ⟨by rfl, ?_⟩) (by assumption) ?_; rotate_left; (focus ((intro W hSW); (try dsimp only at hSW); (try go_split_ands); go_simp; (try (with_reducible rfl)); done))) | (refine Reg.take 10 (v := undef) rfl (by kernel_rfl) (by kernel_rfl) (by kernel_rfl) (fun _ _ _ h => h) (Or.inr ⟨by rfl, rfl⟩) (by assumption) ?_))
                (try simp only [Act.put, List.setIfInBounds_toArray, List.set_cons_zero, List.set_cons_succ])
                (first | (refine Reg.take 12 (v := ?_) rfl (by kernel_rfl) (by kernel_rfl) (by kernel_rfl) (fun _ _ _ h => h) (Or.inl ⟨by rfl, ?_⟩) (by assumption) ?_; rotate_left; (focus ((intro W hSW); (try dsimp only at hSW); (try go_split_ands); go_simp; (try (with_reducible rfl)); done))) | (refine Reg.take 12 (v := undef) rfl (by kernel_rfl) (by kernel_rfl) (by kernel_rfl) (fun _ _ _ h => h) (Or.inr ⟨by rfl, rfl⟩) (by assumption) ?_))
                (try simp only [Act.put, List.setIfInBounds_toArray, List.set_cons_zero, List.set_cons_succ])
                (first | (refine Reg.take 13 (v := ?_) rfl (by kernel_rfl) (by kernel_rfl) (by kernel_rfl) (fun _ _ _ h => h) (Or.inl ⟨by rfl, ?_⟩) (by assumption) ?_; rotate_left; (focus ((intro W hSW); (try dsimp only at hSW); (try go_split_ands); go_simp; (try (with_reducible rfl)); done))) | (refine Reg.take 13 (v := undef) rfl (by kernel_rfl) (by kernel_rfl) (by kernel_rfl) (fun _ _ _ h => h) (Or.inr ⟨by rfl, rfl⟩) (by assumption) ?_))
                (try simp only [Act.put, List.setIfInBounds_toArray, List.set_cons_zero, List.set_cons_succ])
                refine Reg.step 9 rfl (by kernel_rfl) (by rfl) (fun K hK => ?_)
                go_simp
                refine (HRW w9).out.mono ?_
                rintro e w10 ⟨rfl, hb⟩
                have L10 := Lib.hid (L9.out.trans (hb.mono L9.out.size))
                have Q10 := Lib.hid (Cells.below Q9.out hb)
                have O10 := Lib.hid (OwnP.below O9.out hb)
                have V10 := Lib.hid (OwnP.below V9.out hb)
                have G10 : Hid (PBox w10 v V) := Lib.hid (Cells.below G9.out hb)
                clear hb hHeld L9 Q9 O9 V9 G9
                refine hK.out _ _ ⟨eight_cells Q10.out, eight_cells G10.out⟩ (fun hHeld => ?_)
                clear hK K
                (try simp only [Act.put, List.setIfInBounds_toArray, List.set_cons_zero, List.set_cons_succ])
                refine Reg.step 11 rfl (by kernel_rfl) (by rfl) (fun K hK => ?_)
                go_simp
                refine (HRM w10).out.mono ?_
                rintro e w11 ⟨rfl, hb⟩
                have L11 := Lib.hid (L10.out.trans (hb.mono L10.out.size))
                have Q11 := Lib.hid (Cells.below Q10.out hb)
                have O11 := Lib.hid (OwnP.below O10.out hb)
                have V11 := Lib.hid (OwnP.below V10.out hb)
                have G11 : Hid (PBox w11 v V) := Lib.hid (Cells.below G10.out hb)
                clear hb hHeld L10 Q10 O10 V10 G10
                refine hK.out _ _ ⟨eight_cells Q11.out, eight_cells G11.out⟩ (fun hHeld => ?_)
                clear hK K
                (try simp only [Act.put, List.setIfInBounds_toArray, List.set_cons_zero, List.set_cons_succ])
                (first | (refine Reg.take 14 (v := ?_) rfl (by kernel_rfl) (by kernel_rfl) (by kernel_rfl) (fun _ _ _ h => h) (Or.inl ⟨by rfl, ?_⟩) (by assumption) ?_; rotate_left; (focus ((intro W hSW); (try dsimp only at hSW); (try go_split_ands); go_simp; (try (with_reducible rfl)); done))) | (refine Reg.take 14 (v := undef) rfl (by kernel_rfl) (by kernel_rfl) (by kernel_rfl) (fun _ _ _ h => h) (Or.inr ⟨by rfl, rfl⟩) (by assumption) ?_))
                (try simp only [Act.put, List.setIfInBounds_toArray, List.set_cons_zero, List.set_cons_succ])
                (first | (refine Reg.take 15 (v := ?_) rfl (by kernel_rfl) (by kernel_rfl) (by kernel_rfl) (fun _ _ _ h => h) (Or.inl ⟨by rfl, ?_⟩) (by assumption) ?_; rotate_left; (focus ((intro W hSW); (try dsimp only at hSW); (try go_split_ands); go_simp; (try (with_reducible rfl)); done))) | (refine Reg.take 15 (v := undef) rfl (by kernel_rfl) (by kernel_rfl) (by kernel_rfl) (fun _ _ _ h => h) (Or.inr ⟨by rfl, rfl⟩) (by assumption) ?_))
                (try simp only [Act.put, List.setIfInBounds_toArray, List.set_cons_zero, List.set_cons_succ])
                (first | (refine Reg.take 16 (v := ?_) rfl (by kernel_rfl) (by kernel_rfl) (by kernel_rfl) (fun _ _ _ h => h) (Or.inl ⟨by rfl, ?_⟩) (by assumption) ?_; rotate_left; (focus ((intro W hSW); (try dsimp only at hSW); (try go_split_ands); go_simp; (try (with_reducible rfl)); done))) | (refine Reg.take 16 (v := undef) rfl (by kernel_rfl) (by kernel_rfl) (by kernel_rfl) (fun _ _ _ h => h) (Or.inr ⟨by rfl, rfl⟩) (by assumption) ?_))
                (try simp only [Act.put, List.setIfInBounds_toArray, List.set_cons_zero, List.set_cons_succ])
                (first | (refine Reg.take 17 (v := ?_) rfl (by kernel_rfl) (by kernel_rfl) (by kernel_rfl) (fun _ _ _ h => h) (Or.inl ⟨by rfl, ?_⟩) (by assumption) ?_; rotate_left; (focus ((intro W hSW); (try dsimp only at hSW); (try go_split_ands); go_simp; (try (with_reducible rfl)); done))) | (refine Reg.take 17 (v := undef) rfl (by kernel_rfl) (by kernel_rfl) (by kernel_rfl) (fun _ _ _ h => h) (Or.inr ⟨by rfl, rfl⟩) (by assumption) ?_))
                (try simp only [Act.put, List.setIfInBounds_toArray, List.set_cons_zero, List.set_cons_succ])
                (first | (refine Reg.take 18 (v := ?_) rfl (by kernel_rfl) (by kernel_rfl) (by kernel_rfl) (fun _ _ _ h => h) (Or.inl ⟨by rfl, ?_⟩) (by assumption) ?_; rotate_left; (focus ((intro W hSW); (try dsimp only at hSW); (try go_split_ands); go_simp; (try (with_reducible rfl)); done))) | (refine Reg.take 18 (v := undef) rfl (by kernel_rfl) (by kernel_rfl) (by kernel_rfl) (fun _ _ _ h => h) (Or.inr ⟨by rfl, rfl⟩) (by assumption) ?_))
                (try simp only [Act.put, List.setIfInBounds_toArray, List.set_cons_zero, List.set_cons_succ])
                (first | (refine Reg.take 19 (v := ?_) rfl (by kernel_rfl) (by kernel_rfl) (by kernel_rfl) (fun _ _ _ h => h) (Or.inl ⟨by rfl, ?_⟩) (by assumption) ?_; rotate_left; (focus ((intro W hSW); (try dsimp only at hSW); (try go_split_ands); go_simp; (try (with_reducible rfl)); done))) | (refine Reg.take 19 (v := undef) rfl (by kernel_rfl) (by kernel_rfl) (by kernel_rfl) (fun _ _ _ h => h) (Or.inr ⟨by rfl, rfl⟩) (by assumption) ?_))
                (try simp only [Act.put, List.setIfInBounds_toArray, List.set_cons_zero, List.set_cons_succ])
                (first | (refine Reg.take 20 (v := ?_) rfl (by kernel_rfl) (by kernel_rfl) (by kernel_rfl) (fun _ _ _ h => h) (Or.inl ⟨by rfl, ?_⟩) (by assumption) ?_; rotate_left; (focus ((intro W hSW); (try dsimp only at hSW); (try go_split_ands); go_simp; (try (with_reducible rfl)); done))) | (refine Reg.take 20 (v := undef) rfl (by kernel_rfl) (by kernel_rfl) (by kernel_rfl) (fun _ _ _ h => h) (Or.inr ⟨by rfl, rfl⟩) (by assumption) ?_))
                (try simp only [Act.put, List.setIfInBounds_toArray, List.set_cons_zero, List.set_cons_succ])
                (first | (refine Reg.take 21 (v := ?_) rfl (by kernel_rfl) (by kernel_rfl) (by kernel_rfl) (fun _ _ _ h => h) (Or.inl ⟨by rfl, ?_⟩) (by assumption) ?_; rotate_left; (focus ((intro W hSW); (try dsimp only at hSW); (try go_split_ands); go_simp; (try (with_reducible rfl)); done))) | (refine Reg.take 21 (v := undef) rfl (by kernel_rfl) (by kernel_rfl) (by kernel_rfl) (fun _ _ _ h => h) (Or.inr ⟨by rfl, rfl⟩) (by assumption) ?_))
                (try simp only [Act.put, List.setIfInBounds_toArray, List.set_cons_zero, List.set_cons_succ])
                (first | (refine Reg.take 22 (v := ?_) rfl (by kernel_rfl) (by kernel_rfl) (by kernel_rfl) (fun _ _ _ h => h) (Or.inl ⟨by rfl, ?_⟩) (by assumption) ?_; rotate_left; (focus ((intro W hSW); (try dsimp only at hSW); (try go_split_ands); go_simp; (try (with_reducible rfl)); done))) | (refine Reg.take 22 (v := undef) rfl (by kernel_rfl) (by kernel_rfl) (by kernel_rfl) (fun _ _ _ h => h) (Or.inr ⟨by rfl, rfl⟩) (by assumption) ?_))
                (try simp only [Act.put, List.setIfInBounds_toArray, List.set_cons_zero, List.set_cons_succ])
                (first | (refine Reg.take 23 (v := ?_) rfl (by kernel_rfl) (by kernel_rfl) (by kernel_rfl) (fun _ _ _ h => h) (Or.inl ⟨by rfl, ?_⟩) (by assumption) ?_; rotate_left; (focus ((intro W hSW); (try dsimp only at hSW); (try go_split_ands); go_simp; (try (with_reducible rfl)); done))) | (refine Reg.take 23 (v := undef) rfl (by kernel_rfl) (by kernel_rfl) (by kernel_rfl) (fun _ _ _ h => h) (Or.inr ⟨by rfl, rfl⟩) (by assumption) ?_))
                (try simp only [Act.put, List.setIfInBounds_toArray, List.set_cons_zero, List.set_cons_succ])
                (first | (refine Reg.take 24 (v := ?_) rfl (by kernel_rfl) (by kernel_rfl) (by kernel_rfl) (fun _ _ _ h => h) (Or.inl ⟨by rfl, ?_⟩) (by assumption) ?_; rotate_left; (focus ((intro W hSW); (try dsimp only at hSW); (try go_split_ands); go_simp; (try (with_reducible rfl)); done))) | (refine Reg.take 24 (v := undef) rfl (by kernel_rfl) (by kernel_rfl) (by kernel_rfl) (fun _ _ _ h => h) (Or.inr ⟨by rfl, rfl⟩) (by assumption) ?_))
                (try simp only [Act.put, List.setIfInBounds_toArray, List.set_cons_zero, List.set_cons_succ])
                (first | (refine Reg.take 25 (v := ?_) rfl (by kernel_rfl) (by kernel_rfl) (by kernel_rfl) (fun _ _ _ h => h) (Or.inl ⟨by rfl, ?_⟩) (by assumption) ?_; rotate_left; (focus ((intro W hSW); (try dsimp only at hSW); (try go_split_ands); go_simp; (try (with_reducible rfl)); done))) | (refine Reg.take 25 (v := undef) rfl (by kernel_rfl) (by kernel_rfl) (by kernel_rfl) (fun _ _ _ h => h) (Or.inr ⟨by rfl, rfl⟩) (by assumption) ?_))
                (try simp only [Act.put, List.setIfInBounds_toArray, List.set_cons_zero, List.set_cons_succ])
                (first | (refine Reg.take 26 (v := ?_) rfl (by kernel_rfl) (by kernel_rfl) (by kernel_rfl) (fun _ _ _ h => h) (Or.inl ⟨by rfl, ?_⟩) (by assumption) ?_; rotate_left; (focus ((intro W hSW); (try dsimp only at hSW); (try go_split_ands); go_simp; (try (with_reducible rfl)); done))) | (refine Reg.take 26 (v := undef) rfl (by kernel_rfl) (by kernel_rfl) (by kernel_rfl) (fun _ _ _ h => h) (Or.inr ⟨by rfl, rfl⟩) (by assumption) ?_))
                (try simp only [Act.put, List.setIfInBounds_toArray, List.set_cons_zero, List.set_cons_succ])
                refine wpAnyH_done (by kernel_rfl) ?_ _
                clear hHeld
                obtain ⟨m0, m1, m2, m3, m4, m5, m6, m7⟩ := eight_cells G11.out
                obtain ⟨k0, k1, k2, k3, k4, k5, k6, k7⟩ := eight_cells Q11.out
                obtain ⟨f0, f1, f2, f3, f4, f5, f6, f7⟩ := eight_free Q11.out
                have hnn : n ≤ 200 := HN.out
                go_upto_region 22 with fail
                have bt := mov8 w11 q (.int .i64 V.p.h.host) (.int .i64 V.p.h.epoch) (.int .i64 V.p.h.seq) (.int .i64 V.p.zone) (.int .i64 V.p.cap) (.int .i64 V.p.at_) (.slice V.B V.p.buf.length V.bc) (.slice V.L V.p.l.length V.lc)
                unfold set8W at bt
                have cg := Chg.mov Q11.out bt
                have L12 := Lib.hid (L11.out.trans (bt.up L11.out.size GQ.out))
                have Q12 : Hid (PBox _ q V) := Lib.hid (set8 Q11.out (.int .i64 V.p.h.host) (.int .i64 V.p.h.epoch) (.int .i64 V.p.h.seq) (.int .i64 V.p.zone) (.int .i64 V.p.cap) (.int .i64 V.p.at_) (.slice V.B V.p.buf.length V.bc) (.slice V.L V.p.l.length V.lc))
                have V12 := Lib.hid (V11.out.chg cg (by decide) (by decide))
                unfold set8W at Q12
                clear bt cg m0 m1 m2 m3 m4 m5 m6 m7 k0 k1 k2 k3 k4 k5 k6 k7 f0 f1 f2 f3 f4 f5 f6 f7 L11 Q11 O11 V11 G11
                generalize (((((((w11.setCell ⟨q, 0, none⟩ (.int .i64 V.p.h.host)).setCell ⟨q, 1, none⟩ (.int .i64 V.p.h.epoch)).setCell ⟨q, 2, none⟩ (.int .i64 V.p.h.seq)).setCell ⟨q, 3, none⟩ (.int .i64 V.p.zone)).setCell ⟨q, 4, none⟩ (.int .i64 V.p.cap)).setCell ⟨q, 5, none⟩ (.int .i64 V.p.at_)).setCell ⟨q, 6, none⟩ (.slice V.B V.p.buf.length V.bc)).setCell ⟨q, 7, none⟩ (.slice V.L V.p.l.length V.lc) = w12 at *
                go_wp2_with fail
                go_roundw
                case rel => exact ⟨k + 1, V, by have := HN.out; go_num, by omega, OKV, CPV, L12, Q12, V12⟩
                case measure => have := HN.out; simp [intOf]; omega
              · have hap := addP_full (p := Y.p) (l := [y.r]) (by rw [errB_one]; exact hc) hfit
                have hlt1 : roomP Y.p < (flen y.r : Int) := by
                  have h1 : ¬ Y.p.at_ + (Y.p.buf.length : Int) + (flen y.r : Int) ≤ Y.p.cap := fun hh => hfit ((fitsP_one _ _).2 hh)
                  have := HRV.out
                  omega
                clear hfit hc
                go_upto_region 12 with (go_at_call 9; refine HRC.out.mono ?_; rintro e w4 ⟨X, bk, d, rfl, hO, hb⟩; obtain rfl : flen y.r = bk := HFL.out.symm.trans hO.len; have L4 := Lib.hid (L3.out.trans (hb.mono L3.out.size)); have Q4 := Lib.hid (Cells.below Q3.out hb); have O4 := Lib.hid (OwnP.below O3.out hb); have R4 := Lib.hid (Cells.below R3.out hb); clear hO hb m0 m1 m2 m3 m4 m5 m6 HRC; clear L3 Q3 O3 R3)
                obtain ⟨m0, m1, m2, m3, m4, m5, m6⟩ := seven_cells R4.out
                obtain ⟨k0, k1, k2, k3, k4, k5, k6, k7⟩ := eight_cells Q4.out
                have BB : Below w4.heap.size w4 (w4.alloc (.cells #[.int .i64 y.r.kind, .int .i64 y.r.lba, .int .i64 y.r.n, .int .i64 y.r.ver, .int .i64 y.r.zone, .int .i64 y.r.off, .slice y.D y.r.data.length y.c] 34)) := (Below.refl _ w4).alloc (Nat.le_refl _) _
                have R1 := Lib.hid (row_oneR (w := w4) (y := y) rfl)
                have L5 := Lib.hid (L4.out.trans (BB.mono L4.out.size))
                have Q5 := Lib.hid (Cells.below Q4.out BB)
                have O5 := Lib.hid (OwnP.below O4.out BB)
                clear BB
                have HAD := Lib.hid (add1_bad (O5.out.any OK.out) OK.out R1.out (HD.out.below L5.out) HF.out (hap))
                unfold pxv at HAD
                clear R1 R4
                go_upto_region 13 with (go_at_call 10; refine HAD.out.mono ?_; rintro e w6 ⟨B, bc, L, lc, T, d2, rfl, hb⟩; have L6 := Lib.hid (L5.out.trans (hb.mono L5.out.size)); have Q6 := Lib.hid (Cells.below Q5.out hb); have O6 := Lib.hid (OwnP.below O5.out hb); clear hb m0 m1 m2 m3 m4 m5 m6 k0 k1 k2 k3 k4 k5 k6 k7 HAD L4 Q4 O4 L5 Q5 O5)
                have BB : Below w6.heap.size w6 (w6.alloc (.cells #[.int .i64 0, .int .i64 0, .int .i64 0, .int .i64 0, .int .i64 0, .int .i64 0, .slice B 0 bc, .slice L 0 lc] 29)) := (Below.refl _ w6).alloc (Nat.le_refl _) _
                have V7 : Hid (Cells (w6.alloc (.cells #[.int .i64 0, .int .i64 0, .int .i64 0, .int .i64 0, .int .i64 0, .int .i64 0, .slice B 0 bc, .slice L 0 lc] 29)) w6.heap.size 29 #[.int .i64 0, .int .i64 0, .int .i64 0, .int .i64 0, .int .i64 0, .int .i64 0, .slice B 0 bc, .slice L 0 lc]) := Cells.new _ _ _
                have L7 := Lib.hid (L6.out.trans (BB.mono L6.out.size))
                have Q7 := Lib.hid (Cells.below Q6.out BB)
                have O7 := Lib.hid (OwnP.below O6.out BB)
                clear BB L6 Q6 O6
                generalize w6.alloc (.cells #[.int .i64 0, .int .i64 0, .int .i64 0, .int .i64 0, .int .i64 0, .int .i64 0, .slice B 0 bc, .slice L 0 lc] 29) = w7 at *
                generalize w6.heap.size = v at *
                obtain ⟨m0, m1, m2, m3, m4, m5, m6, m7⟩ := eight_cells V7.out
                clear hap
                obtain ⟨k0, k1, k2, k3, k4, k5, k6, k7⟩ := eight_cells Q7.out
                generalize flen y.r = fl at *
                generalize roomP Y.p = rm at *
                have hnn : n ≤ 200 := HN.out
                go_wp2_with (go_at_call 11; refine (HRM w7).out.mono ?_; rintro e w8 ⟨rfl, hb⟩; have L8 := Lib.hid (L7.out.trans (hb.mono L7.out.size)); have Q8 := Lib.hid (Cells.below Q7.out hb); have V8 := Lib.hid (Cells.below V7.out hb); have O8 := Lib.hid (OwnP.below O7.out hb); clear hb m0 m1 m2 m3 m4 m5 m6 m7 k0 k1 k2 k3 k4 k5 k6 k7; obtain ⟨m0, m1, m2, m3, m4, m5, m6, m7⟩ := eight_cells V8.out)
                go_roundw
                case rel => exact ⟨k + 1, Y, by have := HN.out; go_num, by omega, OK, CP, L8, Q8, O8⟩
                case measure => have := HN.out; simp [intOf]; omega
            · have hrb : recB y.r = ([], 1) := by unfold recB; rw [if_neg (by omega), hc]
              rw [hrb] at HRC
              have hap : addP Y.p [y.r] = (zeroP, [], 1) := by
                have he := errB_one y.r
                have h2 := addP_bad (p := Y.p) (l := [y.r]) (by omega)
                rw [h2, he, hc]
              clear hrb hc
              go_upto_region 12 with (go_at_call 9; refine HRC.out.mono ?_; rintro e w4 ⟨X, bk, d, rfl, hO, hb⟩; obtain rfl : 0 = bk := hO.len; have L4 := Lib.hid (L3.out.trans (hb.mono L3.out.size)); have Q4 := Lib.hid (Cells.below Q3.out hb); have O4 := Lib.hid (OwnP.below O3.out hb); have R4 := Lib.hid (Cells.below R3.out hb); clear hO hb m0 m1 m2 m3 m4 m5 m6 HRC; clear L3 Q3 O3 R3)
              obtain ⟨m0, m1, m2, m3, m4, m5, m6⟩ := seven_cells R4.out
              obtain ⟨k0, k1, k2, k3, k4, k5, k6, k7⟩ := eight_cells Q4.out
              have BB : Below w4.heap.size w4 (w4.alloc (.cells #[.int .i64 y.r.kind, .int .i64 y.r.lba, .int .i64 y.r.n, .int .i64 y.r.ver, .int .i64 y.r.zone, .int .i64 y.r.off, .slice y.D y.r.data.length y.c] 34)) := (Below.refl _ w4).alloc (Nat.le_refl _) _
              have R1 := Lib.hid (row_oneR (w := w4) (y := y) rfl)
              have L5 := Lib.hid (L4.out.trans (BB.mono L4.out.size))
              have Q5 := Lib.hid (Cells.below Q4.out BB)
              have O5 := Lib.hid (OwnP.below O4.out BB)
              clear BB
              have HAD := Lib.hid (add1_bad (O5.out.any OK.out) OK.out R1.out (HD.out.below L5.out) HF.out (hap))
              unfold pxv at HAD
              clear R1 R4
              go_upto_region 13 with (go_at_call 10; refine HAD.out.mono ?_; rintro e w6 ⟨B, bc, L, lc, T, d2, rfl, hb⟩; have L6 := Lib.hid (L5.out.trans (hb.mono L5.out.size)); have Q6 := Lib.hid (Cells.below Q5.out hb); have O6 := Lib.hid (OwnP.below O5.out hb); clear hb m0 m1 m2 m3 m4 m5 m6 k0 k1 k2 k3 k4 k5 k6 k7 HAD L4 Q4 O4 L5 Q5 O5)
              have BB : Below w6.heap.size w6 (w6.alloc (.cells #[.int .i64 0, .int .i64 0, .int .i64 0, .int .i64 0, .int .i64 0, .int .i64 0, .slice B 0 bc, .slice L 0 lc] 29)) := (Below.refl _ w6).alloc (Nat.le_refl _) _
              have V7 : Hid (Cells (w6.alloc (.cells #[.int .i64 0, .int .i64 0, .int .i64 0, .int .i64 0, .int .i64 0, .int .i64 0, .slice B 0 bc, .slice L 0 lc] 29)) w6.heap.size 29 #[.int .i64 0, .int .i64 0, .int .i64 0, .int .i64 0, .int .i64 0, .int .i64 0, .slice B 0 bc, .slice L 0 lc]) := Cells.new _ _ _
              have L7 := Lib.hid (L6.out.trans (BB.mono L6.out.size))
              have Q7 := Lib.hid (Cells.below Q6.out BB)
              have O7 := Lib.hid (OwnP.below O6.out BB)
              clear BB L6 Q6 O6
              generalize w6.alloc (.cells #[.int .i64 0, .int .i64 0, .int .i64 0, .int .i64 0, .int .i64 0, .int .i64 0, .slice B 0 bc, .slice L 0 lc] 29) = w7 at *
              generalize w6.heap.size = v at *
              obtain ⟨m0, m1, m2, m3, m4, m5, m6, m7⟩ := eight_cells V7.out
              clear hap
              have hnn : n ≤ 200 := HN.out
              go_wp2_with fail
              go_roundw
              case rel => exact ⟨k + 1, Y, by have := HN.out; go_num, by omega, OK, CP, L7, Q7, O7⟩
              case measure => have := HN.out; simp [intOf]; omega
            · have hrb : recB y.r = ([], 2) := by unfold recB; rw [if_neg (by omega), hc]
              rw [hrb] at HRC
              have hap : addP Y.p [y.r] = (zeroP, [], 2) := by
                have he := errB_one y.r
                have h2 := addP_bad (p := Y.p) (l := [y.r]) (by omega)
                rw [h2, he, hc]
              clear hrb hc
              go_upto_region 12 with (go_at_call 9; refine HRC.out.mono ?_; rintro e w4 ⟨X, bk, d, rfl, hO, hb⟩; obtain rfl : 0 = bk := hO.len; have L4 := Lib.hid (L3.out.trans (hb.mono L3.out.size)); have Q4 := Lib.hid (Cells.below Q3.out hb); have O4 := Lib.hid (OwnP.below O3.out hb); have R4 := Lib.hid (Cells.below R3.out hb); clear hO hb m0 m1 m2 m3 m4 m5 m6 HRC; clear L3 Q3 O3 R3)
              obtain ⟨m0, m1, m2, m3, m4, m5, m6⟩ := seven_cells R4.out
              obtain ⟨k0, k1, k2, k3, k4, k5, k6, k7⟩ := eight_cells Q4.out
              have BB : Below w4.heap.size w4 (w4.alloc (.cells #[.int .i64 y.r.kind, .int .i64 y.r.lba, .int .i64 y.r.n, .int .i64 y.r.ver, .int .i64 y.r.zone, .int .i64 y.r.off, .slice y.D y.r.data.length y.c] 34)) := (Below.refl _ w4).alloc (Nat.le_refl _) _
              have R1 := Lib.hid (row_oneR (w := w4) (y := y) rfl)
              have L5 := Lib.hid (L4.out.trans (BB.mono L4.out.size))
              have Q5 := Lib.hid (Cells.below Q4.out BB)
              have O5 := Lib.hid (OwnP.below O4.out BB)
              clear BB
              have HAD := Lib.hid (add1_bad (O5.out.any OK.out) OK.out R1.out (HD.out.below L5.out) HF.out (hap))
              unfold pxv at HAD
              clear R1 R4
              go_upto_region 13 with (go_at_call 10; refine HAD.out.mono ?_; rintro e w6 ⟨B, bc, L, lc, T, d2, rfl, hb⟩; have L6 := Lib.hid (L5.out.trans (hb.mono L5.out.size)); have Q6 := Lib.hid (Cells.below Q5.out hb); have O6 := Lib.hid (OwnP.below O5.out hb); clear hb m0 m1 m2 m3 m4 m5 m6 k0 k1 k2 k3 k4 k5 k6 k7 HAD L4 Q4 O4 L5 Q5 O5)
              have BB : Below w6.heap.size w6 (w6.alloc (.cells #[.int .i64 0, .int .i64 0, .int .i64 0, .int .i64 0, .int .i64 0, .int .i64 0, .slice B 0 bc, .slice L 0 lc] 29)) := (Below.refl _ w6).alloc (Nat.le_refl _) _
              have V7 : Hid (Cells (w6.alloc (.cells #[.int .i64 0, .int .i64 0, .int .i64 0, .int .i64 0, .int .i64 0, .int .i64 0, .slice B 0 bc, .slice L 0 lc] 29)) w6.heap.size 29 #[.int .i64 0, .int .i64 0, .int .i64 0, .int .i64 0, .int .i64 0, .int .i64 0, .slice B 0 bc, .slice L 0 lc]) := Cells.new _ _ _
              have L7 := Lib.hid (L6.out.trans (BB.mono L6.out.size))
              have Q7 := Lib.hid (Cells.below Q6.out BB)
              have O7 := Lib.hid (OwnP.below O6.out BB)
              clear BB L6 Q6 O6
              generalize w6.alloc (.cells #[.int .i64 0, .int .i64 0, .int .i64 0, .int .i64 0, .int .i64 0, .int .i64 0, .slice B 0 bc, .slice L 0 lc] 29) = w7 at *
              generalize w6.heap.size = v at *
              obtain ⟨m0, m1, m2, m3, m4, m5, m6, m7⟩ := eight_cells V7.out
              clear hap
              have hnn : n ≤ 200 := HN.out
              go_wp2_with fail
              go_roundw
              case rel => exact ⟨k + 1, Y, by have := HN.out; go_num, by omega, OK, CP, L7, Q7, O7⟩
              case measure => have := HN.out; simp [intOf]; omega
          · have hkn : k = n := by omega
            subst hkn
            have hd2 : decide ((Y.p.buf.length : Int) ≤ 30 + (Z : Int)) = true := by
              have h1 := OK.out.room
              have h2 := OK.out.at0
              have h3 := CP.out
              rw [decide_eq_true_eq]
              omega
            obtain ⟨k0, k1, k2, k3, k4, k5, k6, k7⟩ := eight_cells Q2.out
            go_wp2_with fail
            go_ret
            exact ⟨rfl, L2.out⟩
      · go_wp2_with (go_at_call 8; refine (HBG w3).out.mono ?_; rintro e w4 ⟨Y, rfl, hp, hO, hb⟩; have L4 := Lib.hid (L3.out.trans (hb.mono L3.out.size)); clear hb hO; unfold pxv)
        go_ret
        exact ⟨rfl, L4.out.alloc L4.out.size _⟩
      · go_wp2_with (go_at_call 8; refine (HBG w3).out.mono ?_; rintro e w4 ⟨Y, rfl, hp, hO, hb⟩; have L4 := Lib.hid (L3.out.trans (hb.mono L3.out.size)); clear hb hO; unfold pxv)
        go_ret
        exact ⟨rfl, L4.out.alloc L4.out.size _⟩
  · go_wp2_with (go_at_call 7; refine (HB w2 L2.out).out.mono ?_; rintro e w3 ⟨rfl, hb⟩; have L3 := Lib.hid (L2.out.trans (hb.mono L2.out.size)); have X3 := Lib.hid (Cells.below X2.out hb); clear hb HB X2)
    go_ret
    exact ⟨rfl, L3.out⟩
end Pk
end Go.Proofs.Ytedandbkdjmfhaa
/-
  THE STATEMENT PackerRoom: its row. For every input that the row can read, no condition beside it. (Written by gen_pkrows.py.)
-/
namespace Go.Proofs.Ytedandbkdjmfhaa
open Go.ChangeShapes Go.WideShapes Go.ChangeAt Go.RowKit Mem Args
namespace Pk

theorem packerRoom_says : Frame.Says Rows.packerRoomSpec 3 := by
  refine ⟨rfl, fun H ds h => ?_, fun H ds h => ?_, fun H ds h => ?_⟩ <;>
  · match ds, h with
    | [d0, d1, d2], _ => rfl

set_option maxRecDepth 100000 in
theorem packerRoom_walks : Frame.Walks 3 [23, 24, 3] := by
  intro H enc W args ds ps base hok hA hsz
  obtain ⟨v0, vs0, d0, ds0, p0, q0, hargs, rfl, rfl, h0, r0⟩ := trodAll_cons hA
  obtain ⟨v1, vs1, d1, ds1, p1, q1, rfl, rfl, rfl, h1, r1⟩ := trodAll_cons r0
  obtain ⟨v2, vs2, d2, ds2, p2, q2, rfl, rfl, rfl, h2, r2⟩ := trodAll_cons r1
  obtain ⟨rfl, rfl, rfl⟩ := trodAll_nil r2
  obtain rfl : args = #[v0, v1, v2] := by cases args; simp_all
  obtain ⟨f0, rfl, hf0⟩ := open_hdr (hok 0 _ v0 rfl rfl) h0
  obtain ⟨A1, n1, c1, l1, rfl, k1, hg1, hw1⟩ := open_recs (hok 1 _ v1 rfl rfl) h1 (sized_arg hsz (j := 1) rfl rfl)
  obtain ⟨z2, rfl, rfl, rfl, hz2⟩ := open_int Try.underlying3 (hok 2 _ v2 rfl rfl) h2
  exact room_walk f0 z2 k1 hf0 hg1

set_option maxRecDepth 100000 in
theorem packerRoom_over : Rows.packerRoomRow.holds Try.pinned (OpenSpec.ofChange Rows.packerRoomSpec) :=
  OpenClaim.holds_of_wide 3 Try.f3 rfl rfl rfl rfl rfl rfl rfl ⟨rfl, rfl, rfl, rfl, rfl⟩ rfl rfl rfl rfl rfl (by kernel_rfl) Try.func3 (by kernel_rfl)
    (of_decide_eq_true (by kernel_rfl)) (by unfold Func.isWrapper; first | (rw [if_pos (by decide +kernel)]; kernel_rfl) | (rw [if_neg (by decide +kernel)]; exact ⟨rfl, rfl⟩))
    (fun os started H enc _ => Frame.lifted (started := started) Try.underlying4 (by kernel_rfl) Try.func3 (n := 3) (by rw [Try.params3]; rfl) packerRoom_says (by rw [Try.params3]; kernel_rfl) (by kernel_rfl)
      (ChangeSpec.witness6 (enc := enc) (C := Try.checked) false ⟨#[], #[.agg #[.int .i64 0, .int .i64 0, .int .i64 0], .slice none 0 0, .int .i64 0], []⟩ 8 (by kernel_rfl) (by kernel_rfl) (by kernel_rfl) (by kernel_rfl))
      (by rw [Try.params3]; exact packerRoom_walks))
end Pk
/-- The given statement. -/
theorem packerRoom_holds : Rows.PackerRoomSaid := Pk.packerRoom_over
end Go.Proofs.Ytedandbkdjmfhaa
