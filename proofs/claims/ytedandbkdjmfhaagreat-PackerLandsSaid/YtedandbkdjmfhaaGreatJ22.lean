/-
  SEVERAL TEXTS IN ONE FILE: PkLive, Cut, PkOne, PkFar, PkDev.
-/
import Derived.Test.YtedandbkdjmfhaaGreatJ21
import Derived.Laws.MakeOwn
import Derived.WalkKit
import Derived.Test.YtedandbkdjmfhaaGreatJ09
import Derived.Test.YtedandbkdjmfhaaGreatJ10
set_option linter.unusedSimpArgs false
set_option linter.unusedVariables false
/-
  A WALK: the chapter's example (live).
-/
namespace Go.Proofs.YtedandbkdjmfhaaGreat
open Go.RowKit Mem Box
namespace Pk
open Seg (Hdr Rc Rv cellsOf cellsOf_len RowR hdV recV fits nums hnums nn goods frame headX recX frames check recB headB)
theorem run_make16 (w : World) : (Instr.makeSlice 32 (.int .i64 16) (.int .i64 16)).run Tryz.prog w = .ok (.slice (some ⟨w.heap.size, 0, none⟩) 16 16) (w.alloc (.cells (madeCells #[.int .u8 0] 16) 5)) := by
  obtain ⟨i, hi, hz0, hz1, hz2⟩ := info_parts info_byte
  have h := run_make (P := Tryz.prog) w 32 5 i _ Tryz.underlying32 hi hz0 .i64 .i64 16 16 (by omega) (by omega) (by rw [hz2]; omega) (by omega)
  rw [hz1] at h
  exact h
theorem made16 (w : World) : Row cb (w.alloc (.cells (madeCells #[.int .u8 0] 16) 5)) (some ⟨w.heap.size, 0, none⟩) 16 16 (List.replicate 16 0#8) := by
  have h := Mem.Owns.made cb 5 w (List.replicate 16 0#8) (by decide) (Nat.le_refl _)
  have e : ((List.replicate 16 0#8).map cb).toArray = madeCells #[.int .u8 0] 16 := by
    apply Array.toList_inj.1
    apply List.ext_getElem?
    intro i
    unfold madeCells
    simp only [Array.getElem?_toList, Array.getElem?_map, Array.getElem?_range, List.getElem?_map, List.getElem?_replicate]
    split <;> simp [cb, u, Nat.mod_one]
  rw [e] at h
  exact (Wire.gave_row h (by decide)).1
theorem exBegin_any (w : World) : Calls Tryz.prog 6 #[.agg #[.int .i64 1, .int .i64 2, .int .i64 0], .int .i64 3, .int .i64 200] w fun e w' => ∃ B bc L lc ys, e = .returned (.tuple #[.agg #[.int .i64 1, .int .i64 2, .int .i64 0, .int .i64 3, .int .i64 200, .int .i64 0, .slice B 9 bc, .slice L 0 lc], .int .i64 0]) ∧ OwnP w.heap.size w' ⟨exP, B, bc, L, lc, ys⟩ ∧ Below w.heap.size w w' := by
  have h := begin_any (h := exH) (zone := 3) (most := 200) (w := w) exH_fits
  rw [ex_begin] at h
  refine h.mono ?_
  rintro e w' ⟨⟨p, B, bc, L, lc, ys⟩, rfl, hp, hO, hb⟩
  obtain rfl : p = exP := hp
  refine ⟨B, bc, L, lc, ys, ?_, hO, hb⟩
  unfold pxv
  dsimp only
  rw [exP_len]
  rfl
theorem exAdd_any {B : Option Addr} {bc : Nat} {L : Option Addr} {lc : Nat} {ys : List Rv} {base g r : Nat} {w : World} (hp : OwnP base w ⟨exP, B, bc, L, lc, ys⟩) (hr : RowS cellsOf 7 w (some ⟨r, 0, none⟩) 1 1 [⟨exR, some ⟨g, 0, none⟩, 16⟩]) (hd : Row cb w (some ⟨g, 0, none⟩) 16 16 (List.replicate 16 0#8)) :
    Calls Tryz.prog 9 #[.agg #[.int .i64 1, .int .i64 2, .int .i64 0, .int .i64 3, .int .i64 200, .int .i64 0, .slice B 9 bc, .slice L 0 lc], .slice (some ⟨r, 0, none⟩) 1 1] w fun e w' => ∃ B bc L lc ys T d, e = .returned (.tuple #[.agg #[.int .i64 1, .int .i64 2, .int .i64 0, .int .i64 3, .int .i64 200, .int .i64 0, .slice B 37 bc, .slice L 1 lc], .slice T 1 d, .int .i64 0]) ∧ OwnP w.heap.size w' ⟨moreP exP [exR], B, bc, L, lc, ys⟩ ∧ Mem.Owns ci 3 w.heap.size w' (.slice T 1 d) 1 [17] ∧ Below w.heap.size w w' := by
  have hR : RowR w (some ⟨r, 0, none⟩) 1 1 [⟨exR, some ⟨g, 0, none⟩, 16⟩] := rowR_of hr (by omega) (by intro x hx; rw [List.mem_singleton.1 hx]; exact hd)
  have h := add_any (hp.any exP_ok) exP_ok hR (by intro r hr; rw [List.mem_singleton.1 hr]; exact exR_fits)
  rw [show [(⟨exR, some ⟨g, 0, none⟩, 16⟩ : Rv)].map Rv.r = [exR] from rfl, ex_add] at h
  have hv : pxv ⟨exP, B, bc, L, lc, ys⟩ = .agg #[.int .i64 1, .int .i64 2, .int .i64 0, .int .i64 3, .int .i64 200, .int .i64 0, .slice B 9 bc, .slice L 0 lc] := by
    unfold pxv
    dsimp only
    rw [exP_len]
    rfl
  rw [hv] at h
  refine h.mono ?_
  rintro e w' ⟨⟨p, B, bc, L, lc, ys⟩, T, k, d, rfl, hp, hO, hT, hb⟩
  obtain rfl : p = moreP exP [exR] := hp
  obtain rfl : 1 = k := hT.len
  refine ⟨B, bc, L, lc, ys, T, d, ?_, hO, hT, hb⟩
  unfold pxv
  dsimp only
  rw [exM_len]
  rfl
theorem exFlush_any {B : Option Addr} {bc : Nat} {L : Option Addr} {lc : Nat} {ys : List Rv} {base : Nat} {w : World} (hp : OwnP base w ⟨moreP exP [exR], B, bc, L, lc, ys⟩) :
    Calls Tryz.prog 10 #[.agg #[.int .i64 1, .int .i64 2, .int .i64 0, .int .i64 3, .int .i64 200, .int .i64 0, .slice B 37 bc, .slice L 1 lc]] w fun e w' => ∃ B d L lc M mc, e = .returned (.tuple #[.agg #[.int .i64 1, .int .i64 3, .int .i64 2, .int .i64 0, .int .i64 0, .slice B 37 d], .agg #[.int .i64 1, .int .i64 2, .int .i64 0, .int .i64 3, .int .i64 200, .int .i64 37, .slice L 0 lc, .slice M 0 mc], .bool true]) ∧ Below w.heap.size w w' := by
  have h := flush_some (hp.any exM_ok) exM_ok (by show 0 < (moreP exP [exR]).buf.length; rw [exM_len]; omega)
  have hv : pxv ⟨moreP exP [exR], B, bc, L, lc, ys⟩ = .agg #[.int .i64 1, .int .i64 2, .int .i64 0, .int .i64 3, .int .i64 200, .int .i64 0, .slice B 37 bc, .slice L 1 lc] := by
    unfold pxv
    dsimp only
    rw [exM_len]
    rfl
  rw [hv] at h
  refine h.mono ?_
  rintro e w' ⟨B, d, ⟨p, L, lc, M, mc, ys⟩, rfl, hp, -, -, hb⟩
  obtain rfl : p = behindP (moreP exP [exR]) := hp
  refine ⟨B, d, L, lc, M, mc, ?_, hb⟩
  unfold pxv behindP
  dsimp only
  rw [exM_len]
  rfl
set_option maxRecDepth 100000 in
set_option maxHeartbeats 6400000 in
theorem live_any (w : World) : Calls Tryz.prog 4 #[] w fun e w' => e = .returned (.bool true) ∧ Below w.heap.size w w' := by
  have HBG := fun w => Lib.hid (exBegin_any w)
  have hmk := run_make16
  have L1 := Lib.hid (Below.refl w.heap.size w)
  go_enter Tryz.func4, Tryz.ntmps4
  go_upto_region 2 with (go_at_call 6; refine (HBG w).out.mono ?_; rintro e w2 ⟨B, bc, L, lc, ys, rfl, hO, hb⟩; have L2 := Lib.hid (L1.out.trans (hb.mono L1.out.size)); have O2 := Lib.hid hO; clear hO hb L1)
  have BB : Below w2.heap.size w2 (w2.alloc (.cells #[.int .i64 1, .int .i64 2, .int .i64 0, .int .i64 3, .int .i64 200, .int .i64 0, .slice B 9 bc, .slice L 0 lc] 35)) := (Below.refl _ w2).alloc (Nat.le_refl _) _
  have Q3 : Hid (Cells (w2.alloc (.cells #[.int .i64 1, .int .i64 2, .int .i64 0, .int .i64 3, .int .i64 200, .int .i64 0, .slice B 9 bc, .slice L 0 lc] 35)) w2.heap.size 35 #[.int .i64 1, .int .i64 2, .int .i64 0, .int .i64 3, .int .i64 200, .int .i64 0, .slice B 9 bc, .slice L 0 lc]) := Cells.new _ _ _
  have L3 := Lib.hid (L2.out.trans (BB.mono L2.out.size))
  have O3 := Lib.hid (O2.out.below BB)
  have GQ := Lib.hid (L2.out.size)
  clear BB L2 O2
  generalize w2.alloc (.cells #[.int .i64 1, .int .i64 2, .int .i64 0, .int .i64 3, .int .i64 200, .int .i64 0, .slice B 9 bc, .slice L 0 lc] 35) = w3 at *
  generalize w2.heap.size = q at *
  have L4 := Lib.hid L3.out.drew
  have Q4 := Lib.hid (Cells.below Q3.out ((Below.refl _ w3).drew))
  have O4 := Lib.hid (OwnP.below O3.out ((Below.refl _ w3).drew))
  refine wp_region_held_drew (S := fun W => True) (by kernel_rfl) (trivial) (fun hHeld => ?_)
  generalize w3.drew = w4 at *
  clear L3 Q3 O3 
  refine Reg.step2 0 1 rfl rfl (by kernel_rfl) (by rfl) (by rfl) (fun K hK => ?_) (fun K hK => ?_)
  · skip
    obtain ⟨m0, m1, m2, m3, m4, m5, m6, m7⟩ := eight_cells Q4.out
    go_simp
    refine hK.out _ _ trivial (fun hHeld => ?_)
    clear hK K m0 m1 m2 m3 m4 m5 m6 m7
    (try simp only [Act.put, List.setIfInBounds_toArray, List.set_cons_zero, List.set_cons_succ])
    refine Reg.step 1 rfl (by kernel_rfl) (by rfl) (fun K hK => ?_)
    go_simp
    have bb : Below w4.heap.size w4 (w4.alloc (.cells (madeCells #[.int .u8 0] 16) 5)) := (Below.refl _ w4).alloc (Nat.le_refl _) _
    have D5 := Lib.hid (made16 w4)
    have L5 := Lib.hid (L4.out.trans (bb.mono L4.out.size))
    have Q5 := Lib.hid (Cells.below Q4.out bb)
    have O5 := Lib.hid (OwnP.below O4.out bb)
    obtain ⟨g, hg⟩ : ∃ p, p = w4.heap.size := ⟨_, rfl⟩
    rw [← hg] at D5
    rw [← hg]
    have Gg : Hid (g = w4.heap.size) := hg
    clear bb hHeld hg
    clear L4 Q4 O4 
    generalize w4.alloc (.cells (madeCells #[.int .u8 0] 16) 5) = w5 at *
    refine hK.out _ _ (trivial) (fun hHeld => ?_)
    clear hK K
    (try simp only [Act.put, List.setIfInBounds_toArray, List.set_cons_zero, List.set_cons_succ])
    refine Reg.tk 2 rfl ?_
    refine Reg.step 3 rfl (by kernel_rfl) (by rfl) (fun K hK => ?_)
    go_simp
    have bb : Below w5.heap.size w5 (w5.alloc (.cells #[.int .i64 1, .int .i64 0, .int .i64 1, .int .i64 0, .int .i64 0, .int .i64 0, .slice (some ⟨g, 0, none⟩) 16 16] 57)) := (Below.refl _ w5).alloc (Nat.le_refl _) _
    have R6 := Lib.hid (show RowS cellsOf 7 (w5.alloc (.cells #[.int .i64 1, .int .i64 0, .int .i64 1, .int .i64 0, .int .i64 0, .int .i64 0, .slice (some ⟨g, 0, none⟩) 16 16] 57)) (some ⟨w5.heap.size, 0, none⟩) 1 1 [⟨exR, some ⟨g, 0, none⟩, 16⟩] from row_oneR (w := w5) (y := ⟨exR, some ⟨g, 0, none⟩, 16⟩) rfl)
    have L6 := Lib.hid (L5.out.trans (bb.mono L5.out.size))
    have Q6 := Lib.hid (Cells.below Q5.out bb)
    have O6 := Lib.hid (OwnP.below O5.out bb)
    have D6 := Lib.hid (Row.below D5.out bb)
    obtain ⟨r, hr⟩ : ∃ p, p = w5.heap.size := ⟨_, rfl⟩
    rw [← hr] at R6
    rw [← hr]
    have Gr : Hid (r = w5.heap.size) := hr
    clear bb hHeld hr
    clear L5 Q5 O5 D5 
    generalize w5.alloc (.cells #[.int .i64 1, .int .i64 0, .int .i64 1, .int .i64 0, .int .i64 0, .int .i64 0, .slice (some ⟨g, 0, none⟩) 16 16] 57) = w6 at *
    refine hK.out _ _ (trivial) (fun hHeld => ?_)
    clear hK K
    (try simp only [Act.put, List.setIfInBounds_toArray, List.set_cons_zero, List.set_cons_succ])
    refine Reg.step 4 rfl (by kernel_rfl) (by rfl) (fun K hK => ?_)
    go_simp
    refine (exAdd_any O6.out R6.out D6.out).mono ?_
    rintro e w7 ⟨B2, bc2, L2, lc2, ys2, T, td, rfl, hO, hT, hb⟩
    have L7 := Lib.hid (L6.out.trans (hb.mono L6.out.size))
    have Q7 := Lib.hid (Cells.below Q6.out hb)
    have O7 := Lib.hid (OwnP.below O6.out hb)
    have D7 := Lib.hid (Row.below D6.out hb)
    have R7 := Lib.hid (RowS.below R6.out hb)
    clear O7 D7 R7
    have O7 := Lib.hid (hO.mono L6.out.size)
    have T7 := Lib.hid (hT.mono L6.out.size)
    clear hb hHeld hO hT
    clear L6 Q6 O6 D6 R6 
    refine hK.out _ _ (trivial) (fun hHeld => ?_)
    clear hK K
    (try simp only [Act.put, List.setIfInBounds_toArray, List.set_cons_zero, List.set_cons_succ])
    refine Reg.tk 5 rfl ?_
    refine Reg.tk 6 rfl ?_
    refine Reg.tk 7 rfl ?_
    refine Reg.tk 8 rfl ?_
    have y0 := Cells.cell Q7.out 0
    have f0 := Cells.frozen Q7.out 0
    have y1 := Cells.cell Q7.out 1
    have f1 := Cells.frozen Q7.out 1
    have y2 := Cells.cell Q7.out 2
    have f2 := Cells.frozen Q7.out 2
    have y3 := Cells.cell Q7.out 3
    have f3 := Cells.frozen Q7.out 3
    have y4 := Cells.cell Q7.out 4
    have f4 := Cells.frozen Q7.out 4
    have y5 := Cells.cell Q7.out 5
    have f5 := Cells.frozen Q7.out 5
    have y6 := Cells.cell Q7.out 6
    have f6 := Cells.frozen Q7.out 6
    have y7 := Cells.cell Q7.out 7
    have f7 := Cells.frozen Q7.out 7
    refine Reg.step 9 rfl (by kernel_rfl) (by rfl) (fun K hK => ?_)
    go_simp
    have bt := mov8 w7 q (.int .i64 1) (.int .i64 2) (.int .i64 0) (.int .i64 3) (.int .i64 200) (.int .i64 0) (.slice B2 37 bc2) (.slice L2 1 lc2)
    unfold set8W at bt
    have cg := Chg.mov Q7.out bt
    have L8 := Lib.hid (L7.out.trans (bt.up L7.out.size GQ.out))
    have Q8 : Hid (Cells ((((((((w7.setCell ⟨q, 0, none⟩ (.int .i64 1)).setCell ⟨q, 1, none⟩ (.int .i64 2)).setCell ⟨q, 2, none⟩ (.int .i64 0)).setCell ⟨q, 3, none⟩ (.int .i64 3)).setCell ⟨q, 4, none⟩ (.int .i64 200)).setCell ⟨q, 5, none⟩ (.int .i64 0)).setCell ⟨q, 6, none⟩ (.slice B2 37 bc2)).setCell ⟨q, 7, none⟩ (.slice L2 1 lc2)) q 35 #[.int .i64 1, .int .i64 2, .int .i64 0, .int .i64 3, .int .i64 200, .int .i64 0, .slice B2 37 bc2, .slice L2 1 lc2]) := set8 Q7.out (.int .i64 1) (.int .i64 2) (.int .i64 0) (.int .i64 3) (.int .i64 200) (.int .i64 0) (.slice B2 37 bc2) (.slice L2 1 lc2)
    have O8 := Lib.hid (O7.out.chg cg (by decide) (by decide))
    have T8 := Lib.hid (cg.ownI T7.out (by decide))
    clear bt cg hHeld L7 Q7 O7 T7 y0 f0 y1 f1 y2 f2 y3 f3 y4 f4 y5 f5 y6 f6 y7 f7
    generalize (((((((w7.setCell ⟨q, 0, none⟩ (.int .i64 1)).setCell ⟨q, 1, none⟩ (.int .i64 2)).setCell ⟨q, 2, none⟩ (.int .i64 0)).setCell ⟨q, 3, none⟩ (.int .i64 3)).setCell ⟨q, 4, none⟩ (.int .i64 200)).setCell ⟨q, 5, none⟩ (.int .i64 0)).setCell ⟨q, 6, none⟩ (.slice B2 37 bc2)).setCell ⟨q, 7, none⟩ (.slice L2 1 lc2) = w8 at *
    refine hK.out _ _ trivial (fun hHeld => ?_)
    clear hK K
    (try simp only [Act.put, List.setIfInBounds_toArray, List.set_cons_zero, List.set_cons_succ])
    refine Reg.tk 10 rfl ?_
    refine Reg.tk 11 rfl ?_
    refine wpAnyH_done (by kernel_rfl) ?_ _
    clear hHeld
    obtain ⟨m0, m1, m2, m3, m4, m5, m6, m7⟩ := eight_cells Q8.out
    have FL := Lib.hid (exFlush_any O8.out)
    obtain ⟨b, o, hTA, hc⟩ := ((Wire.gave_row T8.out (by decide)).1).cell (i := 0) (x := (17 : Int)) rfl
    subst hTA
    obtain ⟨hbt, hcc⟩ : b < w8.heap.size ∧ w8.cell? ⟨b, o, none⟩ = some (.int .i64 17) := by
      refine ⟨(OwnB.owns_lt T8.out b rfl).2, hc⟩
    have HT := Lib.hid hcc
    clear hc hcc
    go_upto_region 4 with (go_at_call 10; refine FL.out.mono ?_; rintro e w9 ⟨C, cc, N, nc, M, mc, rfl, hb⟩; have L9 := Lib.hid (L8.out.trans (hb.mono L8.out.size)); have T9 := Lib.hid ((World.cell?_of_block (hb.block b hbt)).trans HT.out); have hbt2 := Nat.lt_of_lt_of_le hbt hb.size; clear hb m0 m1 m2 m3 m4 m5 m6 m7 FL)
    have L10 : Hid (Below w.heap.size w ((w9.alloc (.cells #[.int .i64 1, .int .i64 3, .int .i64 2, .int .i64 0, .int .i64 0, .slice C 37 cc] 43)).alloc (.cells #[.int .i64 1, .int .i64 2, .int .i64 0, .int .i64 3, .int .i64 200, .int .i64 37, .slice N 0 nc, .slice M 0 mc] 35))) := Lib.hid ((L9.out.alloc L9.out.size _).alloc (by have := L9.out.size; simp; omega) _)
    have C10 : Hid (Cells ((w9.alloc (.cells #[.int .i64 1, .int .i64 3, .int .i64 2, .int .i64 0, .int .i64 0, .slice C 37 cc] 43)).alloc (.cells #[.int .i64 1, .int .i64 2, .int .i64 0, .int .i64 3, .int .i64 200, .int .i64 37, .slice N 0 nc, .slice M 0 mc] 35)) w9.heap.size 43 #[.int .i64 1, .int .i64 3, .int .i64 2, .int .i64 0, .int .i64 0, .slice C 37 cc]) := Lib.hid (Cells.alloc (Cells.new _ _ _) _)
    have P10 : Hid (Cells ((w9.alloc (.cells #[.int .i64 1, .int .i64 3, .int .i64 2, .int .i64 0, .int .i64 0, .slice C 37 cc] 43)).alloc (.cells #[.int .i64 1, .int .i64 2, .int .i64 0, .int .i64 3, .int .i64 200, .int .i64 37, .slice N 0 nc, .slice M 0 mc] 35)) (w9.heap.size + 1) 35 #[.int .i64 1, .int .i64 2, .int .i64 0, .int .i64 3, .int .i64 200, .int .i64 37, .slice N 0 nc, .slice M 0 mc]) := by
      have := Cells.new (w9.alloc (.cells #[.int .i64 1, .int .i64 3, .int .i64 2, .int .i64 0, .int .i64 0, .slice C 37 cc] 43)) #[.int .i64 1, .int .i64 2, .int .i64 0, .int .i64 3, .int .i64 200, .int .i64 37, .slice N 0 nc, .slice M 0 mc] 35
      rw [World.size_alloc] at this
      exact this
    have T10 : Hid (((w9.alloc (.cells #[.int .i64 1, .int .i64 3, .int .i64 2, .int .i64 0, .int .i64 0, .slice C 37 cc] 43)).alloc (.cells #[.int .i64 1, .int .i64 2, .int .i64 0, .int .i64 3, .int .i64 200, .int .i64 37, .slice N 0 nc, .slice M 0 mc] 35)).cell? ⟨b, o, none⟩ = some (.int .i64 17)) := Lib.hid ((World.cell?_of_block (((((Below.refl w9.heap.size w9).alloc (Nat.le_refl _) _).alloc (by simp) _).block b hbt2))).trans T9.out)
    generalize (w9.alloc (.cells #[.int .i64 1, .int .i64 3, .int .i64 2, .int .i64 0, .int .i64 0, .slice C 37 cc] 43)).alloc (.cells #[.int .i64 1, .int .i64 2, .int .i64 0, .int .i64 3, .int .i64 200, .int .i64 37, .slice N 0 nc, .slice M 0 mc] 35) = w10 at *
    generalize w9.heap.size = p at *
    obtain ⟨c0, c1, c2, c3, c4, c5⟩ := six_cells C10.out
    obtain ⟨p0, p1, p2, p3, p4, p5, p6, p7⟩ := eight_cells P10.out
    have t0 := T10.out
    go_quiet (fail)
    go_wp2_with fail
    go_ret
    exact ⟨rfl, below_drewN L10.out _⟩
  · skip
    go_simp
    have bb : Below w4.heap.size w4 (w4.alloc (.cells (madeCells #[.int .u8 0] 16) 5)) := (Below.refl _ w4).alloc (Nat.le_refl _) _
    have D5 := Lib.hid (made16 w4)
    have L5 := Lib.hid (L4.out.trans (bb.mono L4.out.size))
    have Q5 := Lib.hid (Cells.below Q4.out bb)
    have O5 := Lib.hid (OwnP.below O4.out bb)
    obtain ⟨g, hg⟩ : ∃ p, p = w4.heap.size := ⟨_, rfl⟩
    rw [← hg] at D5
    rw [← hg]
    have Gg : Hid (g = w4.heap.size) := hg
    clear bb hHeld hg
    clear L4 Q4 O4 
    generalize w4.alloc (.cells (madeCells #[.int .u8 0] 16) 5) = w5 at *
    refine hK.out _ _ (trivial) (fun hHeld => ?_)
    clear hK K
    (try simp only [Act.put, List.setIfInBounds_toArray, List.set_cons_zero, List.set_cons_succ])
    refine Reg.tk 2 rfl ?_
    refine Reg.step2 0 3 rfl rfl (by kernel_rfl) (by rfl) (by rfl) (fun K hK => ?_) (fun K hK => ?_)
    · skip
      obtain ⟨m0, m1, m2, m3, m4, m5, m6, m7⟩ := eight_cells Q5.out
      go_simp
      refine hK.out _ _ trivial (fun hHeld => ?_)
      clear hK K m0 m1 m2 m3 m4 m5 m6 m7
      (try simp only [Act.put, List.setIfInBounds_toArray, List.set_cons_zero, List.set_cons_succ])
      refine Reg.step 3 rfl (by kernel_rfl) (by rfl) (fun K hK => ?_)
      go_simp
      have bb : Below w5.heap.size w5 (w5.alloc (.cells #[.int .i64 1, .int .i64 0, .int .i64 1, .int .i64 0, .int .i64 0, .int .i64 0, .slice (some ⟨g, 0, none⟩) 16 16] 57)) := (Below.refl _ w5).alloc (Nat.le_refl _) _
      have R6 := Lib.hid (show RowS cellsOf 7 (w5.alloc (.cells #[.int .i64 1, .int .i64 0, .int .i64 1, .int .i64 0, .int .i64 0, .int .i64 0, .slice (some ⟨g, 0, none⟩) 16 16] 57)) (some ⟨w5.heap.size, 0, none⟩) 1 1 [⟨exR, some ⟨g, 0, none⟩, 16⟩] from row_oneR (w := w5) (y := ⟨exR, some ⟨g, 0, none⟩, 16⟩) rfl)
      have L6 := Lib.hid (L5.out.trans (bb.mono L5.out.size))
      have Q6 := Lib.hid (Cells.below Q5.out bb)
      have O6 := Lib.hid (OwnP.below O5.out bb)
      have D6 := Lib.hid (Row.below D5.out bb)
      obtain ⟨r, hr⟩ : ∃ p, p = w5.heap.size := ⟨_, rfl⟩
      rw [← hr] at R6
      rw [← hr]
      have Gr : Hid (r = w5.heap.size) := hr
      clear bb hHeld hr
      clear L5 Q5 O5 D5 
      generalize w5.alloc (.cells #[.int .i64 1, .int .i64 0, .int .i64 1, .int .i64 0, .int .i64 0, .int .i64 0, .slice (some ⟨g, 0, none⟩) 16 16] 57) = w6 at *
      refine hK.out _ _ (trivial) (fun hHeld => ?_)
      clear hK K
      (try simp only [Act.put, List.setIfInBounds_toArray, List.set_cons_zero, List.set_cons_succ])
      refine Reg.step 4 rfl (by kernel_rfl) (by rfl) (fun K hK => ?_)
      go_simp
      refine (exAdd_any O6.out R6.out D6.out).mono ?_
      rintro e w7 ⟨B2, bc2, L2, lc2, ys2, T, td, rfl, hO, hT, hb⟩
      have L7 := Lib.hid (L6.out.trans (hb.mono L6.out.size))
      have Q7 := Lib.hid (Cells.below Q6.out hb)
      have O7 := Lib.hid (OwnP.below O6.out hb)
      have D7 := Lib.hid (Row.below D6.out hb)
      have R7 := Lib.hid (RowS.below R6.out hb)
      clear O7 D7 R7
      have O7 := Lib.hid (hO.mono L6.out.size)
      have T7 := Lib.hid (hT.mono L6.out.size)
      clear hb hHeld hO hT
      clear L6 Q6 O6 D6 R6 
      refine hK.out _ _ (trivial) (fun hHeld => ?_)
      clear hK K
      (try simp only [Act.put, List.setIfInBounds_toArray, List.set_cons_zero, List.set_cons_succ])
      refine Reg.tk 5 rfl ?_
      refine Reg.tk 6 rfl ?_
      refine Reg.tk 7 rfl ?_
      refine Reg.tk 8 rfl ?_
      have y0 := Cells.cell Q7.out 0
      have f0 := Cells.frozen Q7.out 0
      have y1 := Cells.cell Q7.out 1
      have f1 := Cells.frozen Q7.out 1
      have y2 := Cells.cell Q7.out 2
      have f2 := Cells.frozen Q7.out 2
      have y3 := Cells.cell Q7.out 3
      have f3 := Cells.frozen Q7.out 3
      have y4 := Cells.cell Q7.out 4
      have f4 := Cells.frozen Q7.out 4
      have y5 := Cells.cell Q7.out 5
      have f5 := Cells.frozen Q7.out 5
      have y6 := Cells.cell Q7.out 6
      have f6 := Cells.frozen Q7.out 6
      have y7 := Cells.cell Q7.out 7
      have f7 := Cells.frozen Q7.out 7
      refine Reg.step 9 rfl (by kernel_rfl) (by rfl) (fun K hK => ?_)
      go_simp
      have bt := mov8 w7 q (.int .i64 1) (.int .i64 2) (.int .i64 0) (.int .i64 3) (.int .i64 200) (.int .i64 0) (.slice B2 37 bc2) (.slice L2 1 lc2)
      unfold set8W at bt
      have cg := Chg.mov Q7.out bt
      have L8 := Lib.hid (L7.out.trans (bt.up L7.out.size GQ.out))
      have Q8 : Hid (Cells ((((((((w7.setCell ⟨q, 0, none⟩ (.int .i64 1)).setCell ⟨q, 1, none⟩ (.int .i64 2)).setCell ⟨q, 2, none⟩ (.int .i64 0)).setCell ⟨q, 3, none⟩ (.int .i64 3)).setCell ⟨q, 4, none⟩ (.int .i64 200)).setCell ⟨q, 5, none⟩ (.int .i64 0)).setCell ⟨q, 6, none⟩ (.slice B2 37 bc2)).setCell ⟨q, 7, none⟩ (.slice L2 1 lc2)) q 35 #[.int .i64 1, .int .i64 2, .int .i64 0, .int .i64 3, .int .i64 200, .int .i64 0, .slice B2 37 bc2, .slice L2 1 lc2]) := set8 Q7.out (.int .i64 1) (.int .i64 2) (.int .i64 0) (.int .i64 3) (.int .i64 200) (.int .i64 0) (.slice B2 37 bc2) (.slice L2 1 lc2)
      have O8 := Lib.hid (O7.out.chg cg (by decide) (by decide))
      have T8 := Lib.hid (cg.ownI T7.out (by decide))
      clear bt cg hHeld L7 Q7 O7 T7 y0 f0 y1 f1 y2 f2 y3 f3 y4 f4 y5 f5 y6 f6 y7 f7
      generalize (((((((w7.setCell ⟨q, 0, none⟩ (.int .i64 1)).setCell ⟨q, 1, none⟩ (.int .i64 2)).setCell ⟨q, 2, none⟩ (.int .i64 0)).setCell ⟨q, 3, none⟩ (.int .i64 3)).setCell ⟨q, 4, none⟩ (.int .i64 200)).setCell ⟨q, 5, none⟩ (.int .i64 0)).setCell ⟨q, 6, none⟩ (.slice B2 37 bc2)).setCell ⟨q, 7, none⟩ (.slice L2 1 lc2) = w8 at *
      refine hK.out _ _ trivial (fun hHeld => ?_)
      clear hK K
      (try simp only [Act.put, List.setIfInBounds_toArray, List.set_cons_zero, List.set_cons_succ])
      refine Reg.tk 10 rfl ?_
      refine Reg.tk 11 rfl ?_
      refine wpAnyH_done (by kernel_rfl) ?_ _
      clear hHeld
      obtain ⟨m0, m1, m2, m3, m4, m5, m6, m7⟩ := eight_cells Q8.out
      have FL := Lib.hid (exFlush_any O8.out)
      obtain ⟨b, o, hTA, hc⟩ := ((Wire.gave_row T8.out (by decide)).1).cell (i := 0) (x := (17 : Int)) rfl
      subst hTA
      obtain ⟨hbt, hcc⟩ : b < w8.heap.size ∧ w8.cell? ⟨b, o, none⟩ = some (.int .i64 17) := by
        refine ⟨(OwnB.owns_lt T8.out b rfl).2, hc⟩
      have HT := Lib.hid hcc
      clear hc hcc
      go_upto_region 4 with (go_at_call 10; refine FL.out.mono ?_; rintro e w9 ⟨C, cc, N, nc, M, mc, rfl, hb⟩; have L9 := Lib.hid (L8.out.trans (hb.mono L8.out.size)); have T9 := Lib.hid ((World.cell?_of_block (hb.block b hbt)).trans HT.out); have hbt2 := Nat.lt_of_lt_of_le hbt hb.size; clear hb m0 m1 m2 m3 m4 m5 m6 m7 FL)
      have L10 : Hid (Below w.heap.size w ((w9.alloc (.cells #[.int .i64 1, .int .i64 3, .int .i64 2, .int .i64 0, .int .i64 0, .slice C 37 cc] 43)).alloc (.cells #[.int .i64 1, .int .i64 2, .int .i64 0, .int .i64 3, .int .i64 200, .int .i64 37, .slice N 0 nc, .slice M 0 mc] 35))) := Lib.hid ((L9.out.alloc L9.out.size _).alloc (by have := L9.out.size; simp; omega) _)
      have C10 : Hid (Cells ((w9.alloc (.cells #[.int .i64 1, .int .i64 3, .int .i64 2, .int .i64 0, .int .i64 0, .slice C 37 cc] 43)).alloc (.cells #[.int .i64 1, .int .i64 2, .int .i64 0, .int .i64 3, .int .i64 200, .int .i64 37, .slice N 0 nc, .slice M 0 mc] 35)) w9.heap.size 43 #[.int .i64 1, .int .i64 3, .int .i64 2, .int .i64 0, .int .i64 0, .slice C 37 cc]) := Lib.hid (Cells.alloc (Cells.new _ _ _) _)
      have P10 : Hid (Cells ((w9.alloc (.cells #[.int .i64 1, .int .i64 3, .int .i64 2, .int .i64 0, .int .i64 0, .slice C 37 cc] 43)).alloc (.cells #[.int .i64 1, .int .i64 2, .int .i64 0, .int .i64 3, .int .i64 200, .int .i64 37, .slice N 0 nc, .slice M 0 mc] 35)) (w9.heap.size + 1) 35 #[.int .i64 1, .int .i64 2, .int .i64 0, .int .i64 3, .int .i64 200, .int .i64 37, .slice N 0 nc, .slice M 0 mc]) := by
        have := Cells.new (w9.alloc (.cells #[.int .i64 1, .int .i64 3, .int .i64 2, .int .i64 0, .int .i64 0, .slice C 37 cc] 43)) #[.int .i64 1, .int .i64 2, .int .i64 0, .int .i64 3, .int .i64 200, .int .i64 37, .slice N 0 nc, .slice M 0 mc] 35
        rw [World.size_alloc] at this
        exact this
      have T10 : Hid (((w9.alloc (.cells #[.int .i64 1, .int .i64 3, .int .i64 2, .int .i64 0, .int .i64 0, .slice C 37 cc] 43)).alloc (.cells #[.int .i64 1, .int .i64 2, .int .i64 0, .int .i64 3, .int .i64 200, .int .i64 37, .slice N 0 nc, .slice M 0 mc] 35)).cell? ⟨b, o, none⟩ = some (.int .i64 17)) := Lib.hid ((World.cell?_of_block (((((Below.refl w9.heap.size w9).alloc (Nat.le_refl _) _).alloc (by simp) _).block b hbt2))).trans T9.out)
      generalize (w9.alloc (.cells #[.int .i64 1, .int .i64 3, .int .i64 2, .int .i64 0, .int .i64 0, .slice C 37 cc] 43)).alloc (.cells #[.int .i64 1, .int .i64 2, .int .i64 0, .int .i64 3, .int .i64 200, .int .i64 37, .slice N 0 nc, .slice M 0 mc] 35) = w10 at *
      generalize w9.heap.size = p at *
      obtain ⟨c0, c1, c2, c3, c4, c5⟩ := six_cells C10.out
      obtain ⟨p0, p1, p2, p3, p4, p5, p6, p7⟩ := eight_cells P10.out
      have t0 := T10.out
      go_quiet (fail)
      go_wp2_with fail
      go_ret
      exact ⟨rfl, below_drewN L10.out _⟩
    · skip
      go_simp
      have bb : Below w5.heap.size w5 (w5.alloc (.cells #[.int .i64 1, .int .i64 0, .int .i64 1, .int .i64 0, .int .i64 0, .int .i64 0, .slice (some ⟨g, 0, none⟩) 16 16] 57)) := (Below.refl _ w5).alloc (Nat.le_refl _) _
      have R6 := Lib.hid (show RowS cellsOf 7 (w5.alloc (.cells #[.int .i64 1, .int .i64 0, .int .i64 1, .int .i64 0, .int .i64 0, .int .i64 0, .slice (some ⟨g, 0, none⟩) 16 16] 57)) (some ⟨w5.heap.size, 0, none⟩) 1 1 [⟨exR, some ⟨g, 0, none⟩, 16⟩] from row_oneR (w := w5) (y := ⟨exR, some ⟨g, 0, none⟩, 16⟩) rfl)
      have L6 := Lib.hid (L5.out.trans (bb.mono L5.out.size))
      have Q6 := Lib.hid (Cells.below Q5.out bb)
      have O6 := Lib.hid (OwnP.below O5.out bb)
      have D6 := Lib.hid (Row.below D5.out bb)
      obtain ⟨r, hr⟩ : ∃ p, p = w5.heap.size := ⟨_, rfl⟩
      rw [← hr] at R6
      rw [← hr]
      have Gr : Hid (r = w5.heap.size) := hr
      clear bb hHeld hr
      clear L5 Q5 O5 D5 
      generalize w5.alloc (.cells #[.int .i64 1, .int .i64 0, .int .i64 1, .int .i64 0, .int .i64 0, .int .i64 0, .slice (some ⟨g, 0, none⟩) 16 16] 57) = w6 at *
      refine hK.out _ _ (trivial) (fun hHeld => ?_)
      clear hK K
      (try simp only [Act.put, List.setIfInBounds_toArray, List.set_cons_zero, List.set_cons_succ])
      obtain ⟨m0, m1, m2, m3, m4, m5, m6, m7⟩ := eight_cells Q6.out
      refine Reg.step 0 rfl (by kernel_rfl) (by rfl) (fun K hK => ?_)
      go_simp
      refine hK.out _ _ trivial (fun hHeld => ?_)
      clear hK K m0 m1 m2 m3 m4 m5 m6 m7
      (try simp only [Act.put, List.setIfInBounds_toArray, List.set_cons_zero, List.set_cons_succ])
      refine Reg.step 4 rfl (by kernel_rfl) (by rfl) (fun K hK => ?_)
      go_simp
      refine (exAdd_any O6.out R6.out D6.out).mono ?_
      rintro e w7 ⟨B2, bc2, L2, lc2, ys2, T, td, rfl, hO, hT, hb⟩
      have L7 := Lib.hid (L6.out.trans (hb.mono L6.out.size))
      have Q7 := Lib.hid (Cells.below Q6.out hb)
      have O7 := Lib.hid (OwnP.below O6.out hb)
      have D7 := Lib.hid (Row.below D6.out hb)
      have R7 := Lib.hid (RowS.below R6.out hb)
      clear O7 D7 R7
      have O7 := Lib.hid (hO.mono L6.out.size)
      have T7 := Lib.hid (hT.mono L6.out.size)
      clear hb hHeld hO hT
      clear L6 Q6 O6 D6 R6 
      refine hK.out _ _ (trivial) (fun hHeld => ?_)
      clear hK K
      (try simp only [Act.put, List.setIfInBounds_toArray, List.set_cons_zero, List.set_cons_succ])
      refine Reg.tk 5 rfl ?_
      refine Reg.tk 6 rfl ?_
      refine Reg.tk 7 rfl ?_
      refine Reg.tk 8 rfl ?_
      have y0 := Cells.cell Q7.out 0
      have f0 := Cells.frozen Q7.out 0
      have y1 := Cells.cell Q7.out 1
      have f1 := Cells.frozen Q7.out 1
      have y2 := Cells.cell Q7.out 2
      have f2 := Cells.frozen Q7.out 2
      have y3 := Cells.cell Q7.out 3
      have f3 := Cells.frozen Q7.out 3
      have y4 := Cells.cell Q7.out 4
      have f4 := Cells.frozen Q7.out 4
      have y5 := Cells.cell Q7.out 5
      have f5 := Cells.frozen Q7.out 5
      have y6 := Cells.cell Q7.out 6
      have f6 := Cells.frozen Q7.out 6
      have y7 := Cells.cell Q7.out 7
      have f7 := Cells.frozen Q7.out 7
      refine Reg.step 9 rfl (by kernel_rfl) (by rfl) (fun K hK => ?_)
      go_simp
      have bt := mov8 w7 q (.int .i64 1) (.int .i64 2) (.int .i64 0) (.int .i64 3) (.int .i64 200) (.int .i64 0) (.slice B2 37 bc2) (.slice L2 1 lc2)
      unfold set8W at bt
      have cg := Chg.mov Q7.out bt
      have L8 := Lib.hid (L7.out.trans (bt.up L7.out.size GQ.out))
      have Q8 : Hid (Cells ((((((((w7.setCell ⟨q, 0, none⟩ (.int .i64 1)).setCell ⟨q, 1, none⟩ (.int .i64 2)).setCell ⟨q, 2, none⟩ (.int .i64 0)).setCell ⟨q, 3, none⟩ (.int .i64 3)).setCell ⟨q, 4, none⟩ (.int .i64 200)).setCell ⟨q, 5, none⟩ (.int .i64 0)).setCell ⟨q, 6, none⟩ (.slice B2 37 bc2)).setCell ⟨q, 7, none⟩ (.slice L2 1 lc2)) q 35 #[.int .i64 1, .int .i64 2, .int .i64 0, .int .i64 3, .int .i64 200, .int .i64 0, .slice B2 37 bc2, .slice L2 1 lc2]) := set8 Q7.out (.int .i64 1) (.int .i64 2) (.int .i64 0) (.int .i64 3) (.int .i64 200) (.int .i64 0) (.slice B2 37 bc2) (.slice L2 1 lc2)
      have O8 := Lib.hid (O7.out.chg cg (by decide) (by decide))
      have T8 := Lib.hid (cg.ownI T7.out (by decide))
      clear bt cg hHeld L7 Q7 O7 T7 y0 f0 y1 f1 y2 f2 y3 f3 y4 f4 y5 f5 y6 f6 y7 f7
      generalize (((((((w7.setCell ⟨q, 0, none⟩ (.int .i64 1)).setCell ⟨q, 1, none⟩ (.int .i64 2)).setCell ⟨q, 2, none⟩ (.int .i64 0)).setCell ⟨q, 3, none⟩ (.int .i64 3)).setCell ⟨q, 4, none⟩ (.int .i64 200)).setCell ⟨q, 5, none⟩ (.int .i64 0)).setCell ⟨q, 6, none⟩ (.slice B2 37 bc2)).setCell ⟨q, 7, none⟩ (.slice L2 1 lc2) = w8 at *
      refine hK.out _ _ trivial (fun hHeld => ?_)
      clear hK K
      (try simp only [Act.put, List.setIfInBounds_toArray, List.set_cons_zero, List.set_cons_succ])
      refine Reg.tk 10 rfl ?_
      refine Reg.tk 11 rfl ?_
      refine wpAnyH_done (by kernel_rfl) ?_ _
      clear hHeld
      obtain ⟨m0, m1, m2, m3, m4, m5, m6, m7⟩ := eight_cells Q8.out
      have FL := Lib.hid (exFlush_any O8.out)
      obtain ⟨b, o, hTA, hc⟩ := ((Wire.gave_row T8.out (by decide)).1).cell (i := 0) (x := (17 : Int)) rfl
      subst hTA
      obtain ⟨hbt, hcc⟩ : b < w8.heap.size ∧ w8.cell? ⟨b, o, none⟩ = some (.int .i64 17) := by
        refine ⟨(OwnB.owns_lt T8.out b rfl).2, hc⟩
      have HT := Lib.hid hcc
      clear hc hcc
      go_upto_region 4 with (go_at_call 10; refine FL.out.mono ?_; rintro e w9 ⟨C, cc, N, nc, M, mc, rfl, hb⟩; have L9 := Lib.hid (L8.out.trans (hb.mono L8.out.size)); have T9 := Lib.hid ((World.cell?_of_block (hb.block b hbt)).trans HT.out); have hbt2 := Nat.lt_of_lt_of_le hbt hb.size; clear hb m0 m1 m2 m3 m4 m5 m6 m7 FL)
      have L10 : Hid (Below w.heap.size w ((w9.alloc (.cells #[.int .i64 1, .int .i64 3, .int .i64 2, .int .i64 0, .int .i64 0, .slice C 37 cc] 43)).alloc (.cells #[.int .i64 1, .int .i64 2, .int .i64 0, .int .i64 3, .int .i64 200, .int .i64 37, .slice N 0 nc, .slice M 0 mc] 35))) := Lib.hid ((L9.out.alloc L9.out.size _).alloc (by have := L9.out.size; simp; omega) _)
      have C10 : Hid (Cells ((w9.alloc (.cells #[.int .i64 1, .int .i64 3, .int .i64 2, .int .i64 0, .int .i64 0, .slice C 37 cc] 43)).alloc (.cells #[.int .i64 1, .int .i64 2, .int .i64 0, .int .i64 3, .int .i64 200, .int .i64 37, .slice N 0 nc, .slice M 0 mc] 35)) w9.heap.size 43 #[.int .i64 1, .int .i64 3, .int .i64 2, .int .i64 0, .int .i64 0, .slice C 37 cc]) := Lib.hid (Cells.alloc (Cells.new _ _ _) _)
      have P10 : Hid (Cells ((w9.alloc (.cells #[.int .i64 1, .int .i64 3, .int .i64 2, .int .i64 0, .int .i64 0, .slice C 37 cc] 43)).alloc (.cells #[.int .i64 1, .int .i64 2, .int .i64 0, .int .i64 3, .int .i64 200, .int .i64 37, .slice N 0 nc, .slice M 0 mc] 35)) (w9.heap.size + 1) 35 #[.int .i64 1, .int .i64 2, .int .i64 0, .int .i64 3, .int .i64 200, .int .i64 37, .slice N 0 nc, .slice M 0 mc]) := by
        have := Cells.new (w9.alloc (.cells #[.int .i64 1, .int .i64 3, .int .i64 2, .int .i64 0, .int .i64 0, .slice C 37 cc] 43)) #[.int .i64 1, .int .i64 2, .int .i64 0, .int .i64 3, .int .i64 200, .int .i64 37, .slice N 0 nc, .slice M 0 mc] 35
        rw [World.size_alloc] at this
        exact this
      have T10 : Hid (((w9.alloc (.cells #[.int .i64 1, .int .i64 3, .int .i64 2, .int .i64 0, .int .i64 0, .slice C 37 cc] 43)).alloc (.cells #[.int .i64 1, .int .i64 2, .int .i64 0, .int .i64 3, .int .i64 200, .int .i64 37, .slice N 0 nc, .slice M 0 mc] 35)).cell? ⟨b, o, none⟩ = some (.int .i64 17)) := Lib.hid ((World.cell?_of_block (((((Below.refl w9.heap.size w9).alloc (Nat.le_refl _) _).alloc (by simp) _).block b hbt2))).trans T9.out)
      generalize (w9.alloc (.cells #[.int .i64 1, .int .i64 3, .int .i64 2, .int .i64 0, .int .i64 0, .slice C 37 cc] 43)).alloc (.cells #[.int .i64 1, .int .i64 2, .int .i64 0, .int .i64 3, .int .i64 200, .int .i64 37, .slice N 0 nc, .slice M 0 mc] 35) = w10 at *
      generalize w9.heap.size = p at *
      obtain ⟨c0, c1, c2, c3, c4, c5⟩ := six_cells C10.out
      obtain ⟨p0, p1, p2, p3, p4, p5, p6, p7⟩ := eight_cells P10.out
      have t0 := T10.out
      go_quiet (fail)
      go_wp2_with fail
      go_ret
      exact ⟨rfl, below_drewN L10.out _⟩
end Pk
end Go.Proofs.YtedandbkdjmfhaaGreat
/-
  REMAINDERS THAT ARE BROUGHT ABOVE 0: (x % n + n) % n. (No program is named here.)
-/
namespace Go.Proofs.YtedandbkdjmfhaaGreat
namespace Cut
theorem tmod_bounds (cut : Int) (n : Nat) (hn : 0 < n) : -(n : Int) < Int.tmod cut n ∧ Int.tmod cut n < (n : Int) := by
  rcases Int.le_total 0 cut with h | h
  · rw [Int.tmod_eq_emod_of_nonneg h]
    have h1 := Int.emod_nonneg cut (b := (n : Int)) (by omega)
    have h2 := Int.emod_lt_of_pos cut (b := (n : Int)) (by omega)
    omega
  · have e : cut = -(-cut) := by omega
    rw [e, Int.neg_tmod, Int.tmod_eq_emod_of_nonneg (by omega)]
    have h1 := Int.emod_nonneg (-cut) (b := (n : Int)) (by omega)
    have h2 := Int.emod_lt_of_pos (-cut) (b := (n : Int)) (by omega)
    omega
theorem cut_at (cut : Int) (n : Nat) (hn : 0 < n) : ∃ (r : Int) (j : Nat), Int.tmod cut n = r ∧ -(n : Int) < r ∧ r < (n : Int) ∧ Int.tmod (r + n) n = j ∧ (r + n) % (n : Int) = j ∧ j < n := by
  obtain ⟨h1, h2⟩ := tmod_bounds cut n hn
  have h3 := Int.emod_nonneg (Int.tmod cut n + n) (b := (n : Int)) (by omega)
  have h4 := Int.emod_lt_of_pos (Int.tmod cut n + n) (b := (n : Int)) (by omega)
  refine ⟨_, ((Int.tmod cut n + n) % (n : Int)).toNat, rfl, h1, h2, ?_, by omega, by omega⟩
  rw [Int.tmod_eq_emod_of_nonneg (by omega)]
  omega
end Cut
end Go.Proofs.YtedandbkdjmfhaaGreat
/-
  ONE RECORD ADDED; remainders.
-/
namespace Go.Proofs.YtedandbkdjmfhaaGreat
open Go.RowKit Mem Box
namespace Pk
open Seg (Hdr Rc Rv cellsOf cellsOf_len RowR hdV recV fits nums hnums nn goods frame headX recX frames check recB headB)
theorem rowR_one {w : World} {y : Rv} {r : Nat} (hr : RowS cellsOf 7 w (some ⟨r, 0, none⟩) 1 1 [y]) (hd : Row cb w y.D y.r.data.length y.c y.r.data) : RowR w (some ⟨r, 0, none⟩) 1 1 [y] :=
  rowR_of hr (by omega) (by intro x hx; rw [List.mem_singleton.1 hx]; exact hd)
/-- One record added: what comes of it. -/
theorem add1_any {x : Px} {y : Rv} {r : Nat} {w : World} (hx : PackAt w x) (ho : OkP x.p) (hr : RowS cellsOf 7 w (some ⟨r, 0, none⟩) 1 1 [y]) (hd : Row cb w y.D y.r.data.length y.c y.r.data) (hf : fits (nums y.r)) :
    Calls Tryz.prog 9 #[pxv x, .slice (some ⟨r, 0, none⟩) 1 1] w (GaveA w (addP x.p [y.r])) :=
  add_any hx ho (rowR_one hr hd) (by intro r hr; rw [List.mem_singleton.1 hr]; exact hf)
theorem add1_bad {x : Px} {y : Rv} {r : Nat} {w : World} (hx : PackAt w x) (ho : OkP x.p) (hr : RowS cellsOf 7 w (some ⟨r, 0, none⟩) 1 1 [y]) (hd : Row cb w y.D y.r.data.length y.c y.r.data) (hf : fits (nums y.r)) {e : Nat} (he : addP x.p [y.r] = (zeroP, [], e)) :
    Calls Tryz.prog 9 #[pxv x, .slice (some ⟨r, 0, none⟩) 1 1] w fun en w' => ∃ B bc L lc T d, en = .returned (.tuple #[.agg #[.int .i64 0, .int .i64 0, .int .i64 0, .int .i64 0, .int .i64 0, .int .i64 0, .slice B 0 bc, .slice L 0 lc], .slice T 0 d, .int .i64 (e : Int)]) ∧ Below w.heap.size w w' := by
  have h := add1_any hx ho hr hd hf
  rw [he] at h
  refine h.mono ?_
  rintro en w' ⟨⟨p, B, bc, L, lc, ys⟩, T, k, d, rfl, hp, hO, hT, hb⟩
  obtain rfl : p = zeroP := hp
  obtain rfl : 0 = k := hT.len
  exact ⟨B, bc, L, lc, T, d, rfl, hb⟩
theorem add1_ok {x : Px} {y : Rv} {r : Nat} {w : World} (hx : PackAt w x) (ho : OkP x.p) (hr : RowS cellsOf 7 w (some ⟨r, 0, none⟩) 1 1 [y]) (hd : Row cb w y.D y.r.data.length y.c y.r.data) (hf : fits (nums y.r)) (hc : check y.r = 0) (h2 : fitsP x.p [y.r]) :
    Calls Tryz.prog 9 #[pxv x, .slice (some ⟨r, 0, none⟩) 1 1] w fun en w' => ∃ Y T d, en = .returned (.tuple #[pxv Y, .slice T 1 d, .int .i64 0]) ∧ Y.p = moreP x.p [y.r] ∧ OwnP w.heap.size w' Y ∧ Mem.Owns ci 3 w.heap.size w' (.slice T 1 d) 1 [x.p.at_ + (x.p.buf.length : Int) + placeR y.r] ∧ Below w.heap.size w w' := by
  have h := add1_any hx ho hr hd hf
  rw [addP_ok (by rw [errB_one]; exact hc) h2] at h
  refine h.mono ?_
  rintro en w' ⟨Y, T, k, d, rfl, hp, hO, hT, hb⟩
  obtain rfl : 1 = k := hT.len
  exact ⟨Y, T, d, rfl, hp, hO, hT, hb⟩
theorem cut2000 (z : Int) : ∃ (r : Int) (j : Nat), Int.tmod z 2000 = r ∧ -2000 < r ∧ r < 2000 ∧ Int.tmod (r + 2000) 2000 = j ∧ (r + 2000) % 2000 = j ∧ j < 2000 := Cut.cut_at z 2000 (by omega)
theorem fitsP_one (p : Pp) (r : Rc) : fitsP p [r] ↔ p.at_ + (p.buf.length : Int) + (flen r : Int) ≤ p.cap := by unfold fitsP; rw [frames_one]
theorem more_buf (p : Pp) (r : Rc) : (moreP p [r]).buf.length = p.buf.length + flen r := by
  show (p.buf ++ frames [r]).length = _
  rw [List.length_append, frames_one]
theorem more_l (p : Pp) (r : Rc) : (moreP p [r]).l.length = p.l.length + 1 := by
  show (p.l ++ [r]).length = _
  simp
end Pk
end Go.Proofs.YtedandbkdjmfhaaGreat
/-
  WHAT STANDS APART FROM BYTES THAT GROW; one record added behind others.
-/
namespace Go.Proofs.YtedandbkdjmfhaaGreat
open Go.RowKit Mem Box
namespace Pk
open Seg (Hdr Rc Rv cellsOf cellsOf_len RowR hdV recV fits nums hnums nn goods frame headX recX frames check recB headB)
/-- No bytes of the pack lie in that row's block. -/
def Far (Y : Px) (s : Value) : Prop := ((Value.slice Y.B Y.p.buf.length Y.bc).ownBlock = none ∨ (Value.slice Y.B Y.p.buf.length Y.bc).ownBlock ≠ s.ownBlock) ∧ ∀ y ∈ Y.xs, (Value.slice y.D y.r.data.length y.c).ownBlock = none ∨ (Value.slice y.D y.r.data.length y.c).ownBlock ≠ s.ownBlock
theorem far_nil (Y : Px) : Far Y (.slice none 0 0) := by
  have h : ∀ o : Option Nat, o = none ∨ o ≠ (Value.slice none 0 0).ownBlock := fun o => by
    rcases o with _ | q
    · exact .inl rfl
    · exact .inr (by intro h; cases h)
  exact ⟨h _, fun y _ => h _⟩
theorem far_new {base : Nat} {w : World} {Y : Px} {s s' : Value} (h : Far Y s) (ho : OwnP base w Y) (hn : s'.ownBlock = s.ownBlock ∨ s'.ownBlock = some w.heap.size) : Far Y s' := by
  have one : ∀ (A : Option Addr) (n c : Nat) (l : List (BitVec 8)), Mem.Owns cb 5 base w (.slice A n c) n l → ((Value.slice A n c).ownBlock = none ∨ (Value.slice A n c).ownBlock ≠ s.ownBlock) → ((Value.slice A n c).ownBlock = none ∨ (Value.slice A n c).ownBlock ≠ s'.ownBlock) := fun A n c l h1 h2 => by
    rcases h2 with h2 | h2
    · exact .inl h2
    · rcases hn with hn | hn
      · exact .inr (by rw [hn]; exact h2)
      · refine .inr fun e => ?_
        rw [hn] at e
        have := (OwnB.owns_lt h1 _ e).2
        omega
  exact ⟨one _ _ _ _ ho.buf h.1, fun y hy => one _ _ _ _ (ho.data y hy) (h.2 y hy)⟩
theorem far_later {base : Nat} {w w' : World} {Y : Px} {s : Value} {n : Nat} {l : List (BitVec 8)} (hs : Mem.Owns cb 5 base w s n l) (ho : OwnP w.heap.size w' Y) : Far Y s := by
  have one : ∀ (A : Option Addr) (n c : Nat) (l : List (BitVec 8)), Mem.Owns cb 5 w.heap.size w' (.slice A n c) n l → ((Value.slice A n c).ownBlock = none ∨ (Value.slice A n c).ownBlock ≠ s.ownBlock) := fun A n c l h1 => by
    rcases e : (Value.slice A n c).ownBlock with _ | q
    · exact .inl rfl
    · refine .inr fun h => ?_
      have h2 := (OwnB.owns_lt hs q h.symm).2
      have h3 := (OwnB.owns_lt h1 q e).1
      omega
  exact ⟨one _ _ _ _ ho.buf, fun y hy => one _ _ _ _ (ho.data y hy)⟩
/-- A pack stays where bytes of another row grow. -/
theorem OwnP.bytes {base b n c : Nat} {w w' : World} {Y : Px} {A : Option Addr} {l : List (BitVec 8)} (ho : OwnP base w Y) (hs : Mem.Owns cb 5 b w (.slice A n c) n l) (hf : Far Y (.slice A n c)) (hg : w.grownBy w' (Value.slice A n c).ownBlock) : OwnP base w' Y := by
  have cg : Chg 5 _ w w' := Chg.own (OwnB.toS hs) hg
  exact ⟨OwnB.back (cg.owns_ne (OwnB.toS ho.buf) hf.1), cg.owns ho.recs (by decide), fun y hy => OwnB.back (cg.owns_ne (OwnB.toS (ho.data y hy)) (hf.2 y hy)), ho.off, ho.eq⟩
/-- Two rows in other blocks. -/
def Ap (s2 s : Value) : Prop := s2.ownBlock = none ∨ s2.ownBlock ≠ s.ownBlock
theorem ap_nil (s2 : Value) : Ap s2 (.slice none 0 0) := by
  unfold Ap
  rcases s2.ownBlock with _ | q
  · exact .inl rfl
  · exact .inr (by intro h; cases h)
theorem ap_new {α : Type} {f : α → Value} {e : TypeId} {base n : Nat} {w : World} {s s' s2 : Value} {l : List α} (h : Ap s2 s) (ho : Mem.Owns f e base w s2 n l) (hn : s'.ownBlock = s.ownBlock ∨ s'.ownBlock = some w.heap.size) : Ap s2 s' := by
  rcases h with h | h
  · exact .inl h
  · rcases hn with hn | hn
    · exact .inr (by rw [hn]; exact h)
    · refine .inr fun e => ?_
      rw [hn] at e
      have := (OwnB.owns_lt ho _ e).2
      omega
theorem ap_later {α β : Type} {f : α → Value} {g : β → Value} {e e' : TypeId} {base n m : Nat} {w w' : World} {s s2 : Value} {l : List α} {l' : List β} (hs : Mem.Owns f e base w s n l) (ho : Mem.Owns g e' w.heap.size w' s2 m l') : Ap s2 s := by
  unfold Ap
  rcases e : s2.ownBlock with _ | q
  · exact .inl rfl
  · refine .inr fun h => ?_
    have h2 := (OwnB.owns_lt hs q h.symm).2
    have h3 := (OwnB.owns_lt ho q e).1
    omega
theorem add_prefix_bad {p : Pp} {l : List Rc} {k : Nat} {r : Rc} {e : Nat} (hr : l[k]? = some r) (he : e ≠ 0) (h : addP (moreP p (l.take k)) [r] = (zeroP, [], e)) : (addP p l).2.2 ≠ 0 := by
  intro h0
  rcases addP_cases p l with ⟨h1, h2, h3⟩ | ⟨e', he', _, h3⟩
  · have hc : check r = 0 := errB_zero h1 r (List.mem_of_getElem? hr)
    have ht : l.take (k + 1) = l.take k ++ [r] := by rw [List.take_add_one, hr]; rfl
    have hf : fitsP p (l.take k ++ [r]) := by
      rw [← ht]
      have e : l = l.take (k + 1) ++ l.drop (k + 1) := (List.take_append_drop _ _).symm
      rw [e] at h2
      exact fitsP_left h2
    rw [addP_ok (by rw [errB_one]; exact hc) ((fitsP_more _ _ _).2 hf)] at h
    have := congrArg (fun t => t.2.2) h
    exact he this.symm
  · rw [h3] at h0
    exact he' h0
theorem add_ok_one {r : Rc} (h1 : errB [r] = 0) : check r = 0 := by rw [← errB_one]; exact h1
end Pk
end Go.Proofs.YtedandbkdjmfhaaGreat
/-
  THE DEVICE THAT PackerLands WRITES TO, IN PLAIN: two zones, the second holds the bytes.
-/
namespace Go.Proofs.YtedandbkdjmfhaaGreat
open Go.RowKit Mem Zon Zns
namespace Pk

def zoneOf (M E : Int) (D : List B8) : Zn := ⟨bif (D.length : Int) == 0 then 0 else bif (D.length : Int) == M then 4 else 1, E, D⟩
def devP (M E : Int) (D : List B8) : Dv := ⟨M, 1, 1, [nilZ, zoneOf M E D]⟩
theorem mayB_zone {M E : Int} {D : List B8} (h1 : 1 ≤ M) (hD : (D.length : Int) ≤ M) : mayB (zoneOf M E D).st (zoneOf M E D).len M = true := by
  unfold zoneOf Zn.len mayB
  dsimp only
  rcases h0 : ((D.length : Int) == 0)
  · rcases hm : ((D.length : Int) == M)
    · rw [beq_eq_false_iff_ne] at h0 hm
      have e1 : decide ((D.length : Int) < M) = true := decide_eq_true (by omega)
      have e2 : ((D.length : Int) == 0) = false := beq_eq_false_iff_ne.2 h0
      simp only [cond_false, e1, e2]
      rfl
    · have e1 : decide ((D.length : Int) ≤ M) = true := decide_eq_true hD
      simp only [cond_false, cond_true, e1]
      rfl
  · rfl
theorem open_zone (M E : Int) (D : List B8) : openB (zoneOf M E D) = (!((D.length : Int) == 0) && !((D.length : Int) == M)) := by
  unfold openB zoneOf
  dsimp only
  rcases ((D.length : Int) == 0) <;> rcases ((D.length : Int) == M) <;> rfl
theorem act_zone (M E : Int) (D : List B8) : actB (zoneOf M E D) = (!((D.length : Int) == 0) && !((D.length : Int) == M)) := by
  unfold actB
  rw [open_zone]
  unfold zoneOf
  dsimp only
  rcases ((D.length : Int) == 0) <;> rcases ((D.length : Int) == M) <;> rfl
theorem cO_dev (M E : Int) (D : List B8) : (cO (devP M E D).zs : Int) ≤ 1 := by
  unfold cO devP
  dsimp only
  rw [List.countP_cons, List.countP_cons, List.countP_nil]
  have : openB nilZ = false := rfl
  rw [this]
  split <;> simp
theorem cA_dev (M E : Int) (D : List B8) : (cA (devP M E D).zs : Int) ≤ 1 := by
  unfold cA devP
  dsimp only
  rw [List.countP_cons, List.countP_cons, List.countP_nil]
  have : actB nilZ = false := rfl
  rw [this]
  split <;> simp
theorem dev_bounds {M : Int} (h1 : 1 ≤ M) (h2 : M ≤ 65536) : boundsB 2 M 1 1 = true := bounds_parts.2 (by omega)
theorem dev_ok {M E : Int} {D : List B8} (h1 : 1 ≤ M) (h2 : M ≤ 65536) (hE : 0 ≤ E) (hD : (D.length : Int) ≤ M) : okD (devP M E D) = true := by
  refine okD_parts.2 ⟨dev_bounds h1 h2, fun z hz => ?_, cO_dev M E D, cA_dev M E D⟩
  show okB z M = true
  have hz' : z ∈ [nilZ, zoneOf M E D] := hz
  rw [List.mem_cons, List.mem_singleton] at hz'
  rcases hz' with rfl | rfl
  · rw [ok_iff h1 h2 (show (0 : Int) ≤ 0 by omega)]
    rfl
  · rw [ok_iff h1 h2 hE]
    exact mayB_zone h1 hD
theorem dev_new {M : Int} (h1 : 1 ≤ M) (h2 : M ≤ 65536) : newP 2 M 1 1 = devP M 0 [] := by
  unfold newP
  rw [dev_bounds h1 h2]
  rfl
theorem dev_fence {M E : Int} (h1 : 1 ≤ M) (h2 : M ≤ 65536) (hE : 0 < E) : doP (devP M 0 []) ⟨7, 1, E, 0, 0, []⟩ = (devP M E [], ⟨0, 0, []⟩) := by
  unfold doP
  rw [dev_ok h1 h2 (Int.le_refl 0) (by simp; omega)]
  have e : decide (E ≤ (0 : Int)) = false := decide_eq_false (by omega)
  show (Dv.mk M 1 1 (fenceP [nilZ, zoneOf M 0 []] 1 ⟨7, 1, E, 0, 0, []⟩).1, (fenceP [nilZ, zoneOf M 0 []] 1 ⟨7, 1, E, 0, 0, []⟩).2) = _
  unfold fenceP
  show (Dv.mk M 1 1 (bif decide (E ≤ (0 : Int)) then _ else _ : List Zn × Dn).1, (bif decide (E ≤ (0 : Int)) then _ else _ : List Zn × Dn).2) = _
  rw [e]
  rfl
theorem dev_fence0 {M : Int} (h1 : 1 ≤ M) (h2 : M ≤ 65536) : doP (devP M 0 []) ⟨7, 1, 0, 0, 0, []⟩ = (devP M 0 [], ⟨42, 0, []⟩) := by
  unfold doP
  rw [dev_ok h1 h2 (Int.le_refl 0) (by simp; omega)]
  rfl
theorem dev_step (M E : Int) (D : List B8) (d off n : Int) (b : List B8) (hk : knownB d = true) (h7 : (d == 7) = false) : stepP M 1 1 [nilZ, zoneOf M E D] ⟨d, 1, E, off, n, b⟩ = actP M 1 1 [nilZ, zoneOf M E D] 1 ⟨d, 1, E, off, n, b⟩ := by
  unfold stepP
  dsimp only
  rw [hk, h7]
  have e : (E == (atI [nilZ, zoneOf M E D] (1 : Int).toNat).fc) = true := beq_iff_eq.2 rfl
  rw [e]
  rfl
theorem toCl_dev {M E : Int} {D : List B8} (hD : (D.length : Int) ≠ M) : toCl 1 1 [nilZ, zoneOf M E D] (zoneOf M E D) = (-1, 0) := by
  unfold toCl
  rw [open_zone, act_zone]
  have hm : ((D.length : Int) == M) = false := beq_eq_false_iff_ne.2 hD
  rcases h0 : ((D.length : Int) == 0)
  · rw [hm]; rfl
  · have hc : cA [nilZ, zoneOf M E D] = 0 := by
      unfold cA
      rw [List.countP_cons, List.countP_cons, List.countP_nil, act_zone, h0]
      rfl
    have ho : cO [nilZ, zoneOf M E D] = 0 := by
      unfold cO
      rw [List.countP_cons, List.countP_cons, List.countP_nil, open_zone, h0]
      rfl
    rw [hc, ho]
    rfl
theorem appZ_dev {M E : Int} {D b : List B8} (hb : 0 < b.length) : appZ (zoneOf M E D) M b = zoneOf M E (D ++ b) := by
  unfold appZ zoneOf Zn.len stB
  dsimp only
  have e0 : (((D ++ b).length : Int) == 0) = false := beq_eq_false_iff_ne.2 (by rw [List.length_append]; omega)
  have e1 : ((D ++ b).length : Int) = (D.length : Int) + (b.length : Int) := by rw [List.length_append]; omega
  rw [e0, e1]
  rcases ((D.length : Int) == 0) <;> rcases ((D.length : Int) == M) <;> rcases ((D.length : Int) + (b.length : Int) == M) <;> rfl
theorem dev_append {M E : Int} {D b : List B8} (h1 : 1 ≤ M) (h2 : M ≤ 65536) (hE : 0 ≤ E) (hb : 0 < b.length) (hD : (D.length : Int) + (b.length : Int) ≤ M) :
    doP (devP M E D) ⟨1, 1, E, 0, 0, b⟩ = (devP M E (D ++ b), ⟨0, (D.length : Int), []⟩) := by
  unfold doP
  rw [dev_ok h1 h2 hE (by omega)]
  show (Dv.mk M 1 1 (stepP M 1 1 [nilZ, zoneOf M E D] ⟨1, 1, E, 0, 0, b⟩).1, (stepP M 1 1 [nilZ, zoneOf M E D] ⟨1, 1, E, 0, 0, b⟩).2) = _
  rw [dev_step M E D 1 0 0 b rfl rfl]
  show (Dv.mk M 1 1 (Zns.addP M 1 1 [nilZ, zoneOf M E D] 1 ⟨1, 1, E, 0, 0, b⟩).1, (Zns.addP M 1 1 [nilZ, zoneOf M E D] 1 ⟨1, 1, E, 0, 0, b⟩).2) = _
  have ha : atI [nilZ, zoneOf M E D] 1 = zoneOf M E D := rfl
  have hok : okB (zoneOf M E D) M = true := by rw [ok_iff h1 h2 hE]; exact mayB_zone h1 (by omega)
  have hst : ((zoneOf M E D).st == 4) = false := by
    unfold zoneOf
    have hm : ((D.length : Int) == M) = false := beq_eq_false_iff_ne.2 (by omega)
    dsimp only
    rw [hm]
    rcases ((D.length : Int) == 0) <;> rfl
  have he : appErr (zoneOf M E D) M b.length = 0 := by
    unfold appErr
    rw [hok, hst, beq_eq_false_iff_ne.2 (by omega : b.length ≠ 0), decide_eq_false (show ¬ M < (zoneOf M E D).len + (b.length : Int) by show ¬ M < (D.length : Int) + (b.length : Int); omega)]
    rfl
  have hp : putO 1 1 [nilZ, zoneOf M E D] 1 (appZ (zoneOf M E D) M b) = ([nilZ, zoneOf M E (D ++ b)], 0) := by
    unfold putO
    rw [ha, toCl_dev (by omega), appZ_dev hb]
    rfl
  have : Zns.addP M 1 1 [nilZ, zoneOf M E D] 1 ⟨1, 1, E, 0, 0, b⟩ = ([nilZ, zoneOf M E (D ++ b)], ⟨0, (D.length : Int), []⟩) := by
    unfold Zns.addP
    dsimp only
    rw [ha, he, hp]
    rfl
  rw [this]
  rfl
theorem dev_read {M E : Int} {D : List B8} {off n : Int} (h1 : 1 ≤ M) (h2 : M ≤ 65536) (hE : 0 ≤ E) (hD : (D.length : Int) ≤ M) (ho : 0 ≤ off) (hn : 0 ≤ n) (hon : off + n ≤ (D.length : Int)) :
    doP (devP M E D) ⟨2, 1, E, off, n, []⟩ = (devP M E D, ⟨0, 0, (D.drop off.toNat).take n.toNat⟩) := by
  unfold doP
  rw [dev_ok h1 h2 hE hD]
  show (Dv.mk M 1 1 (stepP M 1 1 [nilZ, zoneOf M E D] ⟨2, 1, E, off, n, []⟩).1, (stepP M 1 1 [nilZ, zoneOf M E D] ⟨2, 1, E, off, n, []⟩).2) = _
  rw [dev_step M E D 2 off n [] rfl rfl]
  show (devP M E D, Dn.mk (Zon.errOf (readB (zoneOf M E D) off n)) 0 (readL (zoneOf M E D) off n)) = _
  have hr : readB (zoneOf M E D) off n = true := by
    unfold readB
    rw [decide_eq_false (by omega : ¬ off < 0), decide_eq_false (by omega : ¬ n < 0), decide_eq_false (show ¬ (zoneOf M E D).len - off < n by show ¬ (D.length : Int) - off < n; omega)]
    rfl
  unfold readL
  rw [hr]
  rfl
/-! ### What is packed and landed -/
/-- Behind the first batches: what stands in the zone and what waits make up the header and the records that were taken. -/
structure Ld (h : Seg.Hdr) (M : Int) (ws : List Seg.Rc) (D : List B8) (p : Pp) : Prop where
  pk : p = ⟨h, 1, M, (D.length : Int), p.buf, []⟩
  all : D ++ p.buf = Seg.frame (Seg.headX h) ++ Seg.frames ws
  len : (D.length : Int) + (p.buf.length : Int) ≤ M
  ok : ∀ r ∈ ws, Seg.check r = 0
section
variable {h : Seg.Hdr} {M : Int} {ws : List Seg.Rc} {D : List B8} {p : Pp}
theorem Ld.at_ (i : Ld h M ws D p) : p.at_ = (D.length : Int) := by rw [i.pk]
theorem Ld.hh (i : Ld h M ws D p) : p.h = h := by rw [i.pk]
theorem Ld.zz (i : Ld h M ws D p) : p.zone = 1 := by rw [i.pk]
theorem Ld.cc (i : Ld h M ws D p) : p.cap = M := by rw [i.pk]
theorem Ld.ll (i : Ld h M ws D p) : p.l = [] := by rw [i.pk]
theorem Ld.okp (i : Ld h M ws D p) (hM : M ≤ 65536) : OkP p := ⟨by rw [i.at_]; omega, by rw [i.at_, i.cc]; exact i.len, by rw [i.cc]; exact hM, by rw [i.ll]; simp, by rw [i.ll]; simp⟩
theorem Ld.sum (i : Ld h M ws D p) : (D.length : Int) + (p.buf.length : Int) = ((Seg.frame (Seg.headX h)).length : Int) + ((Seg.frames ws).length : Int) := by
  have := congrArg List.length i.all
  rw [List.length_append, List.length_append] at this
  omega
theorem Ld.begun (hl : ((Seg.frame (Seg.headX h)).length : Int) ≤ M) : Ld h M [] [] ⟨h, 1, M, 0, Seg.frame (Seg.headX h), []⟩ := ⟨rfl, by simp [frames_nil], by simpa using hl, by simp⟩
/-- A batch is added; then its bytes are flushed and land. -/
theorem Ld.added (i : Ld h M ws D p) {rs : List Seg.Rc} (h1 : errB rs = 0) (h2 : fitsP p rs) : Ld h M (ws ++ rs) (D ++ (p.buf ++ Seg.frames rs)) (behindP (moreP p rs)) := by
  have hb : (moreP p rs).buf = p.buf ++ Seg.frames rs := rfl
  unfold fitsP at h2
  rw [i.at_, i.cc] at h2
  refine ⟨?_, ?_, ?_, ?_⟩
  · unfold behindP
    rw [hb, show (moreP p rs).h = p.h from rfl, show (moreP p rs).zone = p.zone from rfl, show (moreP p rs).cap = p.cap from rfl, show (moreP p rs).at_ = p.at_ from rfl, i.hh, i.zz, i.cc, i.at_]
    simp only [List.length_append, Pp.mk.injEq, and_true, true_and]
    omega
  · show (D ++ (p.buf ++ Seg.frames rs)) ++ [] = _
    rw [List.append_nil, Seg.frames_append, ← List.append_assoc, i.all, List.append_assoc]
  · show ((D ++ (p.buf ++ Seg.frames rs)).length : Int) + 0 ≤ M
    simp only [List.length_append]
    omega
  · intro r hr
    rcases List.mem_append.1 hr with h | h
    · exact i.ok r h
    · exact errB_zero h1 r h
theorem Ld.flushed (i : Ld h M ws D p) : Ld h M ws (D ++ p.buf) (behindP p) := by
  refine ⟨?_, by show (D ++ p.buf) ++ [] = _; rw [List.append_nil]; exact i.all, ?_, i.ok⟩
  · unfold behindP
    rw [i.hh, i.zz, i.cc, i.at_]
    simp only [List.length_append, Pp.mk.injEq, and_true, true_and]
    omega
  · show ((D ++ p.buf).length : Int) + 0 ≤ M
    have := i.len
    rw [List.length_append]
    omega
/-- Between Add and Flush: what waits may hold what was added. -/
structure Lw (h : Seg.Hdr) (M : Int) (ws : List Seg.Rc) (D : List B8) (p : Pp) : Prop where
  hh : p.h = h
  zz : p.zone = 1
  cc : p.cap = M
  at_ : p.at_ = (D.length : Int)
  all : D ++ p.buf = Seg.frame (Seg.headX h) ++ Seg.frames ws
  okp : OkP p
  ok : ∀ r ∈ ws, Seg.check r = 0
  emp : p.buf.length = 0 → p.l = []
theorem Ld.lw (i : Ld h M ws D p) (hM : M ≤ 65536) : Lw h M ws D p := ⟨i.hh, i.zz, i.cc, i.at_, i.all, i.okp hM, i.ok, fun _ => i.ll⟩
theorem Ld.more (i : Ld h M ws D p) (hM : M ≤ 65536) {rs : List Seg.Rc} (h1 : errB rs = 0) (h2 : fitsP p rs) : Lw h M (ws ++ rs) D (moreP p rs) := by
  refine ⟨i.hh, i.zz, i.cc, i.at_, ?_, (i.okp hM).more h1 h2, (i.added h1 h2).ok, fun h0 => ?_⟩
  · show D ++ (p.buf ++ Seg.frames rs) = _
    rw [Seg.frames_append, ← List.append_assoc, i.all, List.append_assoc]
  · have hb : (moreP p rs).buf = p.buf ++ Seg.frames rs := rfl
    rw [hb, List.length_append] at h0
    have h3 := frames_ge rs
    have h4 : rs = [] := List.eq_nil_of_length_eq_zero (by omega)
    show p.l ++ rs = []
    rw [i.ll, h4]; rfl
theorem Lw.some_ (i : Lw h M ws D p) : Ld h M ws (D ++ p.buf) (behindP p) := by
  refine ⟨?_, by show (D ++ p.buf) ++ [] = _; rw [List.append_nil]; exact i.all, ?_, i.ok⟩
  · unfold behindP
    rw [i.hh, i.zz, i.cc, i.at_]
    simp only [List.length_append, Pp.mk.injEq, and_true, true_and]
    omega
  · show ((D ++ p.buf).length : Int) + 0 ≤ M
    have := i.okp.room
    rw [i.at_, i.cc] at this
    rw [List.length_append]
    omega
theorem Lw.none_ (i : Lw h M ws D p) (h0 : p.buf.length = 0) : Ld h M ws D p := by
  have hr := i.okp.room
  rw [i.at_, i.cc] at hr
  refine ⟨?_, i.all, hr, i.ok⟩
  have e : p = ⟨p.h, p.zone, p.cap, p.at_, p.buf, p.l⟩ := rfl
  rw [i.hh, i.zz, i.cc, i.at_, i.emp h0] at e
  exact e
theorem Lw.fits_ (i : Lw h M ws D p) : (D.length : Int) + (p.buf.length : Int) ≤ M := by
  have hr := i.okp.room
  rwa [i.at_, i.cc] at hr
theorem Lw.count (i : Lw h M ws D p) (hM : M ≤ 65536) : ws.length ≤ 65536 := by
  have h1 := congrArg List.length i.all
  have h2 := i.fits_
  have h3 := frames_ge ws
  rw [List.length_append, List.length_append] at h1
  omega
/-- Where a record's bytes are told to stand, they stand. -/
theorem ld_place (i : Ld h M ws D p) (hb : p.buf = []) {k : Nat} {r : Seg.Rc} {o : Int} (hr : ws[k]? = some r) (ho : (places ((Seg.frame (Seg.headX h)).length : Int) ws)[k]? = some o) :
    0 ≤ o ∧ o + (r.data.length : Int) ≤ (D.length : Int) ∧ (D.drop o.toNat).take r.data.length = r.data := by
  have hall := i.all
  rw [hb, List.append_nil] at hall
  rw [places_get ws _ k r hr] at ho
  injection ho with ho
  have hk : k < ws.length := (List.getElem?_eq_some_iff.1 hr).1
  have hw : ws = ws.take k ++ r :: ws.drop (k + 1) := by
    have e : ws[k] = r := by have := List.getElem?_eq_getElem hk; rw [hr] at this; injection this with this; exact this.symm
    rw [← e, List.getElem_cons_drop hk, List.take_append_drop]
  have hD : D = (Seg.frame (Seg.headX h) ++ Seg.frames (ws.take k)) ++ (Seg.frame (Seg.recX r) ++ Seg.frames (ws.drop (k + 1))) := by
    rw [hall]
    conv => lhs; rw [hw]
    rw [Seg.frames_append, Seg.frames_cons, List.append_assoc]
  have hp1 := placeR_ge r
  have hp2 := placeR_le r
  unfold flen at hp2
  have hlen : (D.length : Int) = ((Seg.frame (Seg.headX h)).length : Int) + ((Seg.frames (ws.take k)).length : Int) + ((Seg.frame (Seg.recX r)).length : Int) + ((Seg.frames (ws.drop (k + 1))).length : Int) := by
    rw [hD]
    simp only [List.length_append]
    omega
  refine ⟨by omega, by omega, ?_⟩
  have ho' : o.toNat = (Seg.frame (Seg.headX h) ++ Seg.frames (ws.take k)).length + (placeR r).toNat := by
    rw [List.length_append]
    omega
  rw [ho', ← List.drop_drop]
  conv => lhs; rw [hD]
  rw [List.drop_left, List.drop_append_of_le_length (by omega), List.take_append_of_le_length (by rw [List.length_drop]; omega)]
  exact place_data r
end
end Pk
end Go.Proofs.YtedandbkdjmfhaaGreat
