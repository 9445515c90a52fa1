/-
  SEVERAL TEXTS IN ONE FILE: PkPiece, PkCloned, PkBegin.
-/
import Derived.Test.YtedandbkdjmfhaaGreatJ18
import Derived.BigQuiet
set_option linter.unusedSimpArgs false
set_option linter.unusedVariables false
/-
  WALKS: bytes.Clone, slices.Clone of records, packer.mayBe, end, Room, frame, clonedRec.
-/
namespace Go.Proofs.YtedandbkdjmfhaaGreat
open Go.RowKit Mem Box
namespace Pk
theorem below_drewN {b : Nat} {a w : World} (h : Below b a w) (q : Nat) : Below b a (w.drewN q) := ⟨h.os, h.tape, h.output, h.size, h.block⟩
open Seg (Hdr Rc Rv cellsOf cellsOf_len RowR hdV recV fits nums hnums nn goods frame headX recX frames check recB headB)

theorem run_max2 (ts : Array TypeId) (t : TypeId) (x y : Int) (w : World) : (Builtin.max_ ts t #[.int .i64 x, .int .i64 y]).run Tryz.prog w = .ok (.int .i64 (max x y)) w := by
  have e : (Builtin.max_ ts t #[.int .i64 x, .int .i64 y]).run Tryz.prog w = .ok (.int .i64 (if y > x then y else x)) w := by
    simp [Builtin.max_, Builtin.max2, List.foldlM]
  rw [e]
  congr 2
  split <;> omega
theorem run_eql_nilB (w : World) (A : Option Addr) (n c : Nat) : (binOp .eql 32 (.slice A n c) (.slice none 0 0)).run Tryz.prog w = .ok (.bool A.isNone) w :=
  Go.run_eql_slice_nil w _ _ A n c Tryz.underlying32
theorem run_eql_nilR (w : World) (A : Option Addr) (n c : Nat) : (binOp .eql 33 (.slice A n c) (.slice none 0 0)).run Tryz.prog w = .ok (.bool A.isNone) w :=
  Go.run_eql_slice_nil w _ _ A n c Tryz.underlying33
set_option maxRecDepth 100000 in
theorem cloneB_any {A : Option Addr} {n c : Nat} {l : List (BitVec 8)} {w : World} (h : Row cb w A n c l) :
    Calls Tryz.prog 23 #[.slice A n c] w fun e w' => (∃ B d, e = .returned (.slice B n d) ∧ Mem.Owns cb 5 w.heap.size w' (.slice B n d) n l) ∧ Below w.heap.size w w' := by
  have HR := Lib.hid h
  have hb := h.big
  clear h
  have hq := fun w => run_eql_nilB w A n c
  rcases A with _ | a
  · have hn : n = 0 := by
      rcases Nat.eq_zero_or_pos n with h0 | h0
      · exact h0
      · obtain ⟨b, o, e, -⟩ := HR.out.at_ h0
        cases e
    have hl : l = [] := List.eq_nil_of_length_eq_zero (by rw [HR.out.len, hn])
    subst hn hl
    have hd : (none : Option Addr).isNone = true := rfl
    rw [hd] at hq
    go_enter Tryz.func23, Tryz.ntmps23
    go_wp2
    go_ret
    exact ⟨⟨_, _, rfl, Mem.Owns.nil _ _ _ _⟩, Below.refl _ _⟩
  · have hd : (some a).isNone = false := rfl
    rw [hd] at hq
    go_enter Tryz.func23, Tryz.ntmps23
    go_wp2_with (at_builtin
                 refine wpList_append_row cb_one Tryz.underlying32 info_byte rfl rfl (.tmp 5) (.tmp 6) rfl rfl w.heap.size _ 0 [] rfl (Mem.Owns.made cb 5 w [] (by decide) (Nat.le_refl _)) (some a) n c l rfl (HR.out.alloc _) (by omega) (by omega) (by simp) ?_
                 intro A' c' w' hown' hb'
                 have O := Lib.hid (show Mem.Owns cb 5 w.heap.size w' (.slice A' n c') n l by simpa using hown')
                 have B := Lib.hid hb'
                 clear hown' hb')
    go_ret
    exact ⟨⟨_, _, rfl, O.out⟩, ((Below.refl _ w).alloc (Nat.le_refl _) _).trans B.out⟩
theorem rowR_none {w : World} {n c : Nat} {l : List Rv} (h : RowR w none n c l) : n = 0 ∧ l = [] := by
  have hn : n = 0 := by
    rcases Nat.eq_zero_or_pos n with h0 | h0
    · exact h0
    · obtain ⟨b, o, e, -⟩ := h.at_ h0
      cases e
  exact ⟨hn, List.eq_nil_of_length_eq_zero (by rw [h.len, hn])⟩
set_option maxRecDepth 100000 in
set_option maxHeartbeats 1600000 in
theorem cloneR_any {A : Option Addr} {n c : Nat} {l : List Rv} {w : World} (h : RowR w A n c l) (hn : n ≤ 1000000) :
    Calls Tryz.prog 35 #[.slice A n c] w fun e w' => (∃ B d, e = .returned (.slice B n d) ∧ OwnRs w.heap.size w' B n d l) ∧ Below w.heap.size w w' := by
  have HR := Lib.hid h
  clear h
  have hq := fun w => run_eql_nilR w A n c
  rcases A with _ | a
  · obtain ⟨rfl, rfl⟩ := rowR_none HR.out
    have hd : (none : Option Addr).isNone = true := rfl
    rw [hd] at hq
    go_enter Tryz.func35, Tryz.ntmps35
    go_wp2
    go_ret
    exact ⟨⟨_, _, rfl, OwnS.Owns.nil _ _ _ _ _⟩, Below.refl _ _⟩
  · have hd : (some a).isNone = false := rfl
    rw [hd] at hq
    have hmade : Hid (OwnS.Owns cellsOf 7 57 w.heap.size (w.alloc (.cells #[] 57)) (.slice (some ⟨w.heap.size, 0, none⟩) 0 0) 0 []) := ⟨World.ownsRow_made w #[] 0 (Nat.le_refl _) (Nat.zero_le _) (by simp), rfl⟩
    go_enter Tryz.func35, Tryz.ntmps35
    go_wp2_with (at_builtin
                 refine OwnS.wpList_append fitR Tryz.underlying33 info_recP rfl (by omega) rfl (.tmp 5) (.tmp 6) rfl rfl w.heap.size _ 0 [] rfl hmade.out (some a) n c l rfl (Box.RowS.alloc (rowS_of HR.out) _) (by omega) (by simp) ?_
                 intro A' c' w' hown' hb' _
                 have O := Lib.hid (show OwnS.Owns cellsOf 7 57 w.heap.size w' (.slice A' n c') n l by simpa using hown')
                 have B := Lib.hid (OwnS.below_row hmade.out hb' (by simp))
                 clear hown' hb')
    go_ret
    exact ⟨⟨_, _, rfl, O.out⟩, ((Below.refl _ w).alloc (Nat.le_refl _) _).trans B.out⟩

set_option maxRecDepth 100000 in
set_option maxHeartbeats 800000 in
theorem mayBe_any (z m : Int) (w : World) :
    Calls Tryz.prog 15 #[.int .i64 z, .int .i64 m] w fun e w' => e = .returned (.bool (decide (mayZ z m))) ∧ w' = w := by
  go_enter Tryz.func15, Tryz.ntmps15
  go_wp2
  all_goals (go_ret; refine ⟨ret_bool ?_, rfl⟩)
  all_goals (rw [Bool.eq_iff_iff, decide_eq_true_iff (p := mayZ z m)]; unfold mayZ; simp only [Bool.and_eq_true, decide_eq_true_eq, Bool.false_eq_true]; constructor <;> intro hq <;> first | omega | exact hq.elim)

set_option maxRecDepth 100000 in
set_option maxHeartbeats 800000 in
/-- A pack's end; its parts need lie nowhere. -/
theorem end_any (x : Px) (w : World) (h0 : 0 ≤ x.p.at_) (h1 : x.p.at_ ≤ 1099511627776) (h2 : x.p.buf.length ≤ 1099511627776) :
    Calls Tryz.prog 21 #[pxv x] w fun e w' => e = .returned (.int .i64 (x.p.at_ + (x.p.buf.length : Int))) ∧ Below w.heap.size w w' := by
  have hw1 : IntKind.i64.wrap (x.p.at_ + (x.p.buf.length : Int)) = x.p.at_ + (x.p.buf.length : Int) := by rw [IntKind.wrap_i64]; omega
  unfold pxv
  go_enter Tryz.func21, Tryz.ntmps21
  go_wp2
  go_ret
  exact ⟨rfl, (Below.refl _ w).alloc (Nat.le_refl _) _⟩

set_option maxRecDepth 100000 in
set_option maxHeartbeats 1600000 in
theorem room_any (x : Px) (w : World) (ho : OkP x.p) :
    Calls Tryz.prog 20 #[pxv x] w fun e w' => e = .returned (.int .i64 (roomP x.p)) ∧ Below w.heap.size w w' := by
  have HE := fun w => Lib.hid (end_any x w ho.at0 (by have := ho.at_le; omega) (by have := ho.buf_le; omega))
  have hw1 : IntKind.i64.wrap (x.p.cap - (x.p.at_ + (x.p.buf.length : Int))) = x.p.cap - (x.p.at_ + (x.p.buf.length : Int)) := by have := ho.at0; have := ho.room; have := ho.cap; rw [IntKind.wrap_i64]; omega
  have hmx := fun ts t w => run_max2 ts t 0 (x.p.cap - (x.p.at_ + (x.p.buf.length : Int))) w
  have L1 : Hid (Below w.heap.size w (w.alloc (.cells #[.int .i64 x.p.h.host, .int .i64 x.p.h.epoch, .int .i64 x.p.h.seq, .int .i64 x.p.zone, .int .i64 x.p.cap, .int .i64 x.p.at_, .slice x.B x.p.buf.length x.bc, .slice x.L x.p.l.length x.lc] 35))) := (Below.refl _ w).alloc (Nat.le_refl _) _
  have X1 : Hid (PBox (w.alloc (.cells #[.int .i64 x.p.h.host, .int .i64 x.p.h.epoch, .int .i64 x.p.h.seq, .int .i64 x.p.zone, .int .i64 x.p.cap, .int .i64 x.p.at_, .slice x.B x.p.buf.length x.bc, .slice x.L x.p.l.length x.lc] 35)) w.heap.size x) := Cells.new _ _ _
  have hr : roomP x.p = max 0 (x.p.cap - (x.p.at_ + (x.p.buf.length : Int))) := rfl
  unfold pxv at *
  rw [hr]
  clear hr ho
  go_enter Tryz.func20, Tryz.ntmps20
  go_upto_region 1 with fail
  generalize w.alloc (.cells #[.int .i64 x.p.h.host, .int .i64 x.p.h.epoch, .int .i64 x.p.h.seq, .int .i64 x.p.zone, .int .i64 x.p.cap, .int .i64 x.p.at_, .slice x.B x.p.buf.length x.bc, .slice x.L x.p.l.length x.lc] 35) = w1 at *
  refine wp_region_held_drew (S := fun W => eightC W w.heap.size (.int .i64 x.p.h.host) (.int .i64 x.p.h.epoch) (.int .i64 x.p.h.seq) (.int .i64 x.p.zone) (.int .i64 x.p.cap) (.int .i64 x.p.at_) (.slice x.B x.p.buf.length x.bc) (.slice x.L x.p.l.length x.lc)) (by kernel_rfl) (eight_cells (Cells.drew X1.out)) (fun hHeld => ?_)
  have L2 := Lib.hid L1.out.drew
  have X2 : Hid (PBox w1.drew w.heap.size x) := Cells.drew X1.out
  unfold eightC at *
  generalize w1.drew = w2 at *
  clear L1 X1
  refine Reg.tk 0 rfl ?_
  refine Reg.tk 1 rfl ?_
  refine Reg.tk 2 rfl ?_
  refine Reg.step 3 rfl (by kernel_rfl) (by rfl) (fun K hK => ?_)
  go_simp
  refine (HE w2).out.mono ?_
  rintro e w3 ⟨rfl, hb⟩
  have L3 := Lib.hid (L2.out.trans (hb.mono L2.out.size))
  have X3 : Hid (PBox w3 w.heap.size x) := Cells.below X2.out hb
  clear hb hHeld L2 X2 HE
  have hHeld := eight_cells X3.out
  unfold eightC at hHeld
  refine hK.out _ _ hHeld (fun _ => ?_)
  clear hK K
  (try simp only [Act.put, List.setIfInBounds_toArray, List.set_cons_zero, List.set_cons_succ])
  refine Reg.tk 4 rfl ?_
  refine Reg.step 5 rfl (by kernel_rfl) (by rfl) (fun K hK => ?_)
  go_simp
  refine hK.out _ _ hHeld (fun _ => ?_)
  clear hK K
  (try simp only [Act.put, List.setIfInBounds_toArray, List.set_cons_zero, List.set_cons_succ])
  refine Reg.tk 6 rfl ?_
  refine wpAnyH_done (by kernel_rfl) ?_ _
  go_wp2_with fail
  go_ret
  exact ⟨rfl, L3.out⟩

/-- A frame of a record that may be, and where its bytes stand in it. -/
def GaveF (w : World) (r : Rc) (e : Ending) (w' : World) : Prop := ∃ X d, e = .returned (.tuple #[.slice X (flen r) d, .int .i64 (placeR r), .int .i64 0]) ∧ Mem.Owns cb 5 w.heap.size w' (.slice X (flen r) d) (flen r) (frame (recX r)) ∧ Below w.heap.size w w'
set_option maxRecDepth 100000 in
set_option maxHeartbeats 1600000 in
theorem frame_ok {y : Rv} {w : World} (hf : fits (nums y.r)) (hc : check y.r = 0) (h : Row cb w y.D y.r.data.length y.c y.r.data) :
    Calls Tryz.prog 19 #[rvV y] w (GaveF w y.r) := by
  have H := Lib.hid h
  have HR := fun w (h : Row cb w y.D y.r.data.length y.c y.r.data) => Lib.hid (Seg.rec_outer hf h)
  have hrb : recB y.r = (frame (recX y.r), 0) := by unfold recB; rw [if_pos hc]
  rw [hrb] at HR
  have hfl := flen_le hf hc
  have hp0 := placeR_ge y.r
  have hp1 := placeR_le y.r
  have hw1 : IntKind.i64.wrap ((flen y.r : Int) - 4) = (flen y.r : Int) - 4 := by have := flen_ge y.r; rw [IntKind.wrap_i64]; omega
  have hw2 : IntKind.i64.wrap ((flen y.r : Int) - 4 - (y.r.data.length : Int)) = placeR y.r := by rw [IntKind.wrap_i64]; omega
  have L1 : Hid (Below w.heap.size w (w.alloc (.cells #[.int .i64 y.r.kind, .int .i64 y.r.lba, .int .i64 y.r.n, .int .i64 y.r.ver, .int .i64 y.r.zone, .int .i64 y.r.off, .slice y.D y.r.data.length y.c] 57))) := (Below.refl _ w).alloc (Nat.le_refl _) _
  have X1 : Hid (RBox (w.alloc (.cells #[.int .i64 y.r.kind, .int .i64 y.r.lba, .int .i64 y.r.n, .int .i64 y.r.ver, .int .i64 y.r.zone, .int .i64 y.r.off, .slice y.D y.r.data.length y.c] 57)) w.heap.size y) := Cells.new _ _ _
  have HGR := fun (X : Option Addr) (k d : Nat) (b : Nat) (w : World) (h : Mem.Owns cb 5 b w (.slice X k d) k (frame (recX y.r))) => show k = flen y.r from (Wire.gave_row h (by unfold flen at hfl; omega)).2
  unfold rvV recV GaveF at *
  clear hf hc h hrb hp0 hp1 hfl
  generalize flen y.r = fl at *
  generalize placeR y.r = pl at *
  go_enter Tryz.func19, Tryz.ntmps19
  go_upto_region 1 with fail
  generalize w.alloc (.cells #[.int .i64 y.r.kind, .int .i64 y.r.lba, .int .i64 y.r.n, .int .i64 y.r.ver, .int .i64 y.r.zone, .int .i64 y.r.off, .slice y.D y.r.data.length y.c] 57) = w1 at *
  obtain ⟨m0, m1, m2, m3, m4, m5, m6⟩ := seven_cells X1.out
  go_upto_region 2 with (go_at_call 36; refine (HR w1 (H.out.below L1.out)).out.mono ?_; rintro e w2 ⟨X, k, d, rfl, hO, hb⟩; have L2 := Lib.hid (L1.out.trans (hb.mono L1.out.size)); have X2 : Hid (RBox w2 w.heap.size y) := Cells.below X1.out hb; have O2 := Lib.hid (hO.mono L1.out.size); obtain rfl := HGR _ _ _ _ _ hO; clear hO hb m0 m1 m2 m3 m4 m5 m6 L1 X1 HR HGR; obtain ⟨m0, m1, m2, m3, m4, m5, m6⟩ := seven_cells X2.out)
  go_upto_region 4 with fail
  go_quiet (fail)
  go_wp2_with fail
  go_ret3
  have hd := fun n => below_drewN (Below.refl w2.heap.size w2) n
  exact ⟨X, d, rfl, O2.out.below (hd _), below_drewN L2.out _⟩

def GaveR (w : World) (r : Rc) (e : Ending) (w' : World) : Prop := ∃ y, e = .returned (rvV y) ∧ y.r = r ∧ OwnB1 w.heap.size w' y.D y.c y.r.data ∧ Below w.heap.size w w'
set_option maxRecDepth 100000 in
set_option maxHeartbeats 1600000 in
theorem clonedRec_any {y : Rv} {w : World} (h : Row cb w y.D y.r.data.length y.c y.r.data) :
    Calls Tryz.prog 22 #[rvV y] w (GaveR w y.r) := by
  have H := Lib.hid h
  have HB := fun W (hW : Below w.heap.size w W) => Lib.hid (cloneB_any (h.below hW))
  have L1 : Hid (Below w.heap.size w ((w.alloc (.cells #[.int .i64 y.r.kind, .int .i64 y.r.lba, .int .i64 y.r.n, .int .i64 y.r.ver, .int .i64 y.r.zone, .int .i64 y.r.off, .slice y.D y.r.data.length y.c] 57)).alloc (.cells #[.int .i64 0, .int .i64 0, .int .i64 0, .int .i64 0, .int .i64 0, .int .i64 0, .slice none 0 0] 57))) := (((Below.refl _ w).alloc (by first | exact Nat.le_refl _ | (simp; try omega)) _).alloc (by first | exact Nat.le_refl _ | (simp; try omega)) _)
  have X1 : Hid (RBox ((w.alloc (.cells #[.int .i64 y.r.kind, .int .i64 y.r.lba, .int .i64 y.r.n, .int .i64 y.r.ver, .int .i64 y.r.zone, .int .i64 y.r.off, .slice y.D y.r.data.length y.c] 57)).alloc (.cells #[.int .i64 0, .int .i64 0, .int .i64 0, .int .i64 0, .int .i64 0, .int .i64 0, .slice none 0 0] 57)) w.heap.size y) := Cells.alloc (Cells.new _ _ _) _
  have Z1 : Hid (ZRec ((w.alloc (.cells #[.int .i64 y.r.kind, .int .i64 y.r.lba, .int .i64 y.r.n, .int .i64 y.r.ver, .int .i64 y.r.zone, .int .i64 y.r.off, .slice y.D y.r.data.length y.c] 57)).alloc (.cells #[.int .i64 0, .int .i64 0, .int .i64 0, .int .i64 0, .int .i64 0, .int .i64 0, .slice none 0 0] 57)) (w.heap.size + 1)) := by
    have := Cells.new (w.alloc (.cells #[.int .i64 y.r.kind, .int .i64 y.r.lba, .int .i64 y.r.n, .int .i64 y.r.ver, .int .i64 y.r.zone, .int .i64 y.r.off, .slice y.D y.r.data.length y.c] 57)) #[.int .i64 0, .int .i64 0, .int .i64 0, .int .i64 0, .int .i64 0, .int .i64 0, .slice none 0 0] 57
    rw [World.size_alloc] at this
    exact this
  unfold rvV
  clear h
  go_enter Tryz.func22, Tryz.ntmps22
  go_upto_region 1 with fail
  generalize (w.alloc (.cells #[.int .i64 y.r.kind, .int .i64 y.r.lba, .int .i64 y.r.n, .int .i64 y.r.ver, .int .i64 y.r.zone, .int .i64 y.r.off, .slice y.D y.r.data.length y.c] 57)).alloc (.cells #[.int .i64 0, .int .i64 0, .int .i64 0, .int .i64 0, .int .i64 0, .int .i64 0, .slice none 0 0] 57) = w1 at *
  obtain ⟨m0, m1, m2, m3, m4, m5, m6⟩ := seven_cells X1.out
  obtain ⟨f0, f1, f2, f3, f4, f5, f6⟩ := seven_free X1.out
  go_upto_region 2 with (go_at_call 23; refine (HB w1 L1.out).out.mono ?_; rintro e w2 ⟨⟨B, d, rfl, hO⟩, hb⟩; have L2 := Lib.hid (L1.out.trans (hb.mono L1.out.size)); have X2 : Hid (RBox w2 w.heap.size y) := Cells.below X1.out hb; have Z2 : Hid (ZRec w2 (w.heap.size + 1)) := Cells.below Z1.out hb; have O2 := Lib.hid (hO.mono L1.out.size); clear hO hb m0 m1 m2 m3 m4 m5 m6 f0 f1 f2 f3 f4 f5 f6 L1 X1 Z1 HB; obtain ⟨m0, m1, m2, m3, m4, m5, m6⟩ := seven_cells X2.out; obtain ⟨f0, f1, f2, f3, f4, f5, f6⟩ := seven_free X2.out)
  have bt : Mov [w.heap.size] w2 (w2.setCell ⟨w.heap.size, 6, none⟩ (.slice B y.r.data.length d)) := Mov.set1 w2 (by simp) 6 _
  have L3 := Lib.hid (L2.out.trans (bt.up L2.out.size (Nat.le_refl _)))
  have X3 : Hid (RBox (w2.setCell ⟨w.heap.size, 6, none⟩ (.slice B y.r.data.length d)) w.heap.size ⟨y.r, B, d⟩) := by show Cells _ _ _ _; simpa using Cells.set_ X2.out 6 (.slice B y.r.data.length d)
  have Z3 : Hid (ZRec (w2.setCell ⟨w.heap.size, 6, none⟩ (.slice B y.r.data.length d)) (w.heap.size + 1)) := Cells.mov Z2.out bt (by simp)
  have O3 := Lib.hid ((Chg.mov X2.out bt).ownI O2.out (by decide))
  clear bt m0 m1 m2 m3 m4 m5 m6 f0 f1 f2 f3 f4 f5 f6 L2 X2 Z2 O2
  generalize w2.setCell ⟨w.heap.size, 6, none⟩ (.slice B y.r.data.length d) = w3 at *
  obtain ⟨m0, m1, m2, m3, m4, m5, m6⟩ := seven_cells X3.out
  obtain ⟨z0, z1, z2, z3, z4, z5, z6⟩ := seven_cells Z3.out
  obtain ⟨f0, f1, f2, f3, f4, f5, f6⟩ := seven_free Z3.out
  dsimp only at m0 m1 m2 m3 m4 m5 m6
  go_wp2_with fail
  have bt := mov7 w3 (w.heap.size + 1) (.int .i64 y.r.kind) (.int .i64 y.r.lba) (.int .i64 y.r.n) (.int .i64 y.r.ver) (.int .i64 y.r.zone) (.int .i64 y.r.off) (.slice B y.r.data.length d)
  have HR := set7 Z3.out (.int .i64 y.r.kind) (.int .i64 y.r.lba) (.int .i64 y.r.n) (.int .i64 y.r.ver) (.int .i64 y.r.zone) (.int .i64 y.r.off) (.slice B y.r.data.length d)
  have O4 := (Chg.mov Z3.out bt).ownI O3.out (by decide)
  refine bodyPost_ret_by (results_c0 rfl _ _ (w.heap.size + 1) _ _ _ _ rfl HR Tryz.underlying57 rfl (by kernel_rfl)) rfl ?_
  exact ⟨⟨y.r, B, d⟩, rfl, rfl, O4, L3.out.trans (bt.up L3.out.size (by omega))⟩
end Pk
end Go.Proofs.YtedandbkdjmfhaaGreat
/-
  A WALK: a pack copied whole (packer.cloned).
-/
namespace Go.Proofs.YtedandbkdjmfhaaGreat
open Go.RowKit Mem Box
namespace Pk
open Seg (Hdr Rc Rv cellsOf cellsOf_len RowR hdV recV fits nums hnums nn goods frame headX recX frames check recB headB)

def set7R (w : World) (g k : Nat) (y : Rv) : World := ((((((w.setCell ⟨g, k * 7, none⟩ (.int .i64 y.r.kind)).setCell ⟨g, k * 7 + 1, none⟩ (.int .i64 y.r.lba)).setCell ⟨g, k * 7 + 2, none⟩ (.int .i64 y.r.n)).setCell ⟨g, k * 7 + 3, none⟩ (.int .i64 y.r.ver)).setCell ⟨g, k * 7 + 4, none⟩ (.int .i64 y.r.zone)).setCell ⟨g, k * 7 + 5, none⟩ (.int .i64 y.r.off)).setCell ⟨g, k * 7 + 6, none⟩ (.slice y.D y.r.data.length y.c)
theorem put7 {base g : Nat} {w : World} {n c : Nat} {l : List Rv} (h : OwnRs base w (some ⟨g, 0, none⟩) n c l) {k : Nat} {x : Rv} (hx : l[k]? = some x) (y : Rv) (hl : x.r.data.length = y.r.data.length) : OwnRs base (set7R w g k y) (some ⟨g, 0, none⟩) n c (l.set k y) := by
  have hk := (List.getElem?_eq_some_iff.1 hx).1
  have e1 := h.put fitR hx 0 (.int .i64 y.r.kind) ⟨⟨y.r.kind, x.r.lba, x.r.n, x.r.ver, x.r.zone, x.r.off, x.r.data⟩, x.D, x.c⟩ (by omega) rfl
  rw [Nat.add_zero] at e1
  have e2 := e1.put fitR (OwnS.Owns.set_at hk _) 1 (.int .i64 y.r.lba) ⟨⟨y.r.kind, y.r.lba, x.r.n, x.r.ver, x.r.zone, x.r.off, x.r.data⟩, x.D, x.c⟩ (by omega) rfl
  rw [List.set_set] at e2
  have e3 := e2.put fitR (OwnS.Owns.set_at hk _) 2 (.int .i64 y.r.n) ⟨⟨y.r.kind, y.r.lba, y.r.n, x.r.ver, x.r.zone, x.r.off, x.r.data⟩, x.D, x.c⟩ (by omega) rfl
  rw [List.set_set] at e3
  have e4 := e3.put fitR (OwnS.Owns.set_at hk _) 3 (.int .i64 y.r.ver) ⟨⟨y.r.kind, y.r.lba, y.r.n, y.r.ver, x.r.zone, x.r.off, x.r.data⟩, x.D, x.c⟩ (by omega) rfl
  rw [List.set_set] at e4
  have e5 := e4.put fitR (OwnS.Owns.set_at hk _) 4 (.int .i64 y.r.zone) ⟨⟨y.r.kind, y.r.lba, y.r.n, y.r.ver, y.r.zone, x.r.off, x.r.data⟩, x.D, x.c⟩ (by omega) rfl
  rw [List.set_set] at e5
  have e6 := e5.put fitR (OwnS.Owns.set_at hk _) 5 (.int .i64 y.r.off) ⟨⟨y.r.kind, y.r.lba, y.r.n, y.r.ver, y.r.zone, y.r.off, x.r.data⟩, x.D, x.c⟩ (by omega) rfl
  rw [List.set_set] at e6
  have e7 := e6.put fitR (OwnS.Owns.set_at hk _) 6 (.slice y.D y.r.data.length y.c) y (by omega) rfl
  rw [List.set_set] at e7
  exact e7
theorem mov7R (w : World) (g k : Nat) (y : Rv) : Mov [g] w (set7R w g k y) := by
  have s := fun (w : World) (i : Nat) (v : Value) => Mov.set1 w (S := [g]) (q := g) (by simp) i v
  have tr := fun {a b c : World} (h : Mov [g] a b) (k : Mov [g] b c) => h.trans k (fun _ h => .inl h)
  exact tr (tr (tr (tr (tr (tr (s _ _ _) (s _ _ _)) (s _ _ _)) (s _ _ _)) (s _ _ _)) (s _ _ _)) (s _ _ _)
def sevenR (w : World) (b o : Nat) (y : Rv) : Prop :=
  w.cell? ⟨b, o, none⟩ = some (.int .i64 y.r.kind) ∧ w.cell? ⟨b, o + 1, none⟩ = some (.int .i64 y.r.lba) ∧ w.cell? ⟨b, o + 2, none⟩ = some (.int .i64 y.r.n) ∧ w.cell? ⟨b, o + 3, none⟩ = some (.int .i64 y.r.ver) ∧ w.cell? ⟨b, o + 4, none⟩ = some (.int .i64 y.r.zone) ∧ w.cell? ⟨b, o + 5, none⟩ = some (.int .i64 y.r.off) ∧ w.cell? ⟨b, o + 6, none⟩ = some (.slice y.D y.r.data.length y.c)
theorem seven_own {w : World} {base g : Nat} {n c : Nat} {l : List Rv} {k : Nat} {x : Rv} (h : OwnRs base w (some ⟨g, 0, none⟩) n c l) (hx : l[k]? = some x) : sevenR w g (k * 7) x :=
  ⟨h.cell fitR hx 0 _ rfl, h.cell fitR hx 1 _ rfl, h.cell fitR hx 2 _ rfl, h.cell fitR hx 3 _ rfl, h.cell fitR hx 4 _ rfl, h.cell fitR hx 5 _ rfl, h.cell fitR hx 6 _ rfl⟩
theorem off_later {base : Nat} {w w' : World} {y : Rv} {B : Option Addr} {n c : Nat} {l : List (BitVec 8)} (hB : Mem.Owns cb 5 base w (.slice B n c) n l) (hy : OwnB1 w.heap.size w' y.D y.c y.r.data) : Off y B n c := by
  unfold Off
  rcases e : (Value.slice y.D y.r.data.length y.c).ownBlock with _ | q
  · exact .inl rfl
  · refine .inr fun h => ?_
    have h1 := (OwnB.owns_lt hB q h.symm).2
    have h2 := (OwnB.owns_lt hy q e).1
    omega
theorem set_next {α : Type} (ys : List α) (l : List α) {k : Nat} (hk : ys.length = k) {x : α} (hx : l[k]? = some x) (z : α) : (ys ++ l.drop k)[k]? = some x ∧ (ys ++ l.drop k).set k z = (ys ++ [z]) ++ l.drop (k + 1) := by
  subst hk
  have hlt := (List.getElem?_eq_some_iff.1 hx).1
  have e : l.drop ys.length = x :: l.drop (ys.length + 1) := by
    rw [List.drop_eq_getElem_cons hlt]
    congr 1
    exact (List.getElem?_eq_some_iff.1 hx).2
  rw [e]
  refine ⟨by rw [List.getElem?_append_right (Nat.le_refl _), Nat.sub_self]; rfl, ?_⟩
  rw [List.set_append_right _ _ (Nat.le_refl _), Nat.sub_self, List.append_assoc]
  rfl
/-- A pack that a call gave, of its own. -/
def GaveP (w : World) (p : Pp) (e : Ending) (w' : World) : Prop := ∃ y, e = .returned (pxv y) ∧ y.p = p ∧ OwnP w.heap.size w' y ∧ Below w.heap.size w w'
set_option maxRecDepth 100000 in
set_option maxHeartbeats 12800000 in
theorem cloned_any {x : Px} {w : World} (h : PackAt w x) (ho : OkP x.p) : Calls Tryz.prog 18 #[pxv x] w (GaveP w x.p) := by
  have H := Lib.hid h
  have HL : Hid (x.xs.length = x.p.l.length) := h.recs.len
  have HN : Hid (x.p.l.length ≤ 1000000) := by have := ho.l_le; show _ ≤ _; omega
  have HB := fun W (hW : Below w.heap.size w W) => Lib.hid (cloneB_any (h.buf.below hW))
  have HC := fun W (hW : Below w.heap.size w W) => Lib.hid (cloneR_any (h.recs.below hW) HN.out)
  have L1 : Hid (Below w.heap.size w ((w.alloc (.cells #[.int .i64 x.p.h.host, .int .i64 x.p.h.epoch, .int .i64 x.p.h.seq, .int .i64 x.p.zone, .int .i64 x.p.cap, .int .i64 x.p.at_, .slice x.B x.p.buf.length x.bc, .slice x.L x.p.l.length x.lc] 35)).alloc (.cells #[.int .i64 0, .int .i64 0, .int .i64 0, .int .i64 0, .int .i64 0, .int .i64 0, .slice none 0 0, .slice none 0 0] 35))) := (((Below.refl _ w).alloc (by first | exact Nat.le_refl _ | (simp; try omega)) _).alloc (by first | exact Nat.le_refl _ | (simp; try omega)) _)
  have X1 : Hid (PBox ((w.alloc (.cells #[.int .i64 x.p.h.host, .int .i64 x.p.h.epoch, .int .i64 x.p.h.seq, .int .i64 x.p.zone, .int .i64 x.p.cap, .int .i64 x.p.at_, .slice x.B x.p.buf.length x.bc, .slice x.L x.p.l.length x.lc] 35)).alloc (.cells #[.int .i64 0, .int .i64 0, .int .i64 0, .int .i64 0, .int .i64 0, .int .i64 0, .slice none 0 0, .slice none 0 0] 35)) w.heap.size x) := Cells.alloc (Cells.new _ _ _) _
  have Z1 : Hid (ZBox ((w.alloc (.cells #[.int .i64 x.p.h.host, .int .i64 x.p.h.epoch, .int .i64 x.p.h.seq, .int .i64 x.p.zone, .int .i64 x.p.cap, .int .i64 x.p.at_, .slice x.B x.p.buf.length x.bc, .slice x.L x.p.l.length x.lc] 35)).alloc (.cells #[.int .i64 0, .int .i64 0, .int .i64 0, .int .i64 0, .int .i64 0, .int .i64 0, .slice none 0 0, .slice none 0 0] 35)) (w.heap.size + 1)) := by
    have := Cells.new (w.alloc (.cells #[.int .i64 x.p.h.host, .int .i64 x.p.h.epoch, .int .i64 x.p.h.seq, .int .i64 x.p.zone, .int .i64 x.p.cap, .int .i64 x.p.at_, .slice x.B x.p.buf.length x.bc, .slice x.L x.p.l.length x.lc] 35)) #[.int .i64 0, .int .i64 0, .int .i64 0, .int .i64 0, .int .i64 0, .int .i64 0, .slice none 0 0, .slice none 0 0] 35
    rw [World.size_alloc] at this
    exact this
  have hbl : ∃ n, n = x.p.buf.length := ⟨_, rfl⟩
  unfold pxv
  clear h ho hbl
  go_enter Tryz.func18, Tryz.ntmps18
  go_upto_region 1 with fail
  generalize (w.alloc (.cells #[.int .i64 x.p.h.host, .int .i64 x.p.h.epoch, .int .i64 x.p.h.seq, .int .i64 x.p.zone, .int .i64 x.p.cap, .int .i64 x.p.at_, .slice x.B x.p.buf.length x.bc, .slice x.L x.p.l.length x.lc] 35)).alloc (.cells #[.int .i64 0, .int .i64 0, .int .i64 0, .int .i64 0, .int .i64 0, .int .i64 0, .slice none 0 0, .slice none 0 0] 35) = w1 at *
  have L2 := Lib.hid L1.out.drew
  have X2 : Hid (PBox w1.drew w.heap.size x) := Cells.drew X1.out
  have Z2 : Hid (ZBox w1.drew (w.heap.size + 1)) := Cells.drew Z1.out
  refine RegK.start (S := fun W => W.cell? ⟨w.heap.size, 7, none⟩ = some (.slice x.L x.p.l.length x.lc)) 9 (by kernel_rfl) (Cells.cell X2.out 7) (fun hHeld => ?_)
  generalize w1.drew = w2 at *
  clear L1 X1 Z1
  refine RegK.tk 0 [9] rfl ?_
  refine RegK.tk 3 [9] rfl ?_
  refine RegK.tk 4 [9] rfl ?_
  have m6 := Cells.cell X2.out 6
  (try dsimp only at m6)
  refine RegK.step 1 rfl (by kernel_rfl) (by rfl) (fun K hK => ?_)
  go_simp
  refine hK.out _ _ (fun _ => hHeld) ?_
  clear hK K m6
  (try simp only [Act.put, List.setIfInBounds_toArray, List.set_cons_zero, List.set_cons_succ])
  refine RegK.step 2 rfl (by kernel_rfl) (by rfl) (fun K hK => ?_)
  go_simp
  refine (HB _ L2.out).out.mono ?_
  rintro e w3 ⟨⟨B', d', rfl, hO⟩, hb⟩
  have L3 := Lib.hid (L2.out.trans (hb.mono L2.out.size))
  have X3 : Hid (PBox w3 w.heap.size _) := Cells.below X2.out hb
  have Z3 : Hid (ZBox w3 (w.heap.size + 1)) := Cells.below Z2.out hb
  have OA3 := Lib.hid (hO.mono L2.out.size)
  clear hO hb X2 Z2 HB hHeld
  have hHeld : w3.cell? ⟨w.heap.size, 7, none⟩ = some (.slice x.L x.p.l.length x.lc) := Cells.cell X3.out 7
  refine hK.out _ _ (fun _ => hHeld) ?_
  clear hK K
  (try simp only [Act.put, List.setIfInBounds_toArray, List.set_cons_zero, List.set_cons_succ])
  refine RegK.tk 6 [9] rfl ?_
  refine RegK.step 5 rfl (by kernel_rfl) (by rfl) (fun K hK => ?_)
  go_simp
  refine (HC _ L3.out).out.mono ?_
  rintro e w4 ⟨⟨L', c', rfl, hO⟩, hb⟩
  have L4 := Lib.hid (L3.out.trans (hb.mono L3.out.size))
  have X4 : Hid (PBox w4 w.heap.size _) := Cells.below X3.out hb
  have Z4 : Hid (ZBox w4 (w.heap.size + 1)) := Cells.below Z3.out hb
  have OA4 := Lib.hid (Mem.Owns.below OA3.out hb)
  have OB4 : Hid (OwnRs w.heap.size w4 L' x.p.l.length c' x.xs) := Lib.hid (hO.mono L3.out.size)
  clear hO hb X3 Z3 HC hHeld OA3 L3 L2
  have hHeld : w4.cell? ⟨w.heap.size, 7, none⟩ = some (.slice x.L x.p.l.length x.lc) := Cells.cell X4.out 7
  refine hK.out _ _ (fun _ => hHeld) ?_
  clear hK K
  (try simp only [Act.put, List.setIfInBounds_toArray, List.set_cons_zero, List.set_cons_succ])
  have y6 := Cells.cell X4.out 6
  have f6 := Cells.frozen X4.out 6
  (try dsimp only at y6)
  refine RegK.step 7 rfl (by kernel_rfl) (by rfl) (fun K hK => ?_)
  go_simp
  have bt : Mov [w.heap.size] w4 (w4.setCell ⟨w.heap.size, 6, none⟩ (.slice B' x.p.buf.length d')) := Mov.set1 w4 (by simp) 6 _
  have X5 : Hid (PBox (w4.setCell ⟨w.heap.size, 6, none⟩ (.slice B' x.p.buf.length d')) w.heap.size ⟨x.p, B', d', x.L, x.lc, x.xs⟩) := by show Cells _ _ _ _; simpa using Cells.set_ X4.out 6 (.slice B' x.p.buf.length d')
  have Z5 : Hid (ZBox (w4.setCell ⟨w.heap.size, 6, none⟩ (.slice B' x.p.buf.length d')) (w.heap.size + 1)) := Cells.mov Z4.out bt (by simp)
  have L5 := Lib.hid (L4.out.trans (bt.up L4.out.size (Nat.le_refl _)))
  have OA5 := Lib.hid ((Chg.mov X4.out bt).ownI OA4.out (by decide))
  have OB5 := Lib.hid ((Chg.mov X4.out bt).owns OB4.out (by decide))
  clear bt y6 f6 X4 Z4 L4 OA4 OB4 hHeld
  generalize w4.setCell ⟨w.heap.size, 6, none⟩ (.slice B' x.p.buf.length d') = w5 at *
  have hHeld : w5.cell? ⟨w.heap.size, 7, none⟩ = some (.slice x.L x.p.l.length x.lc) := Cells.cell X5.out 7
  refine hK.out _ _ (fun _ => hHeld) ?_
  clear hK K
  (try simp only [Act.put, List.setIfInBounds_toArray, List.set_cons_zero, List.set_cons_succ])
  refine RegK.tk 8 [9] rfl ?_
  have y7 := Cells.cell X5.out 7
  have f7 := Cells.frozen X5.out 7
  (try dsimp only at y7)
  refine RegK.step 9 rfl (by kernel_rfl) (by rfl) (fun K hK => ?_)
  go_simp
  have bt : Mov [w.heap.size] w5 (w5.setCell ⟨w.heap.size, 7, none⟩ (.slice L' x.p.l.length c')) := Mov.set1 w5 (by simp) 7 _
  have X6 : Hid (PBox (w5.setCell ⟨w.heap.size, 7, none⟩ (.slice L' x.p.l.length c')) w.heap.size ⟨x.p, B', d', L', c', x.xs⟩) := by show Cells _ _ _ _; simpa using Cells.set_ X5.out 7 (.slice L' x.p.l.length c')
  have Z6 : Hid (ZBox (w5.setCell ⟨w.heap.size, 7, none⟩ (.slice L' x.p.l.length c')) (w.heap.size + 1)) := Cells.mov Z5.out bt (by simp)
  have L6 := Lib.hid (L5.out.trans (bt.up L5.out.size (Nat.le_refl _)))
  have OA6 := Lib.hid ((Chg.mov X5.out bt).ownI OA5.out (by decide))
  have OB6 := Lib.hid ((Chg.mov X5.out bt).owns OB5.out (by decide))
  clear bt y7 f7 X5 Z5 L5 OA5 OB5 hHeld
  generalize w5.setCell ⟨w.heap.size, 7, none⟩ (.slice L' x.p.l.length c') = w6 at *
  refine hK.out _ _ (fun h => absurd rfl h) ?_
  clear hK K
  (try simp only [Act.put, List.setIfInBounds_toArray, List.set_cons_zero, List.set_cons_succ])
  refine RegK.done (by kernel_rfl) ?_ _
  clear w1 w2 w3 w4 w5
  have m7 := Cells.cell X6.out 7
  (try dsimp only at m7)
  go_wp2_with fail
  clear m7
  go_loopw [3, 4, 16] (fun _ _ i wr => ∃ (k : Nat) (ys : List Rv), i = .int .i64 k ∧ k ≤ x.p.l.length ∧ ys.length = k ∧ Hid (ys.map Rv.r = (x.xs.take k).map Rv.r) ∧ Hid (Below w.heap.size w wr) ∧ Hid (PBox wr w.heap.size ⟨x.p, B', d', L', c', x.xs⟩) ∧ Hid (ZBox wr (w.heap.size + 1)) ∧ Hid (OwnB1 w.heap.size wr B' d' x.p.buf) ∧ Hid (OwnRs w.heap.size wr L' x.p.l.length c' (ys ++ x.xs.drop k)) ∧ Hid (∀ y ∈ ys, OwnB1 w.heap.size wr y.D y.c y.r.data) ∧ Hid (∀ y ∈ ys, Off y B' x.p.buf.length d')) (fun _ _ i _ => x.p.l.length - (intOf i).toNat)
  case atStart => exact ⟨0, [], rfl, by omega, rfl, rfl, L6, X6, Z6, OA6, OB6, Lib.hid (fun y hy => by cases hy), Lib.hid (fun y hy => by cases hy)⟩
  case round =>
    clear L6 X6 Z6 OA6 OB6
    obtain ⟨k, ys, rfl, hk, hys, HP, L4, X4, Z4, B4, O4, M4, F4⟩ := hrel
    by_cases hlt : k < x.p.l.length
    · obtain ⟨y, hy⟩ := H.out.recs.get hlt
      obtain ⟨hget, -⟩ := set_next ys x.xs hys hy y
      have HS := Lib.hid (fun z => (set_next ys x.xs hys hy z).2)
      have HG := Lib.hid hget
      obtain ⟨g, cur, hB, hbg, hcur, -⟩ := O4.out.place (by omega)
      have HGG := Lib.hid hbg
      have HX := Lib.hid hy
      have HM := Lib.hid (fun W (hW : Below w.heap.size w W) => clonedRec_any ((H.out.recs.data y (List.mem_of_getElem? hy)).below hW))
      have HNE : Hid (w.heap.size ≠ g ∧ w.heap.size + 1 ≠ g) := ⟨Cells.ne X4.out hcur (by decide), Cells.ne Z4.out hcur (by decide)⟩
      unfold rvV at HM
      subst hB
      have hk0 : (0 : Int) ≤ (k : Int) := by omega
      have hkn : (k : Int) < (x.p.l.length : Int) := by omega
      obtain ⟨q0, q1, q2, q3, q4, q5, q6⟩ := seven_own O4.out HG.out
      have HYS := Lib.hid hys
      clear hy hget hcur hbg hys
      go_upto_region 5 with fail
      clear q0 q1 q2 q3 q4 q5 q6
      have BB : Hid (Below wr.heap.size wr (wr.alloc (.cells #[.int .i64 y.r.kind, .int .i64 y.r.lba, .int .i64 y.r.n, .int .i64 y.r.ver, .int .i64 y.r.zone, .int .i64 y.r.off, .slice y.D y.r.data.length y.c] 57))) := (Below.refl _ wr).alloc (Nat.le_refl _) _
      have R4 : Hid (RBox (wr.alloc (.cells #[.int .i64 y.r.kind, .int .i64 y.r.lba, .int .i64 y.r.n, .int .i64 y.r.ver, .int .i64 y.r.zone, .int .i64 y.r.off, .slice y.D y.r.data.length y.c] 57)) wr.heap.size y) := Cells.new _ _ _
      have L5 := Lib.hid (L4.out.trans (BB.out.mono L4.out.size))
      have X5 := Lib.hid (Cells.below X4.out BB.out)
      have Z5 := Lib.hid (Cells.below Z4.out BB.out)
      have B5 := Lib.hid (B4.out.below BB.out)
      have O5 := Lib.hid (O4.out.below BB.out)
      have M5 := Lib.hid (fun y hy => (M4.out y hy).below BB.out)
      have RG : Hid (g < wr.heap.size) := (O4.out.lt g rfl).2
      clear BB L4 X4 Z4 B4 O4 M4
      generalize wr.alloc (.cells #[.int .i64 y.r.kind, .int .i64 y.r.lba, .int .i64 y.r.n, .int .i64 y.r.ver, .int .i64 y.r.zone, .int .i64 y.r.off, .slice y.D y.r.data.length y.c] 57) = w4 at *
      generalize wr.heap.size = r at *
      have L6 := Lib.hid L5.out.drew
      have X6 := Lib.hid (Cells.drew X5.out)
      have Z6 := Lib.hid (Cells.drew Z5.out)
      have B6 := Lib.hid (B5.out.drew)
      have O6 := Lib.hid (O5.out.drew)
      have R6 := Lib.hid (Cells.drew R4.out)
      have M6 := Lib.hid (fun y hy => (M5.out y hy).below (Below.refl _ w4).drew)
      refine RegK.start (S := fun W => W.cell? ⟨w.heap.size, 7, none⟩ = some (.slice (some ⟨g, 0, none⟩) x.p.l.length c') ∧ sevenR W r 0 y) 6 (by kernel_rfl) (⟨Cells.cell X6.out 7, seven_cells R6.out⟩) (fun hHeld => ?_)
      generalize w4.drew = w5 at *
      clear L5 X5 Z5 B5 O5 R4 M5
      (first | (refine RegK.take 0 [6] (v := ?_) rfl (by kernel_rfl) (by kernel_rfl) (by kernel_rfl) (by kernel_rfl) rfl (by kernel_rfl) (fun _ _ _ h => h) (Or.inl ⟨by rfl, ?_⟩) (by assumption) ?_; rotate_left; (focus ((intro W hSW; (try unfold sevenR at hSW); (try dsimp only at hSW); (try go_split_ands); go_simp; (try (with_reducible rfl)); done)))) | (refine RegK.take 0 [6] (v := undef) rfl (by kernel_rfl) (by kernel_rfl) (by kernel_rfl) (by kernel_rfl) rfl (by kernel_rfl) (fun _ _ _ h => h) (Or.inr ⟨by rfl, rfl⟩) (by assumption) ?_))
      (try simp only [Act.put, List.setIfInBounds_toArray, List.set_cons_zero, List.set_cons_succ])
      (first | (refine RegK.take 1 [6] (v := ?_) rfl (by kernel_rfl) (by kernel_rfl) (by kernel_rfl) (by kernel_rfl) rfl (by kernel_rfl) (fun _ _ _ h => h) (Or.inl ⟨by rfl, ?_⟩) (by assumption) ?_; rotate_left; (focus ((intro W hSW; (try unfold sevenR at hSW); (try dsimp only at hSW); (try go_split_ands); go_simp; (try (with_reducible rfl)); done)))) | (refine RegK.take 1 [6] (v := undef) rfl (by kernel_rfl) (by kernel_rfl) (by kernel_rfl) (by kernel_rfl) rfl (by kernel_rfl) (fun _ _ _ h => h) (Or.inr ⟨by rfl, rfl⟩) (by assumption) ?_))
      (try simp only [Act.put, List.setIfInBounds_toArray, List.set_cons_zero, List.set_cons_succ])
      (first | (refine RegK.take 2 [6] (v := ?_) rfl (by kernel_rfl) (by kernel_rfl) (by kernel_rfl) (by kernel_rfl) rfl (by kernel_rfl) (fun _ _ _ h => h) (Or.inl ⟨by rfl, ?_⟩) (by assumption) ?_; rotate_left; (focus ((intro W hSW; (try unfold sevenR at hSW); (try dsimp only at hSW); (try go_split_ands); go_simp; (try (with_reducible rfl)); done)))) | (refine RegK.take 2 [6] (v := undef) rfl (by kernel_rfl) (by kernel_rfl) (by kernel_rfl) (by kernel_rfl) rfl (by kernel_rfl) (fun _ _ _ h => h) (Or.inr ⟨by rfl, rfl⟩) (by assumption) ?_))
      (try simp only [Act.put, List.setIfInBounds_toArray, List.set_cons_zero, List.set_cons_succ])
      (first | (refine RegK.take 3 [6] (v := ?_) rfl (by kernel_rfl) (by kernel_rfl) (by kernel_rfl) (by kernel_rfl) rfl (by kernel_rfl) (fun _ _ _ h => h) (Or.inl ⟨by rfl, ?_⟩) (by assumption) ?_; rotate_left; (focus ((intro W hSW; (try unfold sevenR at hSW); (try dsimp only at hSW); (try go_split_ands); go_simp; (try (with_reducible rfl)); done)))) | (refine RegK.take 3 [6] (v := undef) rfl (by kernel_rfl) (by kernel_rfl) (by kernel_rfl) (by kernel_rfl) rfl (by kernel_rfl) (fun _ _ _ h => h) (Or.inr ⟨by rfl, rfl⟩) (by assumption) ?_))
      (try simp only [Act.put, List.setIfInBounds_toArray, List.set_cons_zero, List.set_cons_succ])
      refine RegK.step 4 rfl (by kernel_rfl) (by rfl) (fun K hK => ?_)
      go_simp
      refine (HM.out _ L6.out).mono ?_
      rintro e w6 ⟨z, rfl, hz, hO, hb⟩
      have L7 := Lib.hid (L6.out.trans (hb.mono L6.out.size))
      have X7 := Lib.hid (Cells.below X6.out hb)
      have Z7 := Lib.hid (Cells.below Z6.out hb)
      have R7 := Lib.hid (Cells.below R6.out hb)
      have B7 := Lib.hid (B6.out.below hb)
      have O7 := Lib.hid (O6.out.below hb)
      have M7 := Lib.hid (fun y hy => (M6.out y hy).below hb)
      have NF := Lib.hid (off_later B6.out hO)
      have N7 := Lib.hid (hO.mono L6.out.size)
      have HZ := Lib.hid hz
      clear hO hb hz L6 X6 Z6 R6 B6 O6 M6 HM hHeld
      have hHeld : w6.cell? ⟨w.heap.size, 7, none⟩ = some (.slice (some ⟨g, 0, none⟩) x.p.l.length c') ∧ sevenR w6 r 0 y := ⟨Cells.cell X7.out 7, seven_cells R7.out⟩
      refine hK.out _ _ (fun _ => hHeld) ?_
      clear hK K
      (try simp only [Act.put, List.setIfInBounds_toArray, List.set_cons_zero, List.set_cons_succ])
      unfold rvV
      (first | (refine RegK.take 5 [6] (v := ?_) rfl (by kernel_rfl) (by kernel_rfl) (by kernel_rfl) (by kernel_rfl) rfl (by kernel_rfl) (fun _ _ _ h => h) (Or.inl ⟨by rfl, ?_⟩) (by assumption) ?_; rotate_left; (focus ((intro W hSW; (try unfold sevenR at hSW); (try dsimp only at hSW); (try go_split_ands); go_simp; (try (with_reducible rfl)); done)))) | (refine RegK.take 5 [6] (v := undef) rfl (by kernel_rfl) (by kernel_rfl) (by kernel_rfl) (by kernel_rfl) rfl (by kernel_rfl) (fun _ _ _ h => h) (Or.inr ⟨by rfl, rfl⟩) (by assumption) ?_))
      (try simp only [Act.put, List.setIfInBounds_toArray, List.set_cons_zero, List.set_cons_succ])
      obtain ⟨q0, q1, q2, q3, q4, q5, q6⟩ := seven_own O7.out HG.out
      have hfz := fun i => OwnS.Owns.free O7.out (by omega) i
      refine RegK.step 6 rfl (by kernel_rfl) (by rfl) (fun K hK => ?_)
      go_simp
      have bt := mov7R w6 g k z
      have O8 := Lib.hid (put7 O7.out HG.out z (by rw [HZ.out]))
      obtain ⟨cur, hcur, -⟩ := OwnS.Owns.block O7.out (g := g) rfl
      have cg := Chg.mov hcur bt
      have L8 := Lib.hid (L7.out.trans (bt.up L7.out.size HGG.out))
      have X8 := Lib.hid (Cells.mov X7.out bt (by simpa using HNE.out.1))
      have Z8 := Lib.hid (Cells.mov Z7.out bt (by simpa using HNE.out.2))
      have B8 := Lib.hid (cg.ownI B7.out (by decide))
      have M8 := Lib.hid (fun y hy => cg.ownI (M7.out y hy) (by decide))
      have N8 := Lib.hid (cg.ownI N7.out (by decide))
      clear bt cg hcur cur q0 q1 q2 q3 q4 q5 q6 hfz L7 X7 Z7 R7 B7 O7 M7 N7 hHeld
      unfold set7R at O8 L8 X8 Z8 B8 M8 N8
      generalize (((((((w6.setCell ⟨g, k * 7, none⟩ (.int .i64 z.r.kind)).setCell ⟨g, k * 7 + 1, none⟩ (.int .i64 z.r.lba)).setCell ⟨g, k * 7 + 2, none⟩ (.int .i64 z.r.n)).setCell ⟨g, k * 7 + 3, none⟩ (.int .i64 z.r.ver)).setCell ⟨g, k * 7 + 4, none⟩ (.int .i64 z.r.zone)).setCell ⟨g, k * 7 + 5, none⟩ (.int .i64 z.r.off)).setCell ⟨g, k * 7 + 6, none⟩ (.slice z.D z.r.data.length z.c)) = w7 at *
      refine hK.out _ _ (fun h => absurd rfl h) ?_
      clear hK K
      (try simp only [Act.put, List.setIfInBounds_toArray, List.set_cons_zero, List.set_cons_succ])
      refine RegK.done (by kernel_rfl) ?_ _
      have hnl : x.p.l.length ≤ 1000000 := HN.out
      go_wp2_with fail
      go_roundw
      case rel =>
        refine ⟨k + 1, ys ++ [z], by have := HN.out; go_num, by omega, by rw [List.length_append, HYS.out]; rfl, ?_, L8, X8, Z8, B8, ?_, ?_, ?_⟩
        · show _ = _
          rw [List.map_append, HP.out, show (x.xs.take (k + 1)) = x.xs.take k ++ [y] by rw [List.take_add_one, HX.out]; rfl, List.map_append, List.map_cons, List.map_nil, HZ.out]
          rfl
        · rw [← HS.out]; exact O8
        · intro y hy
          rcases List.mem_append.1 hy with hy | hy
          · exact M8.out y hy
          · rw [List.mem_singleton.1 hy]; exact N8.out
        · intro y hy
          rcases List.mem_append.1 hy with hy | hy
          · exact F4.out y hy
          · rw [List.mem_singleton.1 hy]; exact NF.out
      case measure => have := HN.out; simp [intOf]; omega
    · have hkn : k = x.p.l.length := by omega
      subst hkn
      have hd0 : x.xs.drop x.p.l.length = [] := List.drop_eq_nil_of_le (by rw [HL.out]; exact Nat.le_refl _)
      have OF : Hid (OwnRs w.heap.size wr L' x.p.l.length c' ys) := by
        have := O4.out
        rwa [hd0, List.append_nil] at this
      have PF : Hid (ys.map Rv.r = x.p.l) := by
        have := HP.out
        rw [List.take_of_length_le (by rw [HL.out]; exact Nat.le_refl _)] at this
        exact this.trans H.out.eq
      obtain ⟨m0, m1, m2, m3, m4, m5, m6, m7⟩ := eight_cells X4.out
      obtain ⟨z0, z1, z2, z3, z4, z5, z6, z7⟩ := eight_cells Z4.out
      obtain ⟨f0, f1, f2, f3, f4, f5, f6, f7⟩ := eight_free Z4.out
      (try dsimp only at m0 m1 m2 m3 m4 m5 m6 m7)
      clear hd0 O4 HP
      go_wp2_with fail
      have bt := mov8 wr (w.heap.size + 1) (.int .i64 x.p.h.host) (.int .i64 x.p.h.epoch) (.int .i64 x.p.h.seq) (.int .i64 x.p.zone) (.int .i64 x.p.cap) (.int .i64 x.p.at_) (.slice B' x.p.buf.length d') (.slice L' x.p.l.length c')
      have cg := Chg.mov Z4.out bt
      refine bodyPost_ret_by (results_c0 rfl _ _ (w.heap.size + 1) _ _ _ _ rfl (set8 Z4.out (.int .i64 x.p.h.host) (.int .i64 x.p.h.epoch) (.int .i64 x.p.h.seq) (.int .i64 x.p.zone) (.int .i64 x.p.cap) (.int .i64 x.p.at_) (.slice B' x.p.buf.length d') (.slice L' x.p.l.length c')) Tryz.underlying35 rfl (by kernel_rfl)) rfl ?_
      exact ⟨⟨x.p, B', d', L', c', ys⟩, rfl, rfl, ⟨cg.ownI B4.out (by decide), cg.owns OF.out (by decide), fun y hy => cg.ownI (M4.out y hy) (by decide), F4.out, PF.out⟩, L4.out.trans (bt.up L4.out.size (by omega))⟩
end Pk
end Go.Proofs.YtedandbkdjmfhaaGreat
/-
  WALKS: packer.Begin, packer.Resume.
-/
namespace Go.Proofs.YtedandbkdjmfhaaGreat
open Go.RowKit Mem Box
namespace Pk
open Seg (Hdr Rc Rv cellsOf cellsOf_len RowR hdV recV fits nums hnums nn goods frame headX recX frames check recB headB)
/-- A pack of its own, and an error, as a call gave them. -/
def GaveE (w : World) (p : Pp) (er : Int) (e : Ending) (w' : World) : Prop := ∃ y, e = .returned (.tuple #[pxv y, .int .i64 er]) ∧ y.p = p ∧ OwnP w.heap.size w' y ∧ Below w.heap.size w w'
set_option maxRecDepth 100000 in
set_option maxHeartbeats 6400000 in
theorem begin_any {h : Hdr} {zone most : Int} {w : World} (hf : fits (hnums h)) : Calls Tryz.prog 6 #[hdV h, .int .i64 zone, .int .i64 most] w (GaveE w (beginP h zone most).1 (beginP h zone most).2) := by
  have HH := fun w => Lib.hid (Seg.head_outer (h := h) (w := w) hf)
  have HMB := fun w => Lib.hid (mayBe_any zone most w)
  have HGR := fun (X : Option Addr) (k d : Nat) (b : Nat) (w : World) (hn : nn (hnums h)) (ho : Mem.Owns cb 5 b w (.slice X k d) k (frame (headX h))) => show k = (frame (headX h)).length from (Wire.gave_row ho (by have := head_len hf hn; omega)).2
  have L1 : Hid (Below w.heap.size w ((w.alloc (.cells #[.int .i64 h.host, .int .i64 h.epoch, .int .i64 h.seq] 23)).alloc (.cells #[.int .i64 0, .int .i64 0, .int .i64 0, .int .i64 0, .int .i64 0, .int .i64 0, .slice none 0 0, .slice none 0 0] 35))) := (((Below.refl _ w).alloc (by first | exact Nat.le_refl _ | (simp; try omega)) _).alloc (by first | exact Nat.le_refl _ | (simp; try omega)) _)
  have X1 : Hid (Cells ((w.alloc (.cells #[.int .i64 h.host, .int .i64 h.epoch, .int .i64 h.seq] 23)).alloc (.cells #[.int .i64 0, .int .i64 0, .int .i64 0, .int .i64 0, .int .i64 0, .int .i64 0, .slice none 0 0, .slice none 0 0] 35)) w.heap.size 23 #[.int .i64 h.host, .int .i64 h.epoch, .int .i64 h.seq]) := Cells.alloc (Cells.new _ _ _) _
  have Z1 : Hid (ZBox ((w.alloc (.cells #[.int .i64 h.host, .int .i64 h.epoch, .int .i64 h.seq] 23)).alloc (.cells #[.int .i64 0, .int .i64 0, .int .i64 0, .int .i64 0, .int .i64 0, .int .i64 0, .slice none 0 0, .slice none 0 0] 35)) (w.heap.size + 1)) := by
    have := Cells.new (w.alloc (.cells #[.int .i64 h.host, .int .i64 h.epoch, .int .i64 h.seq] 23)) #[.int .i64 0, .int .i64 0, .int .i64 0, .int .i64 0, .int .i64 0, .int .i64 0, .slice none 0 0, .slice none 0 0] 35
    rw [World.size_alloc] at this
    exact this
  have hbp : Hid (beginP h zone most = if nn (hnums h) then (if mayZ zone most then (if ((frame (headX h)).length : Int) ≤ most then (⟨h, zone, most, 0, frame (headX h), []⟩, 0) else (zeroP, 40)) else (zeroP, 1)) else (zeroP, 1)) := rfl
  unfold GaveE
  have HLN : Hid (nn (hnums h) → (frame (headX h)).length ≤ 100) := fun hn => head_len hf hn
  generalize beginP h zone most = bp at *
  unfold hdV
  unfold hdV at HH
  clear hf
  go_enter Tryz.func6, Tryz.ntmps6
  go_upto_region 1 with fail
  generalize (w.alloc (.cells #[.int .i64 h.host, .int .i64 h.epoch, .int .i64 h.seq] 23)).alloc (.cells #[.int .i64 0, .int .i64 0, .int .i64 0, .int .i64 0, .int .i64 0, .int .i64 0, .slice none 0 0, .slice none 0 0] 35) = w1 at *
  have m0 := Cells.cell X1.out 0
  have m1 := Cells.cell X1.out 1
  have m2 := Cells.cell X1.out 2
  (try dsimp only at m0 m1 m2)
  by_cases hn : nn (hnums h)
  · have hB : headB h = (frame (headX h), 0) := by unfold headB; rw [if_pos hn]
    rw [hB] at HH
    have hl := HLN.out hn
    have hbq := hbp.out
    rw [if_pos hn] at hbq
    have HG2 := fun X k d b w h => HGR X k d b w hn h
    have HBQ := Lib.hid hbq
    clear hbq hbp HGR hB HLN hn
    generalize hfr : frame (headX h) = fr at *
    have HFR := Lib.hid hfr
    clear hfr
    go_upto_region 2 with (go_at_call 14; refine (HH w1).out.mono ?_; rintro e w2 ⟨X, k, d, rfl, hO, hb⟩; have L2 := Lib.hid (L1.out.trans (hb.mono L1.out.size)); have X2 := Lib.hid (Cells.below X1.out hb); have Z2 : Hid (ZBox w2 (w.heap.size + 1)) := Cells.below Z1.out hb; have O2 := Lib.hid (hO.mono L1.out.size); obtain rfl := HG2 _ _ _ _ _ hO; clear hO hb m0 m1 m2 L1 X1 Z1 HH HG2)
    have m0 := Cells.cell X2.out 0
    have m1 := Cells.cell X2.out 1
    have m2 := Cells.cell X2.out 2
    (try dsimp only at m0 m1 m2)
    obtain ⟨z0, z1, z2, z3, z4, z5, z6, z7⟩ := eight_cells Z2.out
    obtain ⟨f0, f1, f2, f3, f4, f5, f6, f7⟩ := eight_free Z2.out
    by_cases hm : mayZ zone most
    · have hd : decide (mayZ zone most) = true := by simpa using hm
      rw [hd] at HMB
      have hbq := HBQ.out
      rw [if_pos hm] at hbq
      by_cases hle : (fr.length : Int) ≤ most
      · rw [if_pos hle] at hbq
        have HBP := Lib.hid hbq
        have hlt : ¬ most < (fr.length : Int) := by omega
        clear hd hm HBQ hbq
        go_wp2_with (go_at_call 15; refine (HMB w2).out.mono ?_; rintro e w3 ⟨rfl, rfl⟩)
        rw [HBP.out]
        have bt := mov8 w3 (w.heap.size + 1) (.int .i64 h.host) (.int .i64 h.epoch) (.int .i64 h.seq) (.int .i64 zone) (.int .i64 most) (.int .i64 0) (.slice X fr.length d) (.slice none 0 0)
        have cg := Chg.mov Z2.out bt
        refine bodyPost_ret_by (results_c1 rfl _ _ (w.heap.size + 1) _ _ _ _ rfl (set8 Z2.out (.int .i64 h.host) (.int .i64 h.epoch) (.int .i64 h.seq) (.int .i64 zone) (.int .i64 most) (.int .i64 0) (.slice X fr.length d) (.slice none 0 0)) Tryz.underlying35 rfl (by kernel_rfl)) rfl ?_
        exact ⟨⟨⟨h, zone, most, 0, fr, []⟩, X, d, none, 0, []⟩, rfl, rfl, ⟨cg.ownI O2.out (by decide), OwnS.Owns.nil _ _ _ _ _, by simp, by simp, rfl⟩, L2.out.trans (bt.up L2.out.size (by omega))⟩
      · rw [if_neg hle] at hbq
        have HBP := Lib.hid hbq
        have hlt : most < (fr.length : Int) := by omega
        clear hd hm HBQ hbq
        go_wp2_with (go_at_call 15; refine (HMB w2).out.mono ?_; rintro e w3 ⟨rfl, rfl⟩)
        rw [HBP.out]
        have bt := mov8 w3 (w.heap.size + 1) (.int .i64 0) (.int .i64 0) (.int .i64 0) (.int .i64 0) (.int .i64 0) (.int .i64 0) (.slice none 0 0) (.slice none 0 0)
        have cg := Chg.mov Z2.out bt
        refine bodyPost_ret_by (results_c1 rfl _ _ (w.heap.size + 1) _ _ _ _ rfl (set8 Z2.out (.int .i64 0) (.int .i64 0) (.int .i64 0) (.int .i64 0) (.int .i64 0) (.int .i64 0) (.slice none 0 0) (.slice none 0 0)) Tryz.underlying35 rfl (by kernel_rfl)) rfl ?_
        exact ⟨⟨zeroP, none, 0, none, 0, []⟩, rfl, rfl, OwnP.zero _ _, L2.out.trans (bt.up L2.out.size (by omega))⟩
    · have hd : decide (mayZ zone most) = false := by simpa using hm
      rw [hd] at HMB
      have hbq := HBQ.out
      rw [if_neg hm] at hbq
      have HBP := Lib.hid hbq
      clear hd hm HBQ hbq
      go_wp2_with (go_at_call 15; refine (HMB w2).out.mono ?_; rintro e w3 ⟨rfl, rfl⟩)
      rw [HBP.out]
      have bt := mov8 w3 (w.heap.size + 1) (.int .i64 0) (.int .i64 0) (.int .i64 0) (.int .i64 0) (.int .i64 0) (.int .i64 0) (.slice none 0 0) (.slice none 0 0)
      have cg := Chg.mov Z2.out bt
      refine bodyPost_ret_by (results_c1 rfl _ _ (w.heap.size + 1) _ _ _ _ rfl (set8 Z2.out (.int .i64 0) (.int .i64 0) (.int .i64 0) (.int .i64 0) (.int .i64 0) (.int .i64 0) (.slice none 0 0) (.slice none 0 0)) Tryz.underlying35 rfl (by kernel_rfl)) rfl ?_
      exact ⟨⟨zeroP, none, 0, none, 0, []⟩, rfl, rfl, OwnP.zero _ _, L2.out.trans (bt.up L2.out.size (by omega))⟩
  · have hB : headB h = ([], 1) := by unfold headB; rw [if_neg hn]
    rw [hB] at HH
    have hbq := hbp.out
    rw [if_neg hn] at hbq
    have HBP := Lib.hid hbq
    clear hbq hbp HGR hB HLN hn HMB
    go_upto_region 2 with (go_at_call 14; refine (HH w1).out.mono ?_; rintro e w2 ⟨X, k, d, rfl, hO, hb⟩; have L2 := Lib.hid (L1.out.trans (hb.mono L1.out.size)); have X2 := Lib.hid (Cells.below X1.out hb); have Z2 : Hid (ZBox w2 (w.heap.size + 1)) := Cells.below Z1.out hb; clear hO hb m0 m1 m2 L1 X1 Z1 HH)
    obtain ⟨z0, z1, z2, z3, z4, z5, z6, z7⟩ := eight_cells Z2.out
    obtain ⟨f0, f1, f2, f3, f4, f5, f6, f7⟩ := eight_free Z2.out
    go_wp2_with fail
    rw [HBP.out]
    have bt := mov8 w2 (w.heap.size + 1) (.int .i64 0) (.int .i64 0) (.int .i64 0) (.int .i64 0) (.int .i64 0) (.int .i64 0) (.slice none 0 0) (.slice none 0 0)
    have cg := Chg.mov Z2.out bt
    refine bodyPost_ret_by (results_c1 rfl _ _ (w.heap.size + 1) _ _ _ _ rfl (set8 Z2.out (.int .i64 0) (.int .i64 0) (.int .i64 0) (.int .i64 0) (.int .i64 0) (.int .i64 0) (.slice none 0 0) (.slice none 0 0)) Tryz.underlying35 rfl (by kernel_rfl)) rfl ?_
    exact ⟨⟨zeroP, none, 0, none, 0, []⟩, rfl, rfl, OwnP.zero _ _, L2.out.trans (bt.up L2.out.size (by omega))⟩

end Pk
end Go.Proofs.YtedandbkdjmfhaaGreat
