/-
  WALKS: bytes.Clone, slices.Clone of records, packer.mayBe, end, Room, frame, clonedRec.
-/
import Derived.Test.YtedandbkdjmfhaaPkMem
import Derived.BigQuiet
namespace Go.Proofs.Ytedandbkdjmfhaa
open Go.RowKit Mem Box
namespace Pk
theorem below_drewN {b : Nat} {a w : World} (h : Below b a w) (q : Nat) : Below b a (w.drewN q) := ⟨h.os, h.tape, h.output, h.size, h.block⟩
open Seg (Hdr Rc Rv cellsOf cellsOf_len RowR hdV recV fits nums hnums nn goods frame headX recX frames check recB headB)

theorem run_max2 (ts : Array TypeId) (t : TypeId) (x y : Int) (w : World) : (Builtin.max_ ts t #[.int .i64 x, .int .i64 y]).run Try.prog w = .ok (.int .i64 (max x y)) w := by
  have e : (Builtin.max_ ts t #[.int .i64 x, .int .i64 y]).run Try.prog w = .ok (.int .i64 (if y > x then y else x)) w := by
    simp [Builtin.max_, Builtin.max2, List.foldlM]
  rw [e]
  congr 2
  split <;> omega
theorem run_eql_nilB (w : World) (A : Option Addr) (n c : Nat) : (binOp .eql 27 (.slice A n c) (.slice none 0 0)).run Try.prog w = .ok (.bool A.isNone) w :=
  Go.run_eql_slice_nil w _ _ A n c Try.underlying27
theorem run_eql_nilR (w : World) (A : Option Addr) (n c : Nat) : (binOp .eql 24 (.slice A n c) (.slice none 0 0)).run Try.prog w = .ok (.bool A.isNone) w :=
  Go.run_eql_slice_nil w _ _ A n c Try.underlying24
set_option maxRecDepth 100000 in
theorem cloneB_any {A : Option Addr} {n c : Nat} {l : List (BitVec 8)} {w : World} (h : Row cb w A n c l) :
    Calls Try.prog 32 #[.slice A n c] w fun e w' => (∃ B d, e = .returned (.slice B n d) ∧ Mem.Owns cb 5 w.heap.size w' (.slice B n d) n l) ∧ Below w.heap.size w w' := by
  have HR := Lib.hid h
  have hb := h.big
  clear h
  have hq := fun w => run_eql_nilB w A n c
  rcases A with _ | a
  · have hn : n = 0 := by
      rcases Nat.eq_zero_or_pos n with h0 | h0
      · exact h0
      · obtain ⟨b, o, e, -⟩ := HR.out.at_ h0
        cases e
    have hl : l = [] := List.eq_nil_of_length_eq_zero (by rw [HR.out.len, hn])
    subst hn hl
    have hd : (none : Option Addr).isNone = true := rfl
    rw [hd] at hq
    go_enter Try.func32, Try.ntmps32
    go_wp2
    go_ret
    exact ⟨⟨_, _, rfl, Mem.Owns.nil _ _ _ _⟩, Below.refl _ _⟩
  · have hd : (some a).isNone = false := rfl
    rw [hd] at hq
    go_enter Try.func32, Try.ntmps32
    go_wp2_with (at_builtin
                 refine wpList_append_row cb_one Try.underlying27 info_byte rfl rfl (.tmp 5) (.tmp 6) rfl rfl w.heap.size _ 0 [] rfl (Mem.Owns.made cb 5 w [] (by decide) (Nat.le_refl _)) (some a) n c l rfl (HR.out.alloc _) (by omega) (by omega) (by simp) ?_
                 intro A' c' w' hown' hb'
                 have O := Lib.hid (show Mem.Owns cb 5 w.heap.size w' (.slice A' n c') n l by simpa using hown')
                 have B := Lib.hid hb'
                 clear hown' hb')
    go_ret
    exact ⟨⟨_, _, rfl, O.out⟩, ((Below.refl _ w).alloc (Nat.le_refl _) _).trans B.out⟩
theorem rowR_none {w : World} {n c : Nat} {l : List Rv} (h : RowR w none n c l) : n = 0 ∧ l = [] := by
  have hn : n = 0 := by
    rcases Nat.eq_zero_or_pos n with h0 | h0
    · exact h0
    · obtain ⟨b, o, e, -⟩ := h.at_ h0
      cases e
  exact ⟨hn, List.eq_nil_of_length_eq_zero (by rw [h.len, hn])⟩
set_option maxRecDepth 100000 in
set_option maxHeartbeats 1600000 in
theorem cloneR_any {A : Option Addr} {n c : Nat} {l : List Rv} {w : World} (h : RowR w A n c l) (hn : n ≤ 1000000) :
    Calls Try.prog 41 #[.slice A n c] w fun e w' => (∃ B d, e = .returned (.slice B n d) ∧ OwnRs w.heap.size w' B n d l) ∧ Below w.heap.size w w' := by
  have HR := Lib.hid h
  clear h
  have hq := fun w => run_eql_nilR w A n c
  rcases A with _ | a
  · obtain ⟨rfl, rfl⟩ := rowR_none HR.out
    have hd : (none : Option Addr).isNone = true := rfl
    rw [hd] at hq
    go_enter Try.func41, Try.ntmps41
    go_wp2
    go_ret
    exact ⟨⟨_, _, rfl, OwnS.Owns.nil _ _ _ _ _⟩, Below.refl _ _⟩
  · have hd : (some a).isNone = false := rfl
    rw [hd] at hq
    have hmade : Hid (OwnS.Owns cellsOf 7 34 w.heap.size (w.alloc (.cells #[] 34)) (.slice (some ⟨w.heap.size, 0, none⟩) 0 0) 0 []) := ⟨World.ownsRow_made w #[] 0 (Nat.le_refl _) (Nat.zero_le _) (by simp), rfl⟩
    go_enter Try.func41, Try.ntmps41
    go_wp2_with (at_builtin
                 refine OwnS.wpList_append fitR Try.underlying24 info_recP rfl (by omega) rfl (.tmp 5) (.tmp 6) rfl rfl w.heap.size _ 0 [] rfl hmade.out (some a) n c l rfl (Box.RowS.alloc (rowS_of HR.out) _) (by omega) (by simp) ?_
                 intro A' c' w' hown' hb' _
                 have O := Lib.hid (show OwnS.Owns cellsOf 7 34 w.heap.size w' (.slice A' n c') n l by simpa using hown')
                 have B := Lib.hid (OwnS.below_row hmade.out hb' (by simp))
                 clear hown' hb')
    go_ret
    exact ⟨⟨_, _, rfl, O.out⟩, ((Below.refl _ w).alloc (Nat.le_refl _) _).trans B.out⟩

set_option maxRecDepth 100000 in
set_option maxHeartbeats 800000 in
theorem mayBe_any (z m : Int) (w : World) :
    Calls Try.prog 20 #[.int .i64 z, .int .i64 m] w fun e w' => e = .returned (.bool (decide (mayZ z m))) ∧ w' = w := by
  go_enter Try.func20, Try.ntmps20
  go_wp2
  all_goals (go_ret; refine ⟨ret_bool ?_, rfl⟩)
  all_goals (rw [Bool.eq_iff_iff, decide_eq_true_iff (p := mayZ z m)]; unfold mayZ; simp only [Bool.and_eq_true, decide_eq_true_eq, Bool.false_eq_true]; constructor <;> intro hq <;> first | omega | exact hq.elim)

set_option maxRecDepth 100000 in
set_option maxHeartbeats 800000 in
/-- A pack's end; its parts need lie nowhere. -/
theorem end_any (x : Px) (w : World) (h0 : 0 ≤ x.p.at_) (h1 : x.p.at_ ≤ 1099511627776) (h2 : x.p.buf.length ≤ 1099511627776) :
    Calls Try.prog 26 #[pxv x] w fun e w' => e = .returned (.int .i64 (x.p.at_ + (x.p.buf.length : Int))) ∧ Below w.heap.size w w' := by
  have hw1 : IntKind.i64.wrap (x.p.at_ + (x.p.buf.length : Int)) = x.p.at_ + (x.p.buf.length : Int) := by rw [IntKind.wrap_i64]; omega
  unfold pxv
  go_enter Try.func26, Try.ntmps26
  go_wp2
  go_ret
  exact ⟨rfl, (Below.refl _ w).alloc (Nat.le_refl _) _⟩

set_option maxRecDepth 100000 in
set_option maxHeartbeats 1600000 in
theorem room_any (x : Px) (w : World) (ho : OkP x.p) :
    Calls Try.prog 11 #[pxv x] w fun e w' => e = .returned (.int .i64 (roomP x.p)) ∧ Below w.heap.size w w' := by
  have HE := fun w => Lib.hid (end_any x w ho.at0 (by have := ho.at_le; omega) (by have := ho.buf_le; omega))
  have hw1 : IntKind.i64.wrap (x.p.cap - (x.p.at_ + (x.p.buf.length : Int))) = x.p.cap - (x.p.at_ + (x.p.buf.length : Int)) := by have := ho.at0; have := ho.room; have := ho.cap; rw [IntKind.wrap_i64]; omega
  have hmx := fun ts t w => run_max2 ts t 0 (x.p.cap - (x.p.at_ + (x.p.buf.length : Int))) w
  have L1 : Hid (Below w.heap.size w (w.alloc (.cells #[.int .i64 x.p.h.host, .int .i64 x.p.h.epoch, .int .i64 x.p.h.seq, .int .i64 x.p.zone, .int .i64 x.p.cap, .int .i64 x.p.at_, .slice x.B x.p.buf.length x.bc, .slice x.L x.p.l.length x.lc] 29))) := (Below.refl _ w).alloc (Nat.le_refl _) _
  have X1 : Hid (PBox (w.alloc (.cells #[.int .i64 x.p.h.host, .int .i64 x.p.h.epoch, .int .i64 x.p.h.seq, .int .i64 x.p.zone, .int .i64 x.p.cap, .int .i64 x.p.at_, .slice x.B x.p.buf.length x.bc, .slice x.L x.p.l.length x.lc] 29)) w.heap.size x) := Cells.new _ _ _
  have hr : roomP x.p = max 0 (x.p.cap - (x.p.at_ + (x.p.buf.length : Int))) := rfl
  unfold pxv at *
  rw [hr]
  clear hr ho
  go_enter Try.func11, Try.ntmps11
  go_upto_region 1 with fail
  generalize w.alloc (.cells #[.int .i64 x.p.h.host, .int .i64 x.p.h.epoch, .int .i64 x.p.h.seq, .int .i64 x.p.zone, .int .i64 x.p.cap, .int .i64 x.p.at_, .slice x.B x.p.buf.length x.bc, .slice x.L x.p.l.length x.lc] 29) = w1 at *
  refine wp_region_held_drew (S := fun W => eightC W w.heap.size (.int .i64 x.p.h.host) (.int .i64 x.p.h.epoch) (.int .i64 x.p.h.seq) (.int .i64 x.p.zone) (.int .i64 x.p.cap) (.int .i64 x.p.at_) (.slice x.B x.p.buf.length x.bc) (.slice x.L x.p.l.length x.lc)) (by kernel_rfl) (eight_cells (Cells.drew X1.out)) (fun hHeld => ?_)
  have L2 := Lib.hid L1.out.drew
  have X2 : Hid (PBox w1.drew w.heap.size x) := Cells.drew X1.out
  unfold eightC at *
  generalize w1.drew = w2 at *
  clear L1 X1
  (first | (refine Reg.take 0 (v := ?_) rfl (by kernel_rfl) (by kernel_rfl) (by kernel_rfl) (fun _ _ _ h => h) (Or.inl ⟨by rfl, ?_⟩) (by assumption) ?_; rotate_left; (focus ((intro W hSW); (try dsimp only at hSW); (try go_split_ands); go_simp; (try (with_reducible rfl)); done))) | (refine Reg.take 0 (v := undef) rfl (by kernel_rfl) (by kernel_rfl) (by kernel_rfl) (fun _ _ _ h => h) (Or.inr ⟨by rfl, rfl⟩) (by assumption) ?_))
  (try simp only [Act.put, List.setIfInBounds_toArray, List.set_cons_zero, List.set_cons_succ])
  (first | (refine Reg.take 1 (v := ?_) rfl (by kernel_rfl) (by kernel_rfl) (by kernel_rfl) (fun _ _ _ h => h) (Or.inl ⟨by rfl, ?_⟩) (by assumption) ?_; rotate_left; (focus ((intro W hSW); (try dsimp only at hSW); (try go_split_ands); go_simp; (try (with_reducible rfl)); done))) | (refine Reg.take 1 (v := undef) rfl (by kernel_rfl) (by kernel_rfl) (by kernel_rfl) (fun _ _ _ h => h) (Or.inr ⟨by rfl, rfl⟩) (by assumption) ?_))
  (try simp only [Act.put, List.setIfInBounds_toArray, List.set_cons_zero, List.set_cons_succ])
  (first | (refine Reg.take 2 (v := ?_) rfl (by kernel_rfl) (by kernel_rfl) (by kernel_rfl) (fun _ _ _ h => h) (Or.inl ⟨by rfl, ?_⟩) (by assumption) ?_; rotate_left; (focus ((intro W hSW); (try dsimp only at hSW); (try go_split_ands); go_simp; (try (with_reducible rfl)); done))) | (refine Reg.take 2 (v := undef) rfl (by kernel_rfl) (by kernel_rfl) (by kernel_rfl) (fun _ _ _ h => h) (Or.inr ⟨by rfl, rfl⟩) (by assumption) ?_))
  (try simp only [Act.put, List.setIfInBounds_toArray, List.set_cons_zero, List.set_cons_succ])
  refine Reg.step 3 rfl (by kernel_rfl) (by rfl) (fun K hK => ?_)
  go_simp
  refine (HE w2).out.mono ?_
  rintro e w3 ⟨rfl, hb⟩
  have L3 := Lib.hid (L2.out.trans (hb.mono L2.out.size))
  have X3 : Hid (PBox w3 w.heap.size x) := Cells.below X2.out hb
  clear hb hHeld L2 X2 HE
  have hHeld := eight_cells X3.out
  unfold eightC at hHeld
  refine hK.out _ _ hHeld (fun _ => ?_)
  clear hK K
  (try simp only [Act.put, List.setIfInBounds_toArray, List.set_cons_zero, List.set_cons_succ])
  (first | (refine Reg.take 4 (v := ?_) rfl (by kernel_rfl) (by kernel_rfl) (by kernel_rfl) (fun _ _ _ h => h) (Or.inl ⟨by rfl, ?_⟩) (by assumption) ?_; rotate_left; (focus ((intro W hSW); (try dsimp only at hSW); (try go_split_ands); go_simp; (try (with_reducible rfl)); done))) | (refine Reg.take 4 (v := undef) rfl (by kernel_rfl) (by kernel_rfl) (by kernel_rfl) (fun _ _ _ h => h) (Or.inr ⟨by rfl, rfl⟩) (by assumption) ?_))
  (try simp only [Act.put, List.setIfInBounds_toArray, List.set_cons_zero, List.set_cons_succ])
  refine Reg.step 5 rfl (by kernel_rfl) (by rfl) (fun K hK => ?_)
  go_simp
  refine hK.out _ _ hHeld (fun _ => ?_)
  clear hK K
  (try simp only [Act.put, List.setIfInBounds_toArray, List.set_cons_zero, List.set_cons_succ])
  (first | (refine Reg.take 6 (v := ?_) rfl (by kernel_rfl) (by kernel_rfl) (by kernel_rfl) (fun _ _ _ h => h) (Or.inl ⟨by rfl, ?_⟩) (by assumption) ?_; rotate_left; (focus ((intro W hSW); (try dsimp only at hSW); (try go_split_ands); go_simp; (try (with_reducible rfl)); done))) | (refine Reg.take 6 (v := undef) rfl (by kernel_rfl) (by kernel_rfl) (by kernel_rfl) (fun _ _ _ h => h) (Or.inr ⟨by rfl, rfl⟩) (by assumption) ?_))
  (try simp only [Act.put, List.setIfInBounds_toArray, List.set_cons_zero, List.set_cons_succ])
  refine wpAnyH_done (by kernel_rfl) ?_ _
  go_wp2_with fail
  go_ret
  exact ⟨rfl, L3.out⟩

/-- A frame of a record that may be, and where its bytes stand in it. -/
def GaveF (w : World) (r : Rc) (e : Ending) (w' : World) : Prop := ∃ X d, e = .returned (.tuple #[.slice X (flen r) d, .int .i64 (placeR r), .int .i64 0]) ∧ Mem.Owns cb 5 w.heap.size w' (.slice X (flen r) d) (flen r) (frame (recX r)) ∧ Below w.heap.size w w'
set_option maxRecDepth 100000 in
set_option maxHeartbeats 1600000 in
theorem frame_ok {y : Rv} {w : World} (hf : fits (nums y.r)) (hc : check y.r = 0) (h : Row cb w y.D y.r.data.length y.c y.r.data) :
    Calls Try.prog 25 #[rvV y] w (GaveF w y.r) := by
  have H := Lib.hid h
  have HR := fun w (h : Row cb w y.D y.r.data.length y.c y.r.data) => Lib.hid (Seg.rec_outer hf h)
  have hrb : recB y.r = (frame (recX y.r), 0) := by unfold recB; rw [if_pos hc]
  rw [hrb] at HR
  have hfl := flen_le hf hc
  have hp0 := placeR_ge y.r
  have hp1 := placeR_le y.r
  have hw1 : IntKind.i64.wrap ((flen y.r : Int) - 4) = (flen y.r : Int) - 4 := by have := flen_ge y.r; rw [IntKind.wrap_i64]; omega
  have hw2 : IntKind.i64.wrap ((flen y.r : Int) - 4 - (y.r.data.length : Int)) = placeR y.r := by rw [IntKind.wrap_i64]; omega
  have L1 : Hid (Below w.heap.size w (w.alloc (.cells #[.int .i64 y.r.kind, .int .i64 y.r.lba, .int .i64 y.r.n, .int .i64 y.r.ver, .int .i64 y.r.zone, .int .i64 y.r.off, .slice y.D y.r.data.length y.c] 34))) := (Below.refl _ w).alloc (Nat.le_refl _) _
  have X1 : Hid (RBox (w.alloc (.cells #[.int .i64 y.r.kind, .int .i64 y.r.lba, .int .i64 y.r.n, .int .i64 y.r.ver, .int .i64 y.r.zone, .int .i64 y.r.off, .slice y.D y.r.data.length y.c] 34)) w.heap.size y) := Cells.new _ _ _
  have HGR := fun (X : Option Addr) (k d : Nat) (b : Nat) (w : World) (h : Mem.Owns cb 5 b w (.slice X k d) k (frame (recX y.r))) => show k = flen y.r from (Wire.gave_row h (by unfold flen at hfl; omega)).2
  unfold rvV recV GaveF at *
  clear hf hc h hrb hp0 hp1 hfl
  generalize flen y.r = fl at *
  generalize placeR y.r = pl at *
  go_enter Try.func25, Try.ntmps25
  go_upto_region 1 with fail
  generalize w.alloc (.cells #[.int .i64 y.r.kind, .int .i64 y.r.lba, .int .i64 y.r.n, .int .i64 y.r.ver, .int .i64 y.r.zone, .int .i64 y.r.off, .slice y.D y.r.data.length y.c] 34) = w1 at *
  obtain ⟨m0, m1, m2, m3, m4, m5, m6⟩ := seven_cells X1.out
  go_upto_region 2 with (go_at_call 9; refine (HR w1 (H.out.below L1.out)).out.mono ?_; rintro e w2 ⟨X, k, d, rfl, hO, hb⟩; have L2 := Lib.hid (L1.out.trans (hb.mono L1.out.size)); have X2 : Hid (RBox w2 w.heap.size y) := Cells.below X1.out hb; have O2 := Lib.hid (hO.mono L1.out.size); obtain rfl := HGR _ _ _ _ _ hO; clear hO hb m0 m1 m2 m3 m4 m5 m6 L1 X1 HR HGR; obtain ⟨m0, m1, m2, m3, m4, m5, m6⟩ := seven_cells X2.out)
  go_upto_region 4 with fail
  go_quiet (fail)
  go_wp2_with fail
  go_ret3
  have hd := fun n => below_drewN (Below.refl w2.heap.size w2) n
  exact ⟨X, d, rfl, O2.out.below (hd _), below_drewN L2.out _⟩

def GaveR (w : World) (r : Rc) (e : Ending) (w' : World) : Prop := ∃ y, e = .returned (rvV y) ∧ y.r = r ∧ OwnB1 w.heap.size w' y.D y.c y.r.data ∧ Below w.heap.size w w'
set_option maxRecDepth 100000 in
set_option maxHeartbeats 1600000 in
theorem clonedRec_any {y : Rv} {w : World} (h : Row cb w y.D y.r.data.length y.c y.r.data) :
    Calls Try.prog 27 #[rvV y] w (GaveR w y.r) := by
  have H := Lib.hid h
  have HB := fun W (hW : Below w.heap.size w W) => Lib.hid (cloneB_any (h.below hW))
  have L1 : Hid (Below w.heap.size w ((w.alloc (.cells #[.int .i64 y.r.kind, .int .i64 y.r.lba, .int .i64 y.r.n, .int .i64 y.r.ver, .int .i64 y.r.zone, .int .i64 y.r.off, .slice y.D y.r.data.length y.c] 34)).alloc (.cells #[.int .i64 0, .int .i64 0, .int .i64 0, .int .i64 0, .int .i64 0, .int .i64 0, .slice none 0 0] 34))) := (((Below.refl _ w).alloc (by first | exact Nat.le_refl _ | (simp; try omega)) _).alloc (by first | exact Nat.le_refl _ | (simp; try omega)) _)
  have X1 : Hid (RBox ((w.alloc (.cells #[.int .i64 y.r.kind, .int .i64 y.r.lba, .int .i64 y.r.n, .int .i64 y.r.ver, .int .i64 y.r.zone, .int .i64 y.r.off, .slice y.D y.r.data.length y.c] 34)).alloc (.cells #[.int .i64 0, .int .i64 0, .int .i64 0, .int .i64 0, .int .i64 0, .int .i64 0, .slice none 0 0] 34)) w.heap.size y) := Cells.alloc (Cells.new _ _ _) _
  have Z1 : Hid (ZRec ((w.alloc (.cells #[.int .i64 y.r.kind, .int .i64 y.r.lba, .int .i64 y.r.n, .int .i64 y.r.ver, .int .i64 y.r.zone, .int .i64 y.r.off, .slice y.D y.r.data.length y.c] 34)).alloc (.cells #[.int .i64 0, .int .i64 0, .int .i64 0, .int .i64 0, .int .i64 0, .int .i64 0, .slice none 0 0] 34)) (w.heap.size + 1)) := by
    have := Cells.new (w.alloc (.cells #[.int .i64 y.r.kind, .int .i64 y.r.lba, .int .i64 y.r.n, .int .i64 y.r.ver, .int .i64 y.r.zone, .int .i64 y.r.off, .slice y.D y.r.data.length y.c] 34)) #[.int .i64 0, .int .i64 0, .int .i64 0, .int .i64 0, .int .i64 0, .int .i64 0, .slice none 0 0] 34
    rw [World.size_alloc] at this
    exact this
  unfold rvV
  clear h
  go_enter Try.func27, Try.ntmps27
  go_upto_region 1 with fail
  generalize (w.alloc (.cells #[.int .i64 y.r.kind, .int .i64 y.r.lba, .int .i64 y.r.n, .int .i64 y.r.ver, .int .i64 y.r.zone, .int .i64 y.r.off, .slice y.D y.r.data.length y.c] 34)).alloc (.cells #[.int .i64 0, .int .i64 0, .int .i64 0, .int .i64 0, .int .i64 0, .int .i64 0, .slice none 0 0] 34) = w1 at *
  obtain ⟨m0, m1, m2, m3, m4, m5, m6⟩ := seven_cells X1.out
  obtain ⟨f0, f1, f2, f3, f4, f5, f6⟩ := seven_free X1.out
  go_upto_region 2 with (go_at_call 32; refine (HB w1 L1.out).out.mono ?_; rintro e w2 ⟨⟨B, d, rfl, hO⟩, hb⟩; have L2 := Lib.hid (L1.out.trans (hb.mono L1.out.size)); have X2 : Hid (RBox w2 w.heap.size y) := Cells.below X1.out hb; have Z2 : Hid (ZRec w2 (w.heap.size + 1)) := Cells.below Z1.out hb; have O2 := Lib.hid (hO.mono L1.out.size); clear hO hb m0 m1 m2 m3 m4 m5 m6 f0 f1 f2 f3 f4 f5 f6 L1 X1 Z1 HB; obtain ⟨m0, m1, m2, m3, m4, m5, m6⟩ := seven_cells X2.out; obtain ⟨f0, f1, f2, f3, f4, f5, f6⟩ := seven_free X2.out)
  have bt : Mov [w.heap.size] w2 (w2.setCell ⟨w.heap.size, 6, none⟩ (.slice B y.r.data.length d)) := Mov.set1 w2 (by simp) 6 _
  have L3 := Lib.hid (L2.out.trans (bt.up L2.out.size (Nat.le_refl _)))
  have X3 : Hid (RBox (w2.setCell ⟨w.heap.size, 6, none⟩ (.slice B y.r.data.length d)) w.heap.size ⟨y.r, B, d⟩) := by show Cells _ _ _ _; simpa using Cells.set_ X2.out 6 (.slice B y.r.data.length d)
  have Z3 : Hid (ZRec (w2.setCell ⟨w.heap.size, 6, none⟩ (.slice B y.r.data.length d)) (w.heap.size + 1)) := Cells.mov Z2.out bt (by simp)
  have O3 := Lib.hid ((Chg.mov X2.out bt).ownI O2.out (by decide))
  clear bt m0 m1 m2 m3 m4 m5 m6 f0 f1 f2 f3 f4 f5 f6 L2 X2 Z2 O2
  generalize w2.setCell ⟨w.heap.size, 6, none⟩ (.slice B y.r.data.length d) = w3 at *
  obtain ⟨m0, m1, m2, m3, m4, m5, m6⟩ := seven_cells X3.out
  obtain ⟨z0, z1, z2, z3, z4, z5, z6⟩ := seven_cells Z3.out
  obtain ⟨f0, f1, f2, f3, f4, f5, f6⟩ := seven_free Z3.out
  dsimp only at m0 m1 m2 m3 m4 m5 m6
  go_wp2_with fail
  have bt := mov7 w3 (w.heap.size + 1) (.int .i64 y.r.kind) (.int .i64 y.r.lba) (.int .i64 y.r.n) (.int .i64 y.r.ver) (.int .i64 y.r.zone) (.int .i64 y.r.off) (.slice B y.r.data.length d)
  have HR := set7 Z3.out (.int .i64 y.r.kind) (.int .i64 y.r.lba) (.int .i64 y.r.n) (.int .i64 y.r.ver) (.int .i64 y.r.zone) (.int .i64 y.r.off) (.slice B y.r.data.length d)
  have O4 := (Chg.mov Z3.out bt).ownI O3.out (by decide)
  refine bodyPost_ret_by (results_c0 rfl _ _ (w.heap.size + 1) _ _ _ _ rfl HR Try.underlying34 rfl (by kernel_rfl)) rfl ?_
  exact ⟨⟨y.r, B, d⟩, rfl, rfl, O4, L3.out.trans (bt.up L3.out.size (by omega))⟩
end Pk
end Go.Proofs.Ytedandbkdjmfhaa
