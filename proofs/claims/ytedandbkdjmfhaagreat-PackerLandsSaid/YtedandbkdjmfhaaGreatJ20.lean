/-
  SEVERAL TEXTS IN ONE FILE: PkFlush.
-/
import Derived.Test.YtedandbkdjmfhaaGreatJ19
set_option linter.unusedSimpArgs false
set_option linter.unusedVariables false
/-
  WALKS: packer.Flush.
-/
namespace Go.Proofs.YtedandbkdjmfhaaGreat
open Go.RowKit Mem Box
namespace Pk
open Seg (Hdr Rc Rv cellsOf cellsOf_len RowR hdV recV fits nums hnums nn goods frame headX recX frames check recB headB)
theorem owns_mov {α : Type} {f : α → Value} {u : TypeId} {base n g : Nat} {w w' : World} {s : Value} {l : List α} {t : TypeId} {cs : Array Value} (h : Mem.Owns f u base w s n l) (hc : Cells w g t cs) (hn : u ≠ t) (hm : Mov [g] w w') : Mem.Owns f u base w' s n l := (Chg.mov hc hm).ownI h hn
theorem mov6 (w : World) (g : Nat) (a b c d e f : Value) : Mov [g] w ((((((w.setCell ⟨g, 0, none⟩ a).setCell ⟨g, 1, none⟩ b).setCell ⟨g, 2, none⟩ c).setCell ⟨g, 3, none⟩ d).setCell ⟨g, 4, none⟩ e).setCell ⟨g, 5, none⟩ f) := by
  have s := fun (w : World) (i : Nat) (v : Value) => Mov.set1 w (S := [g]) (q := g) (by simp) i v
  have tr := fun {a b c : World} (h : Mov [g] a b) (k : Mov [g] b c) => h.trans k (fun _ h => .inl h)
  exact tr (tr (tr (tr (tr (s _ _ _) (s _ _ _)) (s _ _ _)) (s _ _ _)) (s _ _ _)) (s _ _ _)
theorem six_free {w : World} {g : Nat} {t : TypeId} {cs : Array Value} (h : Cells w g t cs) : w.frozen? ⟨g, 0, none⟩ = false ∧ w.frozen? ⟨g, 1, none⟩ = false ∧ w.frozen? ⟨g, 2, none⟩ = false ∧ w.frozen? ⟨g, 3, none⟩ = false ∧ w.frozen? ⟨g, 4, none⟩ = false ∧ w.frozen? ⟨g, 5, none⟩ = false := ⟨h.frozen 0, h.frozen 1, h.frozen 2, h.frozen 3, h.frozen 4, h.frozen 5⟩
theorem six_cells {w : World} {g : Nat} {t : TypeId} {a b c d e f : Value} (hc : Cells w g t #[a, b, c, d, e, f]) : w.cell? ⟨g, 0, none⟩ = some a ∧ w.cell? ⟨g, 1, none⟩ = some b ∧ w.cell? ⟨g, 2, none⟩ = some c ∧ w.cell? ⟨g, 3, none⟩ = some d ∧ w.cell? ⟨g, 4, none⟩ = some e ∧ w.cell? ⟨g, 5, none⟩ = some f := ⟨hc.cell 0, hc.cell 1, hc.cell 2, hc.cell 3, hc.cell 4, hc.cell 5⟩
theorem Cells.set8 {w : World} {g : Nat} {t : TypeId} {a b c d e f h i : Value} (hc : Cells w g t #[a, b, c, d, e, f, h, i]) (a' b' c' d' e' f' h' i' : Value) : Cells ((((((((w.setCell ⟨g, 0, none⟩ a').setCell ⟨g, 1, none⟩ b').setCell ⟨g, 2, none⟩ c').setCell ⟨g, 3, none⟩ d').setCell ⟨g, 4, none⟩ e').setCell ⟨g, 5, none⟩ f').setCell ⟨g, 6, none⟩ h').setCell ⟨g, 7, none⟩ i') g t #[a', b', c', d', e', f', h', i'] := Pk.set8 hc _ _ _ _ _ _ _ _
theorem Mov.set8 (w : World) (g : Nat) (a b c d e f h i : Value) : Mov [g] w ((((((((w.setCell ⟨g, 0, none⟩ a).setCell ⟨g, 1, none⟩ b).setCell ⟨g, 2, none⟩ c).setCell ⟨g, 3, none⟩ d).setCell ⟨g, 4, none⟩ e).setCell ⟨g, 5, none⟩ f).setCell ⟨g, 6, none⟩ h).setCell ⟨g, 7, none⟩ i) := mov8 w g _ _ _ _ _ _ _ _
/-- An append and the pack behind it, as a call gave them. -/
def GaveC (w : World) (p : Pp) (e : Ending) (w' : World) : Prop := ∃ B d y, e = .returned (.tuple #[.agg #[.int .i64 1, .int .i64 p.zone, .int .i64 p.h.epoch, .int .i64 0, .int .i64 0, .slice B p.buf.length d], pxv y, .bool true]) ∧ y.p = behindP p ∧ OwnP w.heap.size w' y ∧ OwnB1 w.heap.size w' B d p.buf ∧ Below w.heap.size w w'
/-- Nothing, and the pack itself. -/
def GaveN (w : World) (p : Pp) (e : Ending) (w' : World) : Prop := ∃ y, e = .returned (.tuple #[.agg #[.int .i64 0, .int .i64 0, .int .i64 0, .int .i64 0, .int .i64 0, .slice none 0 0], pxv y, .bool false]) ∧ y.p = p ∧ OwnP w.heap.size w' y ∧ Below w.heap.size w w'
set_option maxRecDepth 100000 in
set_option maxHeartbeats 6400000 in
theorem flush_none {x : Px} {w : World} (h : PackAt w x) (ho : OkP x.p) (h0 : x.p.buf.length = 0) : Calls Tryz.prog 10 #[pxv x] w (GaveN w x.p) := by
  have HC := fun W (hW : Below w.heap.size w W) => Lib.hid (cloned_any (h.below hW) ho)
  have hd : ((x.p.buf.length : Int) == 0) = true := by rw [h0]; rfl
  have L1 : Hid (Below w.heap.size w (((w.alloc (.cells #[.int .i64 x.p.h.host, .int .i64 x.p.h.epoch, .int .i64 x.p.h.seq, .int .i64 x.p.zone, .int .i64 x.p.cap, .int .i64 x.p.at_, .slice x.B x.p.buf.length x.bc, .slice x.L x.p.l.length x.lc] 35)).alloc (.cells #[.int .i64 0, .int .i64 0, .int .i64 0, .int .i64 0, .int .i64 0, .slice none 0 0] 43)).alloc (.cells #[.int .i64 0, .int .i64 0, .int .i64 0, .int .i64 0, .int .i64 0, .int .i64 0, .slice none 0 0, .slice none 0 0] 35))) := ((((Below.refl _ w).alloc (by first | exact Nat.le_refl _ | (simp; try omega)) _).alloc (by first | exact Nat.le_refl _ | (simp; try omega)) _).alloc (by first | exact Nat.le_refl _ | (simp; try omega)) _)
  have X1 : Hid (PBox (((w.alloc (.cells #[.int .i64 x.p.h.host, .int .i64 x.p.h.epoch, .int .i64 x.p.h.seq, .int .i64 x.p.zone, .int .i64 x.p.cap, .int .i64 x.p.at_, .slice x.B x.p.buf.length x.bc, .slice x.L x.p.l.length x.lc] 35)).alloc (.cells #[.int .i64 0, .int .i64 0, .int .i64 0, .int .i64 0, .int .i64 0, .slice none 0 0] 43)).alloc (.cells #[.int .i64 0, .int .i64 0, .int .i64 0, .int .i64 0, .int .i64 0, .int .i64 0, .slice none 0 0, .slice none 0 0] 35)) w.heap.size x) := Cells.alloc (Cells.alloc (Cells.new _ _ _) _) _
  have Z1 : Hid (Cells (((w.alloc (.cells #[.int .i64 x.p.h.host, .int .i64 x.p.h.epoch, .int .i64 x.p.h.seq, .int .i64 x.p.zone, .int .i64 x.p.cap, .int .i64 x.p.at_, .slice x.B x.p.buf.length x.bc, .slice x.L x.p.l.length x.lc] 35)).alloc (.cells #[.int .i64 0, .int .i64 0, .int .i64 0, .int .i64 0, .int .i64 0, .slice none 0 0] 43)).alloc (.cells #[.int .i64 0, .int .i64 0, .int .i64 0, .int .i64 0, .int .i64 0, .int .i64 0, .slice none 0 0, .slice none 0 0] 35)) (w.heap.size + 1) 43 #[.int .i64 0, .int .i64 0, .int .i64 0, .int .i64 0, .int .i64 0, .slice none 0 0]) := by
    have := Cells.new (w.alloc (.cells #[.int .i64 x.p.h.host, .int .i64 x.p.h.epoch, .int .i64 x.p.h.seq, .int .i64 x.p.zone, .int .i64 x.p.cap, .int .i64 x.p.at_, .slice x.B x.p.buf.length x.bc, .slice x.L x.p.l.length x.lc] 35)) #[.int .i64 0, .int .i64 0, .int .i64 0, .int .i64 0, .int .i64 0, .slice none 0 0] 43
    rw [World.size_alloc] at this
    exact Cells.alloc this _
  have Y1 : Hid (ZBox (((w.alloc (.cells #[.int .i64 x.p.h.host, .int .i64 x.p.h.epoch, .int .i64 x.p.h.seq, .int .i64 x.p.zone, .int .i64 x.p.cap, .int .i64 x.p.at_, .slice x.B x.p.buf.length x.bc, .slice x.L x.p.l.length x.lc] 35)).alloc (.cells #[.int .i64 0, .int .i64 0, .int .i64 0, .int .i64 0, .int .i64 0, .slice none 0 0] 43)).alloc (.cells #[.int .i64 0, .int .i64 0, .int .i64 0, .int .i64 0, .int .i64 0, .int .i64 0, .slice none 0 0, .slice none 0 0] 35)) (w.heap.size + 1 + 1)) := by
    have := Cells.new ((w.alloc (.cells #[.int .i64 x.p.h.host, .int .i64 x.p.h.epoch, .int .i64 x.p.h.seq, .int .i64 x.p.zone, .int .i64 x.p.cap, .int .i64 x.p.at_, .slice x.B x.p.buf.length x.bc, .slice x.L x.p.l.length x.lc] 35)).alloc (.cells #[.int .i64 0, .int .i64 0, .int .i64 0, .int .i64 0, .int .i64 0, .slice none 0 0] 43)) #[.int .i64 0, .int .i64 0, .int .i64 0, .int .i64 0, .int .i64 0, .int .i64 0, .slice none 0 0, .slice none 0 0] 35
    (try simp only [World.size_alloc] at this)
    exact this
  unfold pxv at *
  clear h ho h0
  go_enter Tryz.func10, Tryz.ntmps10
  go_upto_region 1 with fail
  generalize ((w.alloc (.cells #[.int .i64 x.p.h.host, .int .i64 x.p.h.epoch, .int .i64 x.p.h.seq, .int .i64 x.p.zone, .int .i64 x.p.cap, .int .i64 x.p.at_, .slice x.B x.p.buf.length x.bc, .slice x.L x.p.l.length x.lc] 35)).alloc (.cells #[.int .i64 0, .int .i64 0, .int .i64 0, .int .i64 0, .int .i64 0, .slice none 0 0] 43)).alloc (.cells #[.int .i64 0, .int .i64 0, .int .i64 0, .int .i64 0, .int .i64 0, .int .i64 0, .slice none 0 0, .slice none 0 0] 35) = w1 at *
  obtain ⟨m0, m1, m2, m3, m4, m5, m6, m7⟩ := eight_cells X1.out
  go_upto_region 2 with fail
  go_wp2_with (go_at_call 18; refine (HC w1 L1.out).out.mono ?_; rintro e w2 ⟨y, rfl, hy, hO, hb⟩; have L2 := Lib.hid (L1.out.trans (hb.mono L1.out.size)); have Z2 := Lib.hid (Cells.below Z1.out hb); have Y2 : Hid (ZBox w2 (w.heap.size + 1 + 1)) := Cells.below Y1.out hb; have O2 := Lib.hid (hO.mono L1.out.size); have HY := Lib.hid hy; clear hy hO hb m0 m1 m2 m3 m4 m5 m6 m7 L1 X1 Z1 Y1 HC; obtain ⟨z0, z1, z2, z3, z4, z5⟩ := six_cells Z2.out; obtain ⟨f0, f1, f2, f3, f4, f5⟩ := six_free Z2.out; obtain ⟨y0, y1, y2, y3, y4, y5, y6, y7⟩ := eight_cells Y2.out; obtain ⟨g0, g1, g2, g3, g4, g5, g6, g7⟩ := eight_free Y2.out; unfold pxv)
  have bt := mov6 w2 (w.heap.size + 1) (.int .i64 0) (.int .i64 0) (.int .i64 0) (.int .i64 0) (.int .i64 0) (.slice none 0 0)
  have Z3 := Lib.hid (Cells.set6 Z2.out (.int .i64 0) (.int .i64 0) (.int .i64 0) (.int .i64 0) (.int .i64 0) (.slice none 0 0))
  have Y3 : Hid (ZBox _ (w.heap.size + 1 + 1)) := Lib.hid (Cells.mov Y2.out bt (by simp))
  have O3 := Lib.hid (OwnP.chg O2.out (Chg.mov Z2.out bt) (by decide) (by decide))
  have L3 := Lib.hid (L2.out.trans (bt.up L2.out.size (by omega)))
  have bt := mov8 ((((((w2.setCell ⟨w.heap.size + 1, 0, none⟩ (.int .i64 0)).setCell ⟨w.heap.size + 1, 1, none⟩ (.int .i64 0)).setCell ⟨w.heap.size + 1, 2, none⟩ (.int .i64 0)).setCell ⟨w.heap.size + 1, 3, none⟩ (.int .i64 0)).setCell ⟨w.heap.size + 1, 4, none⟩ (.int .i64 0)).setCell ⟨w.heap.size + 1, 5, none⟩ (.slice none 0 0)) (w.heap.size + 1 + 1) (.int .i64 y.p.h.host) (.int .i64 y.p.h.epoch) (.int .i64 y.p.h.seq) (.int .i64 y.p.zone) (.int .i64 y.p.cap) (.int .i64 y.p.at_) (.slice y.B y.p.buf.length y.bc) (.slice y.L y.p.l.length y.lc)
  have Z4 := Lib.hid (Cells.mov Z3.out bt (by simp))
  have Y4 := Lib.hid (set8 Y3.out (.int .i64 y.p.h.host) (.int .i64 y.p.h.epoch) (.int .i64 y.p.h.seq) (.int .i64 y.p.zone) (.int .i64 y.p.cap) (.int .i64 y.p.at_) (.slice y.B y.p.buf.length y.bc) (.slice y.L y.p.l.length y.lc))
  have O4 := OwnP.chg O3.out (Chg.mov Y3.out bt) (by decide) (by decide)
  refine bodyPost_ret_by (results_cc1 rfl _ _ (w.heap.size + 1) (w.heap.size + 1 + 1) _ _ _ _ _ _ _ _ rfl Z4.out Tryz.underlying43 rfl (by kernel_rfl) rfl Y4.out Tryz.underlying35 rfl (by kernel_rfl)) rfl ?_
  exact ⟨y, rfl, HY.out, O4, L3.out.trans (bt.up L3.out.size (by omega))⟩
set_option maxRecDepth 100000 in
set_option maxHeartbeats 12800000 in
theorem flush_some {x : Px} {w : World} (h : PackAt w x) (ho : OkP x.p) (h0 : 0 < x.p.buf.length) : Calls Tryz.prog 10 #[pxv x] w (GaveC w x.p) := by
  have HB := fun W (hW : Below w.heap.size w W) => Lib.hid (cloneB_any (h.buf.below hW))
  have HE := fun w => Lib.hid (end_any x w ho.at0 (by have := ho.at_le; omega) (by have := ho.buf_le; omega))
  have hd : ((x.p.buf.length : Int) == 0) = false := by rw [beq_eq_false_iff_ne]; omega
  have L1 : Hid (Below w.heap.size w (((w.alloc (.cells #[.int .i64 x.p.h.host, .int .i64 x.p.h.epoch, .int .i64 x.p.h.seq, .int .i64 x.p.zone, .int .i64 x.p.cap, .int .i64 x.p.at_, .slice x.B x.p.buf.length x.bc, .slice x.L x.p.l.length x.lc] 35)).alloc (.cells #[.int .i64 0, .int .i64 0, .int .i64 0, .int .i64 0, .int .i64 0, .slice none 0 0] 43)).alloc (.cells #[.int .i64 0, .int .i64 0, .int .i64 0, .int .i64 0, .int .i64 0, .int .i64 0, .slice none 0 0, .slice none 0 0] 35))) := ((((Below.refl _ w).alloc (by first | exact Nat.le_refl _ | (simp; try omega)) _).alloc (by first | exact Nat.le_refl _ | (simp; try omega)) _).alloc (by first | exact Nat.le_refl _ | (simp; try omega)) _)
  have X1 : Hid (PBox (((w.alloc (.cells #[.int .i64 x.p.h.host, .int .i64 x.p.h.epoch, .int .i64 x.p.h.seq, .int .i64 x.p.zone, .int .i64 x.p.cap, .int .i64 x.p.at_, .slice x.B x.p.buf.length x.bc, .slice x.L x.p.l.length x.lc] 35)).alloc (.cells #[.int .i64 0, .int .i64 0, .int .i64 0, .int .i64 0, .int .i64 0, .slice none 0 0] 43)).alloc (.cells #[.int .i64 0, .int .i64 0, .int .i64 0, .int .i64 0, .int .i64 0, .int .i64 0, .slice none 0 0, .slice none 0 0] 35)) w.heap.size x) := Cells.alloc (Cells.alloc (Cells.new _ _ _) _) _
  have Z1 : Hid (Cells (((w.alloc (.cells #[.int .i64 x.p.h.host, .int .i64 x.p.h.epoch, .int .i64 x.p.h.seq, .int .i64 x.p.zone, .int .i64 x.p.cap, .int .i64 x.p.at_, .slice x.B x.p.buf.length x.bc, .slice x.L x.p.l.length x.lc] 35)).alloc (.cells #[.int .i64 0, .int .i64 0, .int .i64 0, .int .i64 0, .int .i64 0, .slice none 0 0] 43)).alloc (.cells #[.int .i64 0, .int .i64 0, .int .i64 0, .int .i64 0, .int .i64 0, .int .i64 0, .slice none 0 0, .slice none 0 0] 35)) (w.heap.size + 1) 43 #[.int .i64 0, .int .i64 0, .int .i64 0, .int .i64 0, .int .i64 0, .slice none 0 0]) := by
    have := Cells.new (w.alloc (.cells #[.int .i64 x.p.h.host, .int .i64 x.p.h.epoch, .int .i64 x.p.h.seq, .int .i64 x.p.zone, .int .i64 x.p.cap, .int .i64 x.p.at_, .slice x.B x.p.buf.length x.bc, .slice x.L x.p.l.length x.lc] 35)) #[.int .i64 0, .int .i64 0, .int .i64 0, .int .i64 0, .int .i64 0, .slice none 0 0] 43
    rw [World.size_alloc] at this
    exact Cells.alloc this _
  have Y1 : Hid (ZBox (((w.alloc (.cells #[.int .i64 x.p.h.host, .int .i64 x.p.h.epoch, .int .i64 x.p.h.seq, .int .i64 x.p.zone, .int .i64 x.p.cap, .int .i64 x.p.at_, .slice x.B x.p.buf.length x.bc, .slice x.L x.p.l.length x.lc] 35)).alloc (.cells #[.int .i64 0, .int .i64 0, .int .i64 0, .int .i64 0, .int .i64 0, .slice none 0 0] 43)).alloc (.cells #[.int .i64 0, .int .i64 0, .int .i64 0, .int .i64 0, .int .i64 0, .int .i64 0, .slice none 0 0, .slice none 0 0] 35)) (w.heap.size + 1 + 1)) := by
    have := Cells.new ((w.alloc (.cells #[.int .i64 x.p.h.host, .int .i64 x.p.h.epoch, .int .i64 x.p.h.seq, .int .i64 x.p.zone, .int .i64 x.p.cap, .int .i64 x.p.at_, .slice x.B x.p.buf.length x.bc, .slice x.L x.p.l.length x.lc] 35)).alloc (.cells #[.int .i64 0, .int .i64 0, .int .i64 0, .int .i64 0, .int .i64 0, .slice none 0 0] 43)) #[.int .i64 0, .int .i64 0, .int .i64 0, .int .i64 0, .int .i64 0, .int .i64 0, .slice none 0 0, .slice none 0 0] 35
    (try simp only [World.size_alloc] at this)
    exact this
  unfold pxv at *
  clear h ho h0
  go_enter Tryz.func10, Tryz.ntmps10
  go_upto_region 1 with fail
  generalize ((w.alloc (.cells #[.int .i64 x.p.h.host, .int .i64 x.p.h.epoch, .int .i64 x.p.h.seq, .int .i64 x.p.zone, .int .i64 x.p.cap, .int .i64 x.p.at_, .slice x.B x.p.buf.length x.bc, .slice x.L x.p.l.length x.lc] 35)).alloc (.cells #[.int .i64 0, .int .i64 0, .int .i64 0, .int .i64 0, .int .i64 0, .slice none 0 0] 43)).alloc (.cells #[.int .i64 0, .int .i64 0, .int .i64 0, .int .i64 0, .int .i64 0, .int .i64 0, .slice none 0 0, .slice none 0 0] 35) = w1 at *
  obtain ⟨m0, m1, m2, m3, m4, m5, m6, m7⟩ := eight_cells X1.out
  go_upto_region 3 with fail
  clear m0 m1 m2 m3 m4 m5 m6 m7
  have L2 := Lib.hid L1.out.drew
  have X2 := Lib.hid (Cells.below X1.out ((Below.refl _ w1).drew))
  have Z2 := Lib.hid (Cells.below Z1.out ((Below.refl _ w1).drew))
  have Y2 := Lib.hid (Cells.below Y1.out ((Below.refl _ w1).drew))
  refine wp_region_held_drew (S := fun W => W.cell? ⟨w.heap.size, 1, none⟩ = some (.int .i64 x.p.h.epoch) ∧ W.cell? ⟨w.heap.size, 3, none⟩ = some (.int .i64 x.p.zone) ∧ W.cell? ⟨w.heap.size, 6, none⟩ = some (.slice x.B x.p.buf.length x.bc)) (by kernel_rfl) (⟨Cells.cell X2.out 1, Cells.cell X2.out 3, Cells.cell X2.out 6⟩) (fun hHeld => ?_)
  generalize w1.drew = w2 at *
  clear L1 X1 Z1 Y1 
  refine Reg.tk 0 rfl ?_
  refine Reg.tk 1 rfl ?_
  refine Reg.tk 2 rfl ?_
  refine Reg.tk 3 rfl ?_
  refine Reg.tk 4 rfl ?_
  refine Reg.tk 5 rfl ?_
  refine Reg.tk 6 rfl ?_
  refine Reg.step2 7 9 rfl rfl (by kernel_rfl) (by rfl) (by rfl) (fun K hK => ?_) (fun K hK => ?_)
  · skip
    go_simp
    refine ((HB _ L2.out).out).mono ?_
    rintro e w3 ⟨⟨B, d, rfl, hO⟩, hb⟩
    have L3 := Lib.hid (L2.out.trans (hb.mono L2.out.size))
    have X3 := Lib.hid (Cells.below X2.out hb)
    have Z3 := Lib.hid (Cells.below Z2.out hb)
    have Y3 := Lib.hid (Cells.below Y2.out hb)
    have O3 := Lib.hid (hO.mono L2.out.size)
    clear hb hHeld hO HB
    clear L2 X2 Z2 Y2 
    refine hK.out _ _ (⟨Cells.cell X3.out 1, Cells.cell X3.out 3, Cells.cell X3.out 6⟩) (fun hHeld => ?_)
    clear hK K
    (try simp only [Act.put, List.setIfInBounds_toArray, List.set_cons_zero, List.set_cons_succ])
    refine Reg.tk 8 rfl ?_
    refine Reg.step 9 rfl (by kernel_rfl) (by rfl) (fun K hK => ?_)
    go_simp
    have bb : Below w3.heap.size w3 (w3.alloc (.cells #[.int .i64 0, .int .i64 0, .int .i64 0, .int .i64 0, .int .i64 0, .slice none 0 0] 43)) := (Below.refl _ w3).alloc (Nat.le_refl _) _
    have C4 := Lib.hid (Cells.new w3 #[.int .i64 0, .int .i64 0, .int .i64 0, .int .i64 0, .int .i64 0, .slice none 0 0] 43)
    have L4 := Lib.hid (L3.out.trans (bb.mono L3.out.size))
    have X4 := Lib.hid (Cells.below X3.out bb)
    have Z4 := Lib.hid (Cells.below Z3.out bb)
    have Y4 := Lib.hid (Cells.below Y3.out bb)
    have O4 := Lib.hid (Mem.Owns.below O3.out bb)
    obtain ⟨q, hq⟩ : ∃ p, p = w3.heap.size := ⟨_, rfl⟩
    rw [← hq] at C4
    rw [← hq]
    have Gq : Hid (q = w3.heap.size) := hq
    have NQ : Hid (w.heap.size ≠ q ∧ w.heap.size + 1 ≠ q ∧ w.heap.size + 1 + 1 ≠ q ∧ w.heap.size ≤ q) := by have h1 := Cells.lt X3.out; have h2 := Cells.lt Z3.out; have h3 := Cells.lt Y3.out; have h4 := Gq.out; exact ⟨by omega, by omega, by omega, by omega⟩
    clear bb hHeld hq
    clear L3 X3 Z3 Y3 O3 
    generalize w3.alloc (.cells #[.int .i64 0, .int .i64 0, .int .i64 0, .int .i64 0, .int .i64 0, .slice none 0 0] 43) = w4 at *
    refine hK.out _ _ (⟨Cells.cell X4.out 1, Cells.cell X4.out 3, Cells.cell X4.out 6⟩) (fun hHeld => ?_)
    clear hK K
    (try simp only [Act.put, List.setIfInBounds_toArray, List.set_cons_zero, List.set_cons_succ])
    have y0 := Cells.cell C4.out 0
    have f0 := Cells.frozen C4.out 0
    have y1 := Cells.cell C4.out 1
    have f1 := Cells.frozen C4.out 1
    have y2 := Cells.cell C4.out 2
    have f2 := Cells.frozen C4.out 2
    have y3 := Cells.cell C4.out 3
    have f3 := Cells.frozen C4.out 3
    have y4 := Cells.cell C4.out 4
    have f4 := Cells.frozen C4.out 4
    have y5 := Cells.cell C4.out 5
    have f5 := Cells.frozen C4.out 5
    refine Reg.step 10 rfl (by kernel_rfl) (by rfl) (fun K hK => ?_)
    go_simp
    have bt : Mov [q] w4 ((((((w4.setCell ⟨q, 0, none⟩ (.int .i64 1)).setCell ⟨q, 1, none⟩ (.int .i64 x.p.zone)).setCell ⟨q, 2, none⟩ (.int .i64 x.p.h.epoch)).setCell ⟨q, 3, none⟩ (.int .i64 0)).setCell ⟨q, 4, none⟩ (.int .i64 0)).setCell ⟨q, 5, none⟩ (.slice B x.p.buf.length d)) := Mov.set6 _ _ _ _ _ _ _ _
    have L5 := Lib.hid (L4.out.trans (bt.up L4.out.size (NQ.out.2.2.2)))
    have X5 := Lib.hid (Cells.mov X4.out bt (by simpa using NQ.out.1))
    have Z5 := Lib.hid (Cells.mov Z4.out bt (by simpa using NQ.out.2.1))
    have Y5 := Lib.hid (Cells.mov Y4.out bt (by simpa using NQ.out.2.2.1))
    have O5 := Lib.hid (owns_mov O4.out C4.out (by decide) bt)
    have C5 : Hid (Cells ((((((w4.setCell ⟨q, 0, none⟩ (.int .i64 1)).setCell ⟨q, 1, none⟩ (.int .i64 x.p.zone)).setCell ⟨q, 2, none⟩ (.int .i64 x.p.h.epoch)).setCell ⟨q, 3, none⟩ (.int .i64 0)).setCell ⟨q, 4, none⟩ (.int .i64 0)).setCell ⟨q, 5, none⟩ (.slice B x.p.buf.length d)) (q) 43 #[.int .i64 1, .int .i64 x.p.zone, .int .i64 x.p.h.epoch, .int .i64 0, .int .i64 0, .slice B x.p.buf.length d]) := Cells.set6 C4.out _ _ _ _ _ _
    clear bt hHeld y0 f0 y1 f1 y2 f2 y3 f3 y4 f4 y5 f5
    clear L4 X4 Z4 Y4 O4 C4 
    generalize (((((w4.setCell ⟨q, 0, none⟩ (.int .i64 1)).setCell ⟨q, 1, none⟩ (.int .i64 x.p.zone)).setCell ⟨q, 2, none⟩ (.int .i64 x.p.h.epoch)).setCell ⟨q, 3, none⟩ (.int .i64 0)).setCell ⟨q, 4, none⟩ (.int .i64 0)).setCell ⟨q, 5, none⟩ (.slice B x.p.buf.length d) = w5 at *
    refine hK.out _ _ (⟨Cells.cell X5.out 1, Cells.cell X5.out 3, Cells.cell X5.out 6⟩) (fun hHeld => ?_)
    clear hK K
    (try simp only [Act.put, List.setIfInBounds_toArray, List.set_cons_zero, List.set_cons_succ])
    refine wpAnyH_done (by kernel_rfl) ?_ _
    clear hHeld
    go_upto_region 4 with fail
    have L6 := Lib.hid L5.out.drew
    have X6 := Lib.hid (Cells.below X5.out ((Below.refl _ w5).drew))
    have Z6 := Lib.hid (Cells.below Z5.out ((Below.refl _ w5).drew))
    have Y6 := Lib.hid (Cells.below Y5.out ((Below.refl _ w5).drew))
    have O6 := Lib.hid (Mem.Owns.below O5.out ((Below.refl _ w5).drew))
    have C6 := Lib.hid (Cells.below C5.out ((Below.refl _ w5).drew))
    refine wp_region_held_drew (S := fun W => W.cell? ⟨w.heap.size, 0, none⟩ = some (.int .i64 x.p.h.host) ∧ W.cell? ⟨w.heap.size, 1, none⟩ = some (.int .i64 x.p.h.epoch) ∧ W.cell? ⟨w.heap.size, 2, none⟩ = some (.int .i64 x.p.h.seq) ∧ W.cell? ⟨w.heap.size, 3, none⟩ = some (.int .i64 x.p.zone) ∧ W.cell? ⟨w.heap.size, 4, none⟩ = some (.int .i64 x.p.cap) ∧ W.cell? ⟨w.heap.size, 5, none⟩ = some (.int .i64 x.p.at_) ∧ W.cell? ⟨w.heap.size, 6, none⟩ = some (.slice x.B x.p.buf.length x.bc) ∧ W.cell? ⟨w.heap.size, 7, none⟩ = some (.slice x.L x.p.l.length x.lc) ∧ W.cell? ⟨q, 0, none⟩ = some (.int .i64 1) ∧ W.cell? ⟨q, 1, none⟩ = some (.int .i64 x.p.zone) ∧ W.cell? ⟨q, 2, none⟩ = some (.int .i64 x.p.h.epoch) ∧ W.cell? ⟨q, 3, none⟩ = some (.int .i64 0) ∧ W.cell? ⟨q, 4, none⟩ = some (.int .i64 0) ∧ W.cell? ⟨q, 5, none⟩ = some (.slice B x.p.buf.length d)) (by kernel_rfl) (⟨Cells.cell X6.out 0, Cells.cell X6.out 1, Cells.cell X6.out 2, Cells.cell X6.out 3, Cells.cell X6.out 4, Cells.cell X6.out 5, Cells.cell X6.out 6, Cells.cell X6.out 7, Cells.cell C6.out 0, Cells.cell C6.out 1, Cells.cell C6.out 2, Cells.cell C6.out 3, Cells.cell C6.out 4, Cells.cell C6.out 5⟩) (fun hHeld => ?_)
    generalize w5.drew = w6 at *
    clear L5 X5 Z5 Y5 O5 C5 
    refine Reg.tk 0 rfl ?_
    refine Reg.tk 1 rfl ?_
    refine Reg.tk 2 rfl ?_
    refine Reg.tk 3 rfl ?_
    refine Reg.tk 4 rfl ?_
    refine Reg.tk 5 rfl ?_
    refine Reg.tk 6 rfl ?_
    refine Reg.tk 7 rfl ?_
    refine Reg.step 8 rfl (by kernel_rfl) (by rfl) (fun K hK => ?_)
    go_simp
    refine ((HE w6).out).mono ?_
    rintro e w7 ⟨rfl, hb⟩
    have L7 := Lib.hid (L6.out.trans (hb.mono L6.out.size))
    have X7 := Lib.hid (Cells.below X6.out hb)
    have Z7 := Lib.hid (Cells.below Z6.out hb)
    have Y7 := Lib.hid (Cells.below Y6.out hb)
    have O7 := Lib.hid (Mem.Owns.below O6.out hb)
    have C7 := Lib.hid (Cells.below C6.out hb)
    clear hb hHeld 
    clear L6 X6 Z6 Y6 O6 C6 
    refine hK.out _ _ (⟨Cells.cell X7.out 0, Cells.cell X7.out 1, Cells.cell X7.out 2, Cells.cell X7.out 3, Cells.cell X7.out 4, Cells.cell X7.out 5, Cells.cell X7.out 6, Cells.cell X7.out 7, Cells.cell C7.out 0, Cells.cell C7.out 1, Cells.cell C7.out 2, Cells.cell C7.out 3, Cells.cell C7.out 4, Cells.cell C7.out 5⟩) (fun hHeld => ?_)
    clear hK K
    (try simp only [Act.put, List.setIfInBounds_toArray, List.set_cons_zero, List.set_cons_succ])
    refine Reg.tk 9 rfl ?_
    have y0 := Cells.cell Z7.out 0
    have f0 := Cells.frozen Z7.out 0
    have y1 := Cells.cell Z7.out 1
    have f1 := Cells.frozen Z7.out 1
    have y2 := Cells.cell Z7.out 2
    have f2 := Cells.frozen Z7.out 2
    have y3 := Cells.cell Z7.out 3
    have f3 := Cells.frozen Z7.out 3
    have y4 := Cells.cell Z7.out 4
    have f4 := Cells.frozen Z7.out 4
    have y5 := Cells.cell Z7.out 5
    have f5 := Cells.frozen Z7.out 5
    refine Reg.step 10 rfl (by kernel_rfl) (by rfl) (fun K hK => ?_)
    go_simp
    have bt : Mov [(w.heap.size + 1)] w7 ((((((w7.setCell ⟨(w.heap.size + 1), 0, none⟩ (.int .i64 1)).setCell ⟨(w.heap.size + 1), 1, none⟩ (.int .i64 x.p.zone)).setCell ⟨(w.heap.size + 1), 2, none⟩ (.int .i64 x.p.h.epoch)).setCell ⟨(w.heap.size + 1), 3, none⟩ (.int .i64 0)).setCell ⟨(w.heap.size + 1), 4, none⟩ (.int .i64 0)).setCell ⟨(w.heap.size + 1), 5, none⟩ (.slice B x.p.buf.length d)) := Mov.set6 _ _ _ _ _ _ _ _
    have L8 := Lib.hid (L7.out.trans (bt.up L7.out.size (by omega)))
    have X8 := Lib.hid (Cells.mov X7.out bt (by simp; try omega))
    have Z8 : Hid (Cells ((((((w7.setCell ⟨(w.heap.size + 1), 0, none⟩ (.int .i64 1)).setCell ⟨(w.heap.size + 1), 1, none⟩ (.int .i64 x.p.zone)).setCell ⟨(w.heap.size + 1), 2, none⟩ (.int .i64 x.p.h.epoch)).setCell ⟨(w.heap.size + 1), 3, none⟩ (.int .i64 0)).setCell ⟨(w.heap.size + 1), 4, none⟩ (.int .i64 0)).setCell ⟨(w.heap.size + 1), 5, none⟩ (.slice B x.p.buf.length d)) ((w.heap.size + 1)) 43 #[.int .i64 1, .int .i64 x.p.zone, .int .i64 x.p.h.epoch, .int .i64 0, .int .i64 0, .slice B x.p.buf.length d]) := Cells.set6 Z7.out _ _ _ _ _ _
    have Y8 := Lib.hid (Cells.mov Y7.out bt (by simp; try omega))
    have O8 := Lib.hid (owns_mov O7.out Z7.out (by decide) bt)
    have C8 := Lib.hid (Cells.mov C7.out bt (by simpa using NQ.out.2.1.symm))
    clear bt hHeld y0 f0 y1 f1 y2 f2 y3 f3 y4 f4 y5 f5
    clear L7 X7 Z7 Y7 O7 C7 
    generalize (((((w7.setCell ⟨(w.heap.size + 1), 0, none⟩ (.int .i64 1)).setCell ⟨(w.heap.size + 1), 1, none⟩ (.int .i64 x.p.zone)).setCell ⟨(w.heap.size + 1), 2, none⟩ (.int .i64 x.p.h.epoch)).setCell ⟨(w.heap.size + 1), 3, none⟩ (.int .i64 0)).setCell ⟨(w.heap.size + 1), 4, none⟩ (.int .i64 0)).setCell ⟨(w.heap.size + 1), 5, none⟩ (.slice B x.p.buf.length d) = w8 at *
    refine hK.out _ _ (⟨Cells.cell X8.out 0, Cells.cell X8.out 1, Cells.cell X8.out 2, Cells.cell X8.out 3, Cells.cell X8.out 4, Cells.cell X8.out 5, Cells.cell X8.out 6, Cells.cell X8.out 7, Cells.cell C8.out 0, Cells.cell C8.out 1, Cells.cell C8.out 2, Cells.cell C8.out 3, Cells.cell C8.out 4, Cells.cell C8.out 5⟩) (fun hHeld => ?_)
    clear hK K
    (try simp only [Act.put, List.setIfInBounds_toArray, List.set_cons_zero, List.set_cons_succ])
    have y0 := Cells.cell Y8.out 0
    have f0 := Cells.frozen Y8.out 0
    have y1 := Cells.cell Y8.out 1
    have f1 := Cells.frozen Y8.out 1
    have y2 := Cells.cell Y8.out 2
    have f2 := Cells.frozen Y8.out 2
    have y3 := Cells.cell Y8.out 3
    have f3 := Cells.frozen Y8.out 3
    have y4 := Cells.cell Y8.out 4
    have f4 := Cells.frozen Y8.out 4
    have y5 := Cells.cell Y8.out 5
    have f5 := Cells.frozen Y8.out 5
    have y6 := Cells.cell Y8.out 6
    have f6 := Cells.frozen Y8.out 6
    have y7 := Cells.cell Y8.out 7
    have f7 := Cells.frozen Y8.out 7
    refine Reg.step 11 rfl (by kernel_rfl) (by rfl) (fun K hK => ?_)
    go_simp
    have bt : Mov [(w.heap.size + 1 + 1)] w8 ((((((((w8.setCell ⟨(w.heap.size + 1 + 1), 0, none⟩ (.int .i64 x.p.h.host)).setCell ⟨(w.heap.size + 1 + 1), 1, none⟩ (.int .i64 x.p.h.epoch)).setCell ⟨(w.heap.size + 1 + 1), 2, none⟩ (.int .i64 x.p.h.seq)).setCell ⟨(w.heap.size + 1 + 1), 3, none⟩ (.int .i64 x.p.zone)).setCell ⟨(w.heap.size + 1 + 1), 4, none⟩ (.int .i64 x.p.cap)).setCell ⟨(w.heap.size + 1 + 1), 5, none⟩ (.int .i64 (x.p.at_ + (x.p.buf.length : Int)))).setCell ⟨(w.heap.size + 1 + 1), 6, none⟩ (.slice none 0 0)).setCell ⟨(w.heap.size + 1 + 1), 7, none⟩ (.slice none 0 0)) := Mov.set8 _ _ _ _ _ _ _ _ _ _
    have L9 := Lib.hid (L8.out.trans (bt.up L8.out.size (by omega)))
    have X9 := Lib.hid (Cells.mov X8.out bt (by simp; try omega))
    have Z9 := Lib.hid (Cells.mov Z8.out bt (by simp; try omega))
    have Y9 : Hid (Cells ((((((((w8.setCell ⟨(w.heap.size + 1 + 1), 0, none⟩ (.int .i64 x.p.h.host)).setCell ⟨(w.heap.size + 1 + 1), 1, none⟩ (.int .i64 x.p.h.epoch)).setCell ⟨(w.heap.size + 1 + 1), 2, none⟩ (.int .i64 x.p.h.seq)).setCell ⟨(w.heap.size + 1 + 1), 3, none⟩ (.int .i64 x.p.zone)).setCell ⟨(w.heap.size + 1 + 1), 4, none⟩ (.int .i64 x.p.cap)).setCell ⟨(w.heap.size + 1 + 1), 5, none⟩ (.int .i64 (x.p.at_ + (x.p.buf.length : Int)))).setCell ⟨(w.heap.size + 1 + 1), 6, none⟩ (.slice none 0 0)).setCell ⟨(w.heap.size + 1 + 1), 7, none⟩ (.slice none 0 0)) ((w.heap.size + 1 + 1)) 35 #[.int .i64 x.p.h.host, .int .i64 x.p.h.epoch, .int .i64 x.p.h.seq, .int .i64 x.p.zone, .int .i64 x.p.cap, .int .i64 (x.p.at_ + (x.p.buf.length : Int)), .slice none 0 0, .slice none 0 0]) := Cells.set8 Y8.out _ _ _ _ _ _ _ _
    have O9 := Lib.hid (owns_mov O8.out Y8.out (by decide) bt)
    have C9 := Lib.hid (Cells.mov C8.out bt (by simpa using NQ.out.2.2.1.symm))
    clear bt hHeld y0 f0 y1 f1 y2 f2 y3 f3 y4 f4 y5 f5 y6 f6 y7 f7
    clear L8 X8 Z8 Y8 O8 C8 
    generalize (((((((w8.setCell ⟨(w.heap.size + 1 + 1), 0, none⟩ (.int .i64 x.p.h.host)).setCell ⟨(w.heap.size + 1 + 1), 1, none⟩ (.int .i64 x.p.h.epoch)).setCell ⟨(w.heap.size + 1 + 1), 2, none⟩ (.int .i64 x.p.h.seq)).setCell ⟨(w.heap.size + 1 + 1), 3, none⟩ (.int .i64 x.p.zone)).setCell ⟨(w.heap.size + 1 + 1), 4, none⟩ (.int .i64 x.p.cap)).setCell ⟨(w.heap.size + 1 + 1), 5, none⟩ (.int .i64 (x.p.at_ + (x.p.buf.length : Int)))).setCell ⟨(w.heap.size + 1 + 1), 6, none⟩ (.slice none 0 0)).setCell ⟨(w.heap.size + 1 + 1), 7, none⟩ (.slice none 0 0) = w9 at *
    refine hK.out _ _ (⟨Cells.cell X9.out 0, Cells.cell X9.out 1, Cells.cell X9.out 2, Cells.cell X9.out 3, Cells.cell X9.out 4, Cells.cell X9.out 5, Cells.cell X9.out 6, Cells.cell X9.out 7, Cells.cell C9.out 0, Cells.cell C9.out 1, Cells.cell C9.out 2, Cells.cell C9.out 3, Cells.cell C9.out 4, Cells.cell C9.out 5⟩) (fun hHeld => ?_)
    clear hK K
    (try simp only [Act.put, List.setIfInBounds_toArray, List.set_cons_zero, List.set_cons_succ])
    refine Reg.tk 12 rfl ?_
    refine wpAnyH_done (by kernel_rfl) ?_ _
    clear hHeld
    go_wp2_with fail
    refine bodyPost_ret_by (results_cc1 rfl _ _ (w.heap.size + 1) (w.heap.size + 1 + 1) _ _ _ _ _ _ _ _ rfl Z9.out Tryz.underlying43 rfl (by kernel_rfl) rfl Y9.out Tryz.underlying35 rfl (by kernel_rfl)) rfl ?_
    exact ⟨B, d, ⟨behindP x.p, none, 0, none, 0, []⟩, rfl, rfl, OwnP.nil _ _ _ _ _ _, O9.out, L9.out⟩
  · skip
    go_simp
    have bb : Below w2.heap.size w2 (w2.alloc (.cells #[.int .i64 0, .int .i64 0, .int .i64 0, .int .i64 0, .int .i64 0, .slice none 0 0] 43)) := (Below.refl _ w2).alloc (Nat.le_refl _) _
    have C3 := Lib.hid (Cells.new w2 #[.int .i64 0, .int .i64 0, .int .i64 0, .int .i64 0, .int .i64 0, .slice none 0 0] 43)
    have L3 := Lib.hid (L2.out.trans (bb.mono L2.out.size))
    have X3 := Lib.hid (Cells.below X2.out bb)
    have Z3 := Lib.hid (Cells.below Z2.out bb)
    have Y3 := Lib.hid (Cells.below Y2.out bb)
    obtain ⟨q, hq⟩ : ∃ p, p = w2.heap.size := ⟨_, rfl⟩
    rw [← hq] at C3
    rw [← hq]
    have Gq : Hid (q = w2.heap.size) := hq
    have NQ : Hid (w.heap.size ≠ q ∧ w.heap.size + 1 ≠ q ∧ w.heap.size + 1 + 1 ≠ q ∧ w.heap.size ≤ q) := by have h1 := Cells.lt X2.out; have h2 := Cells.lt Z2.out; have h3 := Cells.lt Y2.out; have h4 := Gq.out; exact ⟨by omega, by omega, by omega, by omega⟩
    clear bb hHeld hq
    clear L2 X2 Z2 Y2 
    generalize w2.alloc (.cells #[.int .i64 0, .int .i64 0, .int .i64 0, .int .i64 0, .int .i64 0, .slice none 0 0] 43) = w3 at *
    refine hK.out _ _ (⟨Cells.cell X3.out 1, Cells.cell X3.out 3, Cells.cell X3.out 6⟩) (fun hHeld => ?_)
    clear hK K
    (try simp only [Act.put, List.setIfInBounds_toArray, List.set_cons_zero, List.set_cons_succ])
    refine Reg.step 7 rfl (by kernel_rfl) (by rfl) (fun K hK => ?_)
    go_simp
    refine ((HB _ L3.out).out).mono ?_
    rintro e w4 ⟨⟨B, d, rfl, hO⟩, hb⟩
    have L4 := Lib.hid (L3.out.trans (hb.mono L3.out.size))
    have X4 := Lib.hid (Cells.below X3.out hb)
    have Z4 := Lib.hid (Cells.below Z3.out hb)
    have Y4 := Lib.hid (Cells.below Y3.out hb)
    have C4 := Lib.hid (Cells.below C3.out hb)
    have O4 := Lib.hid (hO.mono L3.out.size)
    clear hb hHeld hO HB
    clear L3 X3 Z3 Y3 C3 
    refine hK.out _ _ (⟨Cells.cell X4.out 1, Cells.cell X4.out 3, Cells.cell X4.out 6⟩) (fun hHeld => ?_)
    clear hK K
    (try simp only [Act.put, List.setIfInBounds_toArray, List.set_cons_zero, List.set_cons_succ])
    refine Reg.tk 8 rfl ?_
    have y0 := Cells.cell C4.out 0
    have f0 := Cells.frozen C4.out 0
    have y1 := Cells.cell C4.out 1
    have f1 := Cells.frozen C4.out 1
    have y2 := Cells.cell C4.out 2
    have f2 := Cells.frozen C4.out 2
    have y3 := Cells.cell C4.out 3
    have f3 := Cells.frozen C4.out 3
    have y4 := Cells.cell C4.out 4
    have f4 := Cells.frozen C4.out 4
    have y5 := Cells.cell C4.out 5
    have f5 := Cells.frozen C4.out 5
    refine Reg.step 10 rfl (by kernel_rfl) (by rfl) (fun K hK => ?_)
    go_simp
    have bt : Mov [q] w4 ((((((w4.setCell ⟨q, 0, none⟩ (.int .i64 1)).setCell ⟨q, 1, none⟩ (.int .i64 x.p.zone)).setCell ⟨q, 2, none⟩ (.int .i64 x.p.h.epoch)).setCell ⟨q, 3, none⟩ (.int .i64 0)).setCell ⟨q, 4, none⟩ (.int .i64 0)).setCell ⟨q, 5, none⟩ (.slice B x.p.buf.length d)) := Mov.set6 _ _ _ _ _ _ _ _
    have L5 := Lib.hid (L4.out.trans (bt.up L4.out.size (NQ.out.2.2.2)))
    have X5 := Lib.hid (Cells.mov X4.out bt (by simpa using NQ.out.1))
    have Z5 := Lib.hid (Cells.mov Z4.out bt (by simpa using NQ.out.2.1))
    have Y5 := Lib.hid (Cells.mov Y4.out bt (by simpa using NQ.out.2.2.1))
    have C5 : Hid (Cells ((((((w4.setCell ⟨q, 0, none⟩ (.int .i64 1)).setCell ⟨q, 1, none⟩ (.int .i64 x.p.zone)).setCell ⟨q, 2, none⟩ (.int .i64 x.p.h.epoch)).setCell ⟨q, 3, none⟩ (.int .i64 0)).setCell ⟨q, 4, none⟩ (.int .i64 0)).setCell ⟨q, 5, none⟩ (.slice B x.p.buf.length d)) (q) 43 #[.int .i64 1, .int .i64 x.p.zone, .int .i64 x.p.h.epoch, .int .i64 0, .int .i64 0, .slice B x.p.buf.length d]) := Cells.set6 C4.out _ _ _ _ _ _
    have O5 := Lib.hid (owns_mov O4.out C4.out (by decide) bt)
    clear bt hHeld y0 f0 y1 f1 y2 f2 y3 f3 y4 f4 y5 f5
    clear L4 X4 Z4 Y4 C4 O4 
    generalize (((((w4.setCell ⟨q, 0, none⟩ (.int .i64 1)).setCell ⟨q, 1, none⟩ (.int .i64 x.p.zone)).setCell ⟨q, 2, none⟩ (.int .i64 x.p.h.epoch)).setCell ⟨q, 3, none⟩ (.int .i64 0)).setCell ⟨q, 4, none⟩ (.int .i64 0)).setCell ⟨q, 5, none⟩ (.slice B x.p.buf.length d) = w5 at *
    refine hK.out _ _ (⟨Cells.cell X5.out 1, Cells.cell X5.out 3, Cells.cell X5.out 6⟩) (fun hHeld => ?_)
    clear hK K
    (try simp only [Act.put, List.setIfInBounds_toArray, List.set_cons_zero, List.set_cons_succ])
    refine wpAnyH_done (by kernel_rfl) ?_ _
    clear hHeld
    go_upto_region 4 with fail
    have L6 := Lib.hid L5.out.drew
    have X6 := Lib.hid (Cells.below X5.out ((Below.refl _ w5).drew))
    have Z6 := Lib.hid (Cells.below Z5.out ((Below.refl _ w5).drew))
    have Y6 := Lib.hid (Cells.below Y5.out ((Below.refl _ w5).drew))
    have C6 := Lib.hid (Cells.below C5.out ((Below.refl _ w5).drew))
    have O6 := Lib.hid (Mem.Owns.below O5.out ((Below.refl _ w5).drew))
    refine wp_region_held_drew (S := fun W => W.cell? ⟨w.heap.size, 0, none⟩ = some (.int .i64 x.p.h.host) ∧ W.cell? ⟨w.heap.size, 1, none⟩ = some (.int .i64 x.p.h.epoch) ∧ W.cell? ⟨w.heap.size, 2, none⟩ = some (.int .i64 x.p.h.seq) ∧ W.cell? ⟨w.heap.size, 3, none⟩ = some (.int .i64 x.p.zone) ∧ W.cell? ⟨w.heap.size, 4, none⟩ = some (.int .i64 x.p.cap) ∧ W.cell? ⟨w.heap.size, 5, none⟩ = some (.int .i64 x.p.at_) ∧ W.cell? ⟨w.heap.size, 6, none⟩ = some (.slice x.B x.p.buf.length x.bc) ∧ W.cell? ⟨w.heap.size, 7, none⟩ = some (.slice x.L x.p.l.length x.lc) ∧ W.cell? ⟨q, 0, none⟩ = some (.int .i64 1) ∧ W.cell? ⟨q, 1, none⟩ = some (.int .i64 x.p.zone) ∧ W.cell? ⟨q, 2, none⟩ = some (.int .i64 x.p.h.epoch) ∧ W.cell? ⟨q, 3, none⟩ = some (.int .i64 0) ∧ W.cell? ⟨q, 4, none⟩ = some (.int .i64 0) ∧ W.cell? ⟨q, 5, none⟩ = some (.slice B x.p.buf.length d)) (by kernel_rfl) (⟨Cells.cell X6.out 0, Cells.cell X6.out 1, Cells.cell X6.out 2, Cells.cell X6.out 3, Cells.cell X6.out 4, Cells.cell X6.out 5, Cells.cell X6.out 6, Cells.cell X6.out 7, Cells.cell C6.out 0, Cells.cell C6.out 1, Cells.cell C6.out 2, Cells.cell C6.out 3, Cells.cell C6.out 4, Cells.cell C6.out 5⟩) (fun hHeld => ?_)
    generalize w5.drew = w6 at *
    clear L5 X5 Z5 Y5 C5 O5 
    refine Reg.tk 0 rfl ?_
    refine Reg.tk 1 rfl ?_
    refine Reg.tk 2 rfl ?_
    refine Reg.tk 3 rfl ?_
    refine Reg.tk 4 rfl ?_
    refine Reg.tk 5 rfl ?_
    refine Reg.tk 6 rfl ?_
    refine Reg.tk 7 rfl ?_
    refine Reg.step 8 rfl (by kernel_rfl) (by rfl) (fun K hK => ?_)
    go_simp
    refine ((HE w6).out).mono ?_
    rintro e w7 ⟨rfl, hb⟩
    have L7 := Lib.hid (L6.out.trans (hb.mono L6.out.size))
    have X7 := Lib.hid (Cells.below X6.out hb)
    have Z7 := Lib.hid (Cells.below Z6.out hb)
    have Y7 := Lib.hid (Cells.below Y6.out hb)
    have C7 := Lib.hid (Cells.below C6.out hb)
    have O7 := Lib.hid (Mem.Owns.below O6.out hb)
    clear hb hHeld 
    clear L6 X6 Z6 Y6 C6 O6 
    refine hK.out _ _ (⟨Cells.cell X7.out 0, Cells.cell X7.out 1, Cells.cell X7.out 2, Cells.cell X7.out 3, Cells.cell X7.out 4, Cells.cell X7.out 5, Cells.cell X7.out 6, Cells.cell X7.out 7, Cells.cell C7.out 0, Cells.cell C7.out 1, Cells.cell C7.out 2, Cells.cell C7.out 3, Cells.cell C7.out 4, Cells.cell C7.out 5⟩) (fun hHeld => ?_)
    clear hK K
    (try simp only [Act.put, List.setIfInBounds_toArray, List.set_cons_zero, List.set_cons_succ])
    refine Reg.tk 9 rfl ?_
    have y0 := Cells.cell Z7.out 0
    have f0 := Cells.frozen Z7.out 0
    have y1 := Cells.cell Z7.out 1
    have f1 := Cells.frozen Z7.out 1
    have y2 := Cells.cell Z7.out 2
    have f2 := Cells.frozen Z7.out 2
    have y3 := Cells.cell Z7.out 3
    have f3 := Cells.frozen Z7.out 3
    have y4 := Cells.cell Z7.out 4
    have f4 := Cells.frozen Z7.out 4
    have y5 := Cells.cell Z7.out 5
    have f5 := Cells.frozen Z7.out 5
    refine Reg.step 10 rfl (by kernel_rfl) (by rfl) (fun K hK => ?_)
    go_simp
    have bt : Mov [(w.heap.size + 1)] w7 ((((((w7.setCell ⟨(w.heap.size + 1), 0, none⟩ (.int .i64 1)).setCell ⟨(w.heap.size + 1), 1, none⟩ (.int .i64 x.p.zone)).setCell ⟨(w.heap.size + 1), 2, none⟩ (.int .i64 x.p.h.epoch)).setCell ⟨(w.heap.size + 1), 3, none⟩ (.int .i64 0)).setCell ⟨(w.heap.size + 1), 4, none⟩ (.int .i64 0)).setCell ⟨(w.heap.size + 1), 5, none⟩ (.slice B x.p.buf.length d)) := Mov.set6 _ _ _ _ _ _ _ _
    have L8 := Lib.hid (L7.out.trans (bt.up L7.out.size (by omega)))
    have X8 := Lib.hid (Cells.mov X7.out bt (by simp; try omega))
    have Z8 : Hid (Cells ((((((w7.setCell ⟨(w.heap.size + 1), 0, none⟩ (.int .i64 1)).setCell ⟨(w.heap.size + 1), 1, none⟩ (.int .i64 x.p.zone)).setCell ⟨(w.heap.size + 1), 2, none⟩ (.int .i64 x.p.h.epoch)).setCell ⟨(w.heap.size + 1), 3, none⟩ (.int .i64 0)).setCell ⟨(w.heap.size + 1), 4, none⟩ (.int .i64 0)).setCell ⟨(w.heap.size + 1), 5, none⟩ (.slice B x.p.buf.length d)) ((w.heap.size + 1)) 43 #[.int .i64 1, .int .i64 x.p.zone, .int .i64 x.p.h.epoch, .int .i64 0, .int .i64 0, .slice B x.p.buf.length d]) := Cells.set6 Z7.out _ _ _ _ _ _
    have Y8 := Lib.hid (Cells.mov Y7.out bt (by simp; try omega))
    have C8 := Lib.hid (Cells.mov C7.out bt (by simpa using NQ.out.2.1.symm))
    have O8 := Lib.hid (owns_mov O7.out Z7.out (by decide) bt)
    clear bt hHeld y0 f0 y1 f1 y2 f2 y3 f3 y4 f4 y5 f5
    clear L7 X7 Z7 Y7 C7 O7 
    generalize (((((w7.setCell ⟨(w.heap.size + 1), 0, none⟩ (.int .i64 1)).setCell ⟨(w.heap.size + 1), 1, none⟩ (.int .i64 x.p.zone)).setCell ⟨(w.heap.size + 1), 2, none⟩ (.int .i64 x.p.h.epoch)).setCell ⟨(w.heap.size + 1), 3, none⟩ (.int .i64 0)).setCell ⟨(w.heap.size + 1), 4, none⟩ (.int .i64 0)).setCell ⟨(w.heap.size + 1), 5, none⟩ (.slice B x.p.buf.length d) = w8 at *
    refine hK.out _ _ (⟨Cells.cell X8.out 0, Cells.cell X8.out 1, Cells.cell X8.out 2, Cells.cell X8.out 3, Cells.cell X8.out 4, Cells.cell X8.out 5, Cells.cell X8.out 6, Cells.cell X8.out 7, Cells.cell C8.out 0, Cells.cell C8.out 1, Cells.cell C8.out 2, Cells.cell C8.out 3, Cells.cell C8.out 4, Cells.cell C8.out 5⟩) (fun hHeld => ?_)
    clear hK K
    (try simp only [Act.put, List.setIfInBounds_toArray, List.set_cons_zero, List.set_cons_succ])
    have y0 := Cells.cell Y8.out 0
    have f0 := Cells.frozen Y8.out 0
    have y1 := Cells.cell Y8.out 1
    have f1 := Cells.frozen Y8.out 1
    have y2 := Cells.cell Y8.out 2
    have f2 := Cells.frozen Y8.out 2
    have y3 := Cells.cell Y8.out 3
    have f3 := Cells.frozen Y8.out 3
    have y4 := Cells.cell Y8.out 4
    have f4 := Cells.frozen Y8.out 4
    have y5 := Cells.cell Y8.out 5
    have f5 := Cells.frozen Y8.out 5
    have y6 := Cells.cell Y8.out 6
    have f6 := Cells.frozen Y8.out 6
    have y7 := Cells.cell Y8.out 7
    have f7 := Cells.frozen Y8.out 7
    refine Reg.step 11 rfl (by kernel_rfl) (by rfl) (fun K hK => ?_)
    go_simp
    have bt : Mov [(w.heap.size + 1 + 1)] w8 ((((((((w8.setCell ⟨(w.heap.size + 1 + 1), 0, none⟩ (.int .i64 x.p.h.host)).setCell ⟨(w.heap.size + 1 + 1), 1, none⟩ (.int .i64 x.p.h.epoch)).setCell ⟨(w.heap.size + 1 + 1), 2, none⟩ (.int .i64 x.p.h.seq)).setCell ⟨(w.heap.size + 1 + 1), 3, none⟩ (.int .i64 x.p.zone)).setCell ⟨(w.heap.size + 1 + 1), 4, none⟩ (.int .i64 x.p.cap)).setCell ⟨(w.heap.size + 1 + 1), 5, none⟩ (.int .i64 (x.p.at_ + (x.p.buf.length : Int)))).setCell ⟨(w.heap.size + 1 + 1), 6, none⟩ (.slice none 0 0)).setCell ⟨(w.heap.size + 1 + 1), 7, none⟩ (.slice none 0 0)) := Mov.set8 _ _ _ _ _ _ _ _ _ _
    have L9 := Lib.hid (L8.out.trans (bt.up L8.out.size (by omega)))
    have X9 := Lib.hid (Cells.mov X8.out bt (by simp; try omega))
    have Z9 := Lib.hid (Cells.mov Z8.out bt (by simp; try omega))
    have Y9 : Hid (Cells ((((((((w8.setCell ⟨(w.heap.size + 1 + 1), 0, none⟩ (.int .i64 x.p.h.host)).setCell ⟨(w.heap.size + 1 + 1), 1, none⟩ (.int .i64 x.p.h.epoch)).setCell ⟨(w.heap.size + 1 + 1), 2, none⟩ (.int .i64 x.p.h.seq)).setCell ⟨(w.heap.size + 1 + 1), 3, none⟩ (.int .i64 x.p.zone)).setCell ⟨(w.heap.size + 1 + 1), 4, none⟩ (.int .i64 x.p.cap)).setCell ⟨(w.heap.size + 1 + 1), 5, none⟩ (.int .i64 (x.p.at_ + (x.p.buf.length : Int)))).setCell ⟨(w.heap.size + 1 + 1), 6, none⟩ (.slice none 0 0)).setCell ⟨(w.heap.size + 1 + 1), 7, none⟩ (.slice none 0 0)) ((w.heap.size + 1 + 1)) 35 #[.int .i64 x.p.h.host, .int .i64 x.p.h.epoch, .int .i64 x.p.h.seq, .int .i64 x.p.zone, .int .i64 x.p.cap, .int .i64 (x.p.at_ + (x.p.buf.length : Int)), .slice none 0 0, .slice none 0 0]) := Cells.set8 Y8.out _ _ _ _ _ _ _ _
    have C9 := Lib.hid (Cells.mov C8.out bt (by simpa using NQ.out.2.2.1.symm))
    have O9 := Lib.hid (owns_mov O8.out Y8.out (by decide) bt)
    clear bt hHeld y0 f0 y1 f1 y2 f2 y3 f3 y4 f4 y5 f5 y6 f6 y7 f7
    clear L8 X8 Z8 Y8 C8 O8 
    generalize (((((((w8.setCell ⟨(w.heap.size + 1 + 1), 0, none⟩ (.int .i64 x.p.h.host)).setCell ⟨(w.heap.size + 1 + 1), 1, none⟩ (.int .i64 x.p.h.epoch)).setCell ⟨(w.heap.size + 1 + 1), 2, none⟩ (.int .i64 x.p.h.seq)).setCell ⟨(w.heap.size + 1 + 1), 3, none⟩ (.int .i64 x.p.zone)).setCell ⟨(w.heap.size + 1 + 1), 4, none⟩ (.int .i64 x.p.cap)).setCell ⟨(w.heap.size + 1 + 1), 5, none⟩ (.int .i64 (x.p.at_ + (x.p.buf.length : Int)))).setCell ⟨(w.heap.size + 1 + 1), 6, none⟩ (.slice none 0 0)).setCell ⟨(w.heap.size + 1 + 1), 7, none⟩ (.slice none 0 0) = w9 at *
    refine hK.out _ _ (⟨Cells.cell X9.out 0, Cells.cell X9.out 1, Cells.cell X9.out 2, Cells.cell X9.out 3, Cells.cell X9.out 4, Cells.cell X9.out 5, Cells.cell X9.out 6, Cells.cell X9.out 7, Cells.cell C9.out 0, Cells.cell C9.out 1, Cells.cell C9.out 2, Cells.cell C9.out 3, Cells.cell C9.out 4, Cells.cell C9.out 5⟩) (fun hHeld => ?_)
    clear hK K
    (try simp only [Act.put, List.setIfInBounds_toArray, List.set_cons_zero, List.set_cons_succ])
    refine Reg.tk 12 rfl ?_
    refine wpAnyH_done (by kernel_rfl) ?_ _
    clear hHeld
    go_wp2_with fail
    refine bodyPost_ret_by (results_cc1 rfl _ _ (w.heap.size + 1) (w.heap.size + 1 + 1) _ _ _ _ _ _ _ _ rfl Z9.out Tryz.underlying43 rfl (by kernel_rfl) rfl Y9.out Tryz.underlying35 rfl (by kernel_rfl)) rfl ?_
    exact ⟨B, d, ⟨behindP x.p, none, 0, none, 0, []⟩, rfl, rfl, OwnP.nil _ _ _ _ _ _, O9.out, L9.out⟩
end Pk
end Go.Proofs.YtedandbkdjmfhaaGreat
