/-
  A WALK: a pack copied whole (packer.cloned).
-/
import Derived.Test.YtedandbkdjmfhaaPkPiece
namespace Go.Proofs.Ytedandbkdjmfhaa
open Go.RowKit Mem Box
namespace Pk
open Seg (Hdr Rc Rv cellsOf cellsOf_len RowR hdV recV fits nums hnums nn goods frame headX recX frames check recB headB)

def set7R (w : World) (g k : Nat) (y : Rv) : World := ((((((w.setCell ⟨g, k * 7, none⟩ (.int .i64 y.r.kind)).setCell ⟨g, k * 7 + 1, none⟩ (.int .i64 y.r.lba)).setCell ⟨g, k * 7 + 2, none⟩ (.int .i64 y.r.n)).setCell ⟨g, k * 7 + 3, none⟩ (.int .i64 y.r.ver)).setCell ⟨g, k * 7 + 4, none⟩ (.int .i64 y.r.zone)).setCell ⟨g, k * 7 + 5, none⟩ (.int .i64 y.r.off)).setCell ⟨g, k * 7 + 6, none⟩ (.slice y.D y.r.data.length y.c)
theorem put7 {base g : Nat} {w : World} {n c : Nat} {l : List Rv} (h : OwnRs base w (some ⟨g, 0, none⟩) n c l) {k : Nat} {x : Rv} (hx : l[k]? = some x) (y : Rv) (hl : x.r.data.length = y.r.data.length) : OwnRs base (set7R w g k y) (some ⟨g, 0, none⟩) n c (l.set k y) := by
  have hk := (List.getElem?_eq_some_iff.1 hx).1
  have e1 := h.put fitR hx 0 (.int .i64 y.r.kind) ⟨⟨y.r.kind, x.r.lba, x.r.n, x.r.ver, x.r.zone, x.r.off, x.r.data⟩, x.D, x.c⟩ (by omega) rfl
  rw [Nat.add_zero] at e1
  have e2 := e1.put fitR (OwnS.Owns.set_at hk _) 1 (.int .i64 y.r.lba) ⟨⟨y.r.kind, y.r.lba, x.r.n, x.r.ver, x.r.zone, x.r.off, x.r.data⟩, x.D, x.c⟩ (by omega) rfl
  rw [List.set_set] at e2
  have e3 := e2.put fitR (OwnS.Owns.set_at hk _) 2 (.int .i64 y.r.n) ⟨⟨y.r.kind, y.r.lba, y.r.n, x.r.ver, x.r.zone, x.r.off, x.r.data⟩, x.D, x.c⟩ (by omega) rfl
  rw [List.set_set] at e3
  have e4 := e3.put fitR (OwnS.Owns.set_at hk _) 3 (.int .i64 y.r.ver) ⟨⟨y.r.kind, y.r.lba, y.r.n, y.r.ver, x.r.zone, x.r.off, x.r.data⟩, x.D, x.c⟩ (by omega) rfl
  rw [List.set_set] at e4
  have e5 := e4.put fitR (OwnS.Owns.set_at hk _) 4 (.int .i64 y.r.zone) ⟨⟨y.r.kind, y.r.lba, y.r.n, y.r.ver, y.r.zone, x.r.off, x.r.data⟩, x.D, x.c⟩ (by omega) rfl
  rw [List.set_set] at e5
  have e6 := e5.put fitR (OwnS.Owns.set_at hk _) 5 (.int .i64 y.r.off) ⟨⟨y.r.kind, y.r.lba, y.r.n, y.r.ver, y.r.zone, y.r.off, x.r.data⟩, x.D, x.c⟩ (by omega) rfl
  rw [List.set_set] at e6
  have e7 := e6.put fitR (OwnS.Owns.set_at hk _) 6 (.slice y.D y.r.data.length y.c) y (by omega) rfl
  rw [List.set_set] at e7
  exact e7
theorem mov7R (w : World) (g k : Nat) (y : Rv) : Mov [g] w (set7R w g k y) := by
  have s := fun (w : World) (i : Nat) (v : Value) => Mov.set1 w (S := [g]) (q := g) (by simp) i v
  have tr := fun {a b c : World} (h : Mov [g] a b) (k : Mov [g] b c) => h.trans k (fun _ h => .inl h)
  exact tr (tr (tr (tr (tr (tr (s _ _ _) (s _ _ _)) (s _ _ _)) (s _ _ _)) (s _ _ _)) (s _ _ _)) (s _ _ _)
def sevenR (w : World) (b o : Nat) (y : Rv) : Prop :=
  w.cell? ⟨b, o, none⟩ = some (.int .i64 y.r.kind) ∧ w.cell? ⟨b, o + 1, none⟩ = some (.int .i64 y.r.lba) ∧ w.cell? ⟨b, o + 2, none⟩ = some (.int .i64 y.r.n) ∧ w.cell? ⟨b, o + 3, none⟩ = some (.int .i64 y.r.ver) ∧ w.cell? ⟨b, o + 4, none⟩ = some (.int .i64 y.r.zone) ∧ w.cell? ⟨b, o + 5, none⟩ = some (.int .i64 y.r.off) ∧ w.cell? ⟨b, o + 6, none⟩ = some (.slice y.D y.r.data.length y.c)
theorem seven_own {w : World} {base g : Nat} {n c : Nat} {l : List Rv} {k : Nat} {x : Rv} (h : OwnRs base w (some ⟨g, 0, none⟩) n c l) (hx : l[k]? = some x) : sevenR w g (k * 7) x :=
  ⟨h.cell fitR hx 0 _ rfl, h.cell fitR hx 1 _ rfl, h.cell fitR hx 2 _ rfl, h.cell fitR hx 3 _ rfl, h.cell fitR hx 4 _ rfl, h.cell fitR hx 5 _ rfl, h.cell fitR hx 6 _ rfl⟩
theorem off_later {base : Nat} {w w' : World} {y : Rv} {B : Option Addr} {n c : Nat} {l : List (BitVec 8)} (hB : Mem.Owns cb 5 base w (.slice B n c) n l) (hy : OwnB1 w.heap.size w' y.D y.c y.r.data) : Off y B n c := by
  unfold Off
  rcases e : (Value.slice y.D y.r.data.length y.c).ownBlock with _ | q
  · exact .inl rfl
  · refine .inr fun h => ?_
    have h1 := (OwnB.owns_lt hB q h.symm).2
    have h2 := (OwnB.owns_lt hy q e).1
    omega
theorem set_next {α : Type} (ys : List α) (l : List α) {k : Nat} (hk : ys.length = k) {x : α} (hx : l[k]? = some x) (z : α) : (ys ++ l.drop k)[k]? = some x ∧ (ys ++ l.drop k).set k z = (ys ++ [z]) ++ l.drop (k + 1) := by
  subst hk
  have hlt := (List.getElem?_eq_some_iff.1 hx).1
  have e : l.drop ys.length = x :: l.drop (ys.length + 1) := by
    rw [List.drop_eq_getElem_cons hlt]
    congr 1
    exact (List.getElem?_eq_some_iff.1 hx).2
  rw [e]
  refine ⟨by rw [List.getElem?_append_right (Nat.le_refl _), Nat.sub_self]; rfl, ?_⟩
  rw [List.set_append_right _ _ (Nat.le_refl _), Nat.sub_self, List.append_assoc]
  rfl
/-- A pack that a call gave, of its own. -/
def GaveP (w : World) (p : Pp) (e : Ending) (w' : World) : Prop := ∃ y, e = .returned (pxv y) ∧ y.p = p ∧ OwnP w.heap.size w' y ∧ Below w.heap.size w w'
set_option maxRecDepth 100000 in
set_option maxHeartbeats 12800000 in
theorem cloned_any {x : Px} {w : World} (h : PackAt w x) (ho : OkP x.p) : Calls Try.prog 24 #[pxv x] w (GaveP w x.p) := by
  have H := Lib.hid h
  have HL : Hid (x.xs.length = x.p.l.length) := h.recs.len
  have HN : Hid (x.p.l.length ≤ 1000000) := by have := ho.l_le; show _ ≤ _; omega
  have HB := fun W (hW : Below w.heap.size w W) => Lib.hid (cloneB_any (h.buf.below hW))
  have HC := fun W (hW : Below w.heap.size w W) => Lib.hid (cloneR_any (h.recs.below hW) HN.out)
  have L1 : Hid (Below w.heap.size w ((w.alloc (.cells #[.int .i64 x.p.h.host, .int .i64 x.p.h.epoch, .int .i64 x.p.h.seq, .int .i64 x.p.zone, .int .i64 x.p.cap, .int .i64 x.p.at_, .slice x.B x.p.buf.length x.bc, .slice x.L x.p.l.length x.lc] 29)).alloc (.cells #[.int .i64 0, .int .i64 0, .int .i64 0, .int .i64 0, .int .i64 0, .int .i64 0, .slice none 0 0, .slice none 0 0] 29))) := (((Below.refl _ w).alloc (by first | exact Nat.le_refl _ | (simp; try omega)) _).alloc (by first | exact Nat.le_refl _ | (simp; try omega)) _)
  have X1 : Hid (PBox ((w.alloc (.cells #[.int .i64 x.p.h.host, .int .i64 x.p.h.epoch, .int .i64 x.p.h.seq, .int .i64 x.p.zone, .int .i64 x.p.cap, .int .i64 x.p.at_, .slice x.B x.p.buf.length x.bc, .slice x.L x.p.l.length x.lc] 29)).alloc (.cells #[.int .i64 0, .int .i64 0, .int .i64 0, .int .i64 0, .int .i64 0, .int .i64 0, .slice none 0 0, .slice none 0 0] 29)) w.heap.size x) := Cells.alloc (Cells.new _ _ _) _
  have Z1 : Hid (ZBox ((w.alloc (.cells #[.int .i64 x.p.h.host, .int .i64 x.p.h.epoch, .int .i64 x.p.h.seq, .int .i64 x.p.zone, .int .i64 x.p.cap, .int .i64 x.p.at_, .slice x.B x.p.buf.length x.bc, .slice x.L x.p.l.length x.lc] 29)).alloc (.cells #[.int .i64 0, .int .i64 0, .int .i64 0, .int .i64 0, .int .i64 0, .int .i64 0, .slice none 0 0, .slice none 0 0] 29)) (w.heap.size + 1)) := by
    have := Cells.new (w.alloc (.cells #[.int .i64 x.p.h.host, .int .i64 x.p.h.epoch, .int .i64 x.p.h.seq, .int .i64 x.p.zone, .int .i64 x.p.cap, .int .i64 x.p.at_, .slice x.B x.p.buf.length x.bc, .slice x.L x.p.l.length x.lc] 29)) #[.int .i64 0, .int .i64 0, .int .i64 0, .int .i64 0, .int .i64 0, .int .i64 0, .slice none 0 0, .slice none 0 0] 29
    rw [World.size_alloc] at this
    exact this
  have hbl : ∃ n, n = x.p.buf.length := ⟨_, rfl⟩
  unfold pxv
  clear h ho hbl
  go_enter Try.func24, Try.ntmps24
  go_upto_region 1 with fail
  generalize (w.alloc (.cells #[.int .i64 x.p.h.host, .int .i64 x.p.h.epoch, .int .i64 x.p.h.seq, .int .i64 x.p.zone, .int .i64 x.p.cap, .int .i64 x.p.at_, .slice x.B x.p.buf.length x.bc, .slice x.L x.p.l.length x.lc] 29)).alloc (.cells #[.int .i64 0, .int .i64 0, .int .i64 0, .int .i64 0, .int .i64 0, .int .i64 0, .slice none 0 0, .slice none 0 0] 29) = w1 at *
  have L2 := Lib.hid L1.out.drew
  have X2 : Hid (PBox w1.drew w.heap.size x) := Cells.drew X1.out
  have Z2 : Hid (ZBox w1.drew (w.heap.size + 1)) := Cells.drew Z1.out
  refine RegK.start (S := fun W => W.cell? ⟨w.heap.size, 7, none⟩ = some (.slice x.L x.p.l.length x.lc)) 9 (by kernel_rfl) (Cells.cell X2.out 7) (fun hHeld => ?_)
  generalize w1.drew = w2 at *
  clear L1 X1 Z1
  (first | (refine RegK.take 0 [9] (v := ?_) rfl (by kernel_rfl) (by kernel_rfl) (by kernel_rfl) (by kernel_rfl) rfl (by kernel_rfl) (fun _ _ _ h => h) (Or.inl ⟨by rfl, ?_⟩) (by assumption) ?_; rotate_left; (focus ((intro W hSW; (try dsimp only at hSW); (try go_split_ands); go_simp; (try (with_reducible rfl)); done)))) | (refine RegK.take 0 [9] (v := undef) rfl (by kernel_rfl) (by kernel_rfl) (by kernel_rfl) (by kernel_rfl) rfl (by kernel_rfl) (fun _ _ _ h => h) (Or.inr ⟨by rfl, rfl⟩) (by assumption) ?_))
  (try simp only [Act.put, List.setIfInBounds_toArray, List.set_cons_zero, List.set_cons_succ])
  (first | (refine RegK.take 3 [9] (v := ?_) rfl (by kernel_rfl) (by kernel_rfl) (by kernel_rfl) (by kernel_rfl) rfl (by kernel_rfl) (fun _ _ _ h => h) (Or.inl ⟨by rfl, ?_⟩) (by assumption) ?_; rotate_left; (focus ((intro W hSW; (try dsimp only at hSW); (try go_split_ands); go_simp; (try (with_reducible rfl)); done)))) | (refine RegK.take 3 [9] (v := undef) rfl (by kernel_rfl) (by kernel_rfl) (by kernel_rfl) (by kernel_rfl) rfl (by kernel_rfl) (fun _ _ _ h => h) (Or.inr ⟨by rfl, rfl⟩) (by assumption) ?_))
  (try simp only [Act.put, List.setIfInBounds_toArray, List.set_cons_zero, List.set_cons_succ])
  (first | (refine RegK.take 4 [9] (v := ?_) rfl (by kernel_rfl) (by kernel_rfl) (by kernel_rfl) (by kernel_rfl) rfl (by kernel_rfl) (fun _ _ _ h => h) (Or.inl ⟨by rfl, ?_⟩) (by assumption) ?_; rotate_left; (focus ((intro W hSW; (try dsimp only at hSW); (try go_split_ands); go_simp; (try (with_reducible rfl)); done)))) | (refine RegK.take 4 [9] (v := undef) rfl (by kernel_rfl) (by kernel_rfl) (by kernel_rfl) (by kernel_rfl) rfl (by kernel_rfl) (fun _ _ _ h => h) (Or.inr ⟨by rfl, rfl⟩) (by assumption) ?_))
  (try simp only [Act.put, List.setIfInBounds_toArray, List.set_cons_zero, List.set_cons_succ])
  have m6 := Cells.cell X2.out 6
  (try dsimp only at m6)
  refine RegK.step 1 rfl (by kernel_rfl) (by rfl) (fun K hK => ?_)
  go_simp
  refine hK.out _ _ (fun _ => hHeld) ?_
  clear hK K m6
  (try simp only [Act.put, List.setIfInBounds_toArray, List.set_cons_zero, List.set_cons_succ])
  refine RegK.step 2 rfl (by kernel_rfl) (by rfl) (fun K hK => ?_)
  go_simp
  refine (HB _ L2.out).out.mono ?_
  rintro e w3 ⟨⟨B', d', rfl, hO⟩, hb⟩
  have L3 := Lib.hid (L2.out.trans (hb.mono L2.out.size))
  have X3 : Hid (PBox w3 w.heap.size _) := Cells.below X2.out hb
  have Z3 : Hid (ZBox w3 (w.heap.size + 1)) := Cells.below Z2.out hb
  have OA3 := Lib.hid (hO.mono L2.out.size)
  clear hO hb X2 Z2 HB hHeld
  have hHeld : w3.cell? ⟨w.heap.size, 7, none⟩ = some (.slice x.L x.p.l.length x.lc) := Cells.cell X3.out 7
  refine hK.out _ _ (fun _ => hHeld) ?_
  clear hK K
  (try simp only [Act.put, List.setIfInBounds_toArray, List.set_cons_zero, List.set_cons_succ])
  (first | (refine RegK.take 6 [9] (v := ?_) rfl (by kernel_rfl) (by kernel_rfl) (by kernel_rfl) (by kernel_rfl) rfl (by kernel_rfl) (fun _ _ _ h => h) (Or.inl ⟨by rfl, ?_⟩) (by assumption) ?_; rotate_left; (focus ((intro W hSW; (try dsimp only at hSW); (try go_split_ands); go_simp; (try (with_reducible rfl)); done)))) | (refine RegK.take 6 [9] (v := undef) rfl (by kernel_rfl) (by kernel_rfl) (by kernel_rfl) (by kernel_rfl) rfl (by kernel_rfl) (fun _ _ _ h => h) (Or.inr ⟨by rfl, rfl⟩) (by assumption) ?_))
  (try simp only [Act.put, List.setIfInBounds_toArray, List.set_cons_zero, List.set_cons_succ])
  refine RegK.step 5 rfl (by kernel_rfl) (by rfl) (fun K hK => ?_)
  go_simp
  refine (HC _ L3.out).out.mono ?_
  rintro e w4 ⟨⟨L', c', rfl, hO⟩, hb⟩
  have L4 := Lib.hid (L3.out.trans (hb.mono L3.out.size))
  have X4 : Hid (PBox w4 w.heap.size _) := Cells.below X3.out hb
  have Z4 : Hid (ZBox w4 (w.heap.size + 1)) := Cells.below Z3.out hb
  have OA4 := Lib.hid (Mem.Owns.below OA3.out hb)
  have OB4 : Hid (OwnRs w.heap.size w4 L' x.p.l.length c' x.xs) := Lib.hid (hO.mono L3.out.size)
  clear hO hb X3 Z3 HC hHeld OA3 L3 L2
  have hHeld : w4.cell? ⟨w.heap.size, 7, none⟩ = some (.slice x.L x.p.l.length x.lc) := Cells.cell X4.out 7
  refine hK.out _ _ (fun _ => hHeld) ?_
  clear hK K
  (try simp only [Act.put, List.setIfInBounds_toArray, List.set_cons_zero, List.set_cons_succ])
  have y6 := Cells.cell X4.out 6
  have f6 := Cells.frozen X4.out 6
  (try dsimp only at y6)
  refine RegK.step 7 rfl (by kernel_rfl) (by rfl) (fun K hK => ?_)
  go_simp
  have bt : Mov [w.heap.size] w4 (w4.setCell ⟨w.heap.size, 6, none⟩ (.slice B' x.p.buf.length d')) := Mov.set1 w4 (by simp) 6 _
  have X5 : Hid (PBox (w4.setCell ⟨w.heap.size, 6, none⟩ (.slice B' x.p.buf.length d')) w.heap.size ⟨x.p, B', d', x.L, x.lc, x.xs⟩) := by show Cells _ _ _ _; simpa using Cells.set_ X4.out 6 (.slice B' x.p.buf.length d')
  have Z5 : Hid (ZBox (w4.setCell ⟨w.heap.size, 6, none⟩ (.slice B' x.p.buf.length d')) (w.heap.size + 1)) := Cells.mov Z4.out bt (by simp)
  have L5 := Lib.hid (L4.out.trans (bt.up L4.out.size (Nat.le_refl _)))
  have OA5 := Lib.hid ((Chg.mov X4.out bt).ownI OA4.out (by decide))
  have OB5 := Lib.hid ((Chg.mov X4.out bt).owns OB4.out (by decide))
  clear bt y6 f6 X4 Z4 L4 OA4 OB4 hHeld
  generalize w4.setCell ⟨w.heap.size, 6, none⟩ (.slice B' x.p.buf.length d') = w5 at *
  have hHeld : w5.cell? ⟨w.heap.size, 7, none⟩ = some (.slice x.L x.p.l.length x.lc) := Cells.cell X5.out 7
  refine hK.out _ _ (fun _ => hHeld) ?_
  clear hK K
  (try simp only [Act.put, List.setIfInBounds_toArray, List.set_cons_zero, List.set_cons_succ])
  (first | (refine RegK.take 8 [9] (v := ?_) rfl (by kernel_rfl) (by kernel_rfl) (by kernel_rfl) (by kernel_rfl) rfl (by kernel_rfl) (fun _ _ _ h => h) (Or.inl ⟨by rfl, ?_⟩) (by assumption) ?_; rotate_left; (focus ((intro W hSW; (try dsimp only at hSW); (try go_split_ands); go_simp; (try (with_reducible rfl)); done)))) | (refine RegK.take 8 [9] (v := undef) rfl (by kernel_rfl) (by kernel_rfl) (by kernel_rfl) (by kernel_rfl) rfl (by kernel_rfl) (fun _ _ _ h => h) (Or.inr ⟨by rfl, rfl⟩) (by assumption) ?_))
  (try simp only [Act.put, List.setIfInBounds_toArray, List.set_cons_zero, List.set_cons_succ])
  have y7 := Cells.cell X5.out 7
  have f7 := Cells.frozen X5.out 7
  (try dsimp only at y7)
  refine RegK.step 9 rfl (by kernel_rfl) (by rfl) (fun K hK => ?_)
  go_simp
  have bt : Mov [w.heap.size] w5 (w5.setCell ⟨w.heap.size, 7, none⟩ (.slice L' x.p.l.length c')) := Mov.set1 w5 (by simp) 7 _
  have X6 : Hid (PBox (w5.setCell ⟨w.heap.size, 7, none⟩ (.slice L' x.p.l.length c')) w.heap.size ⟨x.p, B', d', L', c', x.xs⟩) := by show Cells _ _ _ _; simpa using Cells.set_ X5.out 7 (.slice L' x.p.l.length c')
  have Z6 : Hid (ZBox (w5.setCell ⟨w.heap.size, 7, none⟩ (.slice L' x.p.l.length c')) (w.heap.size + 1)) := Cells.mov Z5.out bt (by simp)
  have L6 := Lib.hid (L5.out.trans (bt.up L5.out.size (Nat.le_refl _)))
  have OA6 := Lib.hid ((Chg.mov X5.out bt).ownI OA5.out (by decide))
  have OB6 := Lib.hid ((Chg.mov X5.out bt).owns OB5.out (by decide))
  clear bt y7 f7 X5 Z5 L5 OA5 OB5 hHeld
  generalize w5.setCell ⟨w.heap.size, 7, none⟩ (.slice L' x.p.l.length c') = w6 at *
  refine hK.out _ _ (fun h => absurd rfl h) ?_
  clear hK K
  (try simp only [Act.put, List.setIfInBounds_toArray, List.set_cons_zero, List.set_cons_succ])
  refine RegK.done (by kernel_rfl) ?_ _
  clear w1 w2 w3 w4 w5
  have m7 := Cells.cell X6.out 7
  (try dsimp only at m7)
  go_wp2_with fail
  clear m7
  go_loopw [3, 4, 16] (fun _ _ i wr => ∃ (k : Nat) (ys : List Rv), i = .int .i64 k ∧ k ≤ x.p.l.length ∧ ys.length = k ∧ Hid (ys.map Rv.r = (x.xs.take k).map Rv.r) ∧ Hid (Below w.heap.size w wr) ∧ Hid (PBox wr w.heap.size ⟨x.p, B', d', L', c', x.xs⟩) ∧ Hid (ZBox wr (w.heap.size + 1)) ∧ Hid (OwnB1 w.heap.size wr B' d' x.p.buf) ∧ Hid (OwnRs w.heap.size wr L' x.p.l.length c' (ys ++ x.xs.drop k)) ∧ Hid (∀ y ∈ ys, OwnB1 w.heap.size wr y.D y.c y.r.data) ∧ Hid (∀ y ∈ ys, Off y B' x.p.buf.length d')) (fun _ _ i _ => x.p.l.length - (intOf i).toNat)
  case atStart => exact ⟨0, [], rfl, by omega, rfl, rfl, L6, X6, Z6, OA6, OB6, Lib.hid (fun y hy => by cases hy), Lib.hid (fun y hy => by cases hy)⟩
  case round =>
    clear L6 X6 Z6 OA6 OB6
    obtain ⟨k, ys, rfl, hk, hys, HP, L4, X4, Z4, B4, O4, M4, F4⟩ := hrel
    by_cases hlt : k < x.p.l.length
    · obtain ⟨y, hy⟩ := H.out.recs.get hlt
      obtain ⟨hget, -⟩ := set_next ys x.xs hys hy y
      have HS := Lib.hid (fun z => (set_next ys x.xs hys hy z).2)
      have HG := Lib.hid hget
      obtain ⟨g, cur, hB, hbg, hcur, -⟩ := O4.out.place (by omega)
      have HGG := Lib.hid hbg
      have HX := Lib.hid hy
      have HM := Lib.hid (fun W (hW : Below w.heap.size w W) => clonedRec_any ((H.out.recs.data y (List.mem_of_getElem? hy)).below hW))
      have HNE : Hid (w.heap.size ≠ g ∧ w.heap.size + 1 ≠ g) := ⟨Cells.ne X4.out hcur (by decide), Cells.ne Z4.out hcur (by decide)⟩
      unfold rvV at HM
      subst hB
      have hk0 : (0 : Int) ≤ (k : Int) := by omega
      have hkn : (k : Int) < (x.p.l.length : Int) := by omega
      obtain ⟨q0, q1, q2, q3, q4, q5, q6⟩ := seven_own O4.out HG.out
      have HYS := Lib.hid hys
      clear hy hget hcur hbg hys
      go_upto_region 5 with fail
      clear q0 q1 q2 q3 q4 q5 q6
      have BB : Hid (Below wr.heap.size wr (wr.alloc (.cells #[.int .i64 y.r.kind, .int .i64 y.r.lba, .int .i64 y.r.n, .int .i64 y.r.ver, .int .i64 y.r.zone, .int .i64 y.r.off, .slice y.D y.r.data.length y.c] 34))) := (Below.refl _ wr).alloc (Nat.le_refl _) _
      have R4 : Hid (RBox (wr.alloc (.cells #[.int .i64 y.r.kind, .int .i64 y.r.lba, .int .i64 y.r.n, .int .i64 y.r.ver, .int .i64 y.r.zone, .int .i64 y.r.off, .slice y.D y.r.data.length y.c] 34)) wr.heap.size y) := Cells.new _ _ _
      have L5 := Lib.hid (L4.out.trans (BB.out.mono L4.out.size))
      have X5 := Lib.hid (Cells.below X4.out BB.out)
      have Z5 := Lib.hid (Cells.below Z4.out BB.out)
      have B5 := Lib.hid (B4.out.below BB.out)
      have O5 := Lib.hid (O4.out.below BB.out)
      have M5 := Lib.hid (fun y hy => (M4.out y hy).below BB.out)
      have RG : Hid (g < wr.heap.size) := (O4.out.lt g rfl).2
      clear BB L4 X4 Z4 B4 O4 M4
      generalize wr.alloc (.cells #[.int .i64 y.r.kind, .int .i64 y.r.lba, .int .i64 y.r.n, .int .i64 y.r.ver, .int .i64 y.r.zone, .int .i64 y.r.off, .slice y.D y.r.data.length y.c] 34) = w4 at *
      generalize wr.heap.size = r at *
      have L6 := Lib.hid L5.out.drew
      have X6 := Lib.hid (Cells.drew X5.out)
      have Z6 := Lib.hid (Cells.drew Z5.out)
      have B6 := Lib.hid (B5.out.drew)
      have O6 := Lib.hid (O5.out.drew)
      have R6 := Lib.hid (Cells.drew R4.out)
      have M6 := Lib.hid (fun y hy => (M5.out y hy).below (Below.refl _ w4).drew)
      refine RegK.start (S := fun W => W.cell? ⟨w.heap.size, 7, none⟩ = some (.slice (some ⟨g, 0, none⟩) x.p.l.length c') ∧ sevenR W r 0 y) 6 (by kernel_rfl) (⟨Cells.cell X6.out 7, seven_cells R6.out⟩) (fun hHeld => ?_)
      generalize w4.drew = w5 at *
      clear L5 X5 Z5 B5 O5 R4 M5
      (first | (refine RegK.take 0 [6] (v := ?_) rfl (by kernel_rfl) (by kernel_rfl) (by kernel_rfl) (by kernel_rfl) rfl (by kernel_rfl) (fun _ _ _ h => h) (Or.inl ⟨by rfl, ?_⟩) (by assumption) ?_; rotate_left; (focus ((intro W hSW; (try unfold sevenR at hSW); (try dsimp only at hSW); (try go_split_ands); go_simp; (try (with_reducible rfl)); done)))) | (refine RegK.take 0 [6] (v := undef) rfl (by kernel_rfl) (by kernel_rfl) (by kernel_rfl) (by kernel_rfl) rfl (by kernel_rfl) (fun _ _ _ h => h) (Or.inr ⟨by rfl, rfl⟩) (by assumption) ?_))
      (try simp only [Act.put, List.setIfInBounds_toArray, List.set_cons_zero, List.set_cons_succ])
      (first | (refine RegK.take 1 [6] (v := ?_) rfl (by kernel_rfl) (by kernel_rfl) (by kernel_rfl) (by kernel_rfl) rfl (by kernel_rfl) (fun _ _ _ h => h) (Or.inl ⟨by rfl, ?_⟩) (by assumption) ?_; rotate_left; (focus ((intro W hSW; (try unfold sevenR at hSW); (try dsimp only at hSW); (try go_split_ands); go_simp; (try (with_reducible rfl)); done)))) | (refine RegK.take 1 [6] (v := undef) rfl (by kernel_rfl) (by kernel_rfl) (by kernel_rfl) (by kernel_rfl) rfl (by kernel_rfl) (fun _ _ _ h => h) (Or.inr ⟨by rfl, rfl⟩) (by assumption) ?_))
      (try simp only [Act.put, List.setIfInBounds_toArray, List.set_cons_zero, List.set_cons_succ])
      (first | (refine RegK.take 2 [6] (v := ?_) rfl (by kernel_rfl) (by kernel_rfl) (by kernel_rfl) (by kernel_rfl) rfl (by kernel_rfl) (fun _ _ _ h => h) (Or.inl ⟨by rfl, ?_⟩) (by assumption) ?_; rotate_left; (focus ((intro W hSW; (try unfold sevenR at hSW); (try dsimp only at hSW); (try go_split_ands); go_simp; (try (with_reducible rfl)); done)))) | (refine RegK.take 2 [6] (v := undef) rfl (by kernel_rfl) (by kernel_rfl) (by kernel_rfl) (by kernel_rfl) rfl (by kernel_rfl) (fun _ _ _ h => h) (Or.inr ⟨by rfl, rfl⟩) (by assumption) ?_))
      (try simp only [Act.put, List.setIfInBounds_toArray, List.set_cons_zero, List.set_cons_succ])
      (first | (refine RegK.take 3 [6] (v := ?_) rfl (by kernel_rfl) (by kernel_rfl) (by kernel_rfl) (by kernel_rfl) rfl (by kernel_rfl) (fun _ _ _ h => h) (Or.inl ⟨by rfl, ?_⟩) (by assumption) ?_; rotate_left; (focus ((intro W hSW; (try unfold sevenR at hSW); (try dsimp only at hSW); (try go_split_ands); go_simp; (try (with_reducible rfl)); done)))) | (refine RegK.take 3 [6] (v := undef) rfl (by kernel_rfl) (by kernel_rfl) (by kernel_rfl) (by kernel_rfl) rfl (by kernel_rfl) (fun _ _ _ h => h) (Or.inr ⟨by rfl, rfl⟩) (by assumption) ?_))
      (try simp only [Act.put, List.setIfInBounds_toArray, List.set_cons_zero, List.set_cons_succ])
      refine RegK.step 4 rfl (by kernel_rfl) (by rfl) (fun K hK => ?_)
      go_simp
      refine (HM.out _ L6.out).mono ?_
      rintro e w6 ⟨z, rfl, hz, hO, hb⟩
      have L7 := Lib.hid (L6.out.trans (hb.mono L6.out.size))
      have X7 := Lib.hid (Cells.below X6.out hb)
      have Z7 := Lib.hid (Cells.below Z6.out hb)
      have R7 := Lib.hid (Cells.below R6.out hb)
      have B7 := Lib.hid (B6.out.below hb)
      have O7 := Lib.hid (O6.out.below hb)
      have M7 := Lib.hid (fun y hy => (M6.out y hy).below hb)
      have NF := Lib.hid (off_later B6.out hO)
      have N7 := Lib.hid (hO.mono L6.out.size)
      have HZ := Lib.hid hz
      clear hO hb hz L6 X6 Z6 R6 B6 O6 M6 HM hHeld
      have hHeld : w6.cell? ⟨w.heap.size, 7, none⟩ = some (.slice (some ⟨g, 0, none⟩) x.p.l.length c') ∧ sevenR w6 r 0 y := ⟨Cells.cell X7.out 7, seven_cells R7.out⟩
      refine hK.out _ _ (fun _ => hHeld) ?_
      clear hK K
      (try simp only [Act.put, List.setIfInBounds_toArray, List.set_cons_zero, List.set_cons_succ])
      unfold rvV
      (first | (refine RegK.take 5 [6] (v := ?_) rfl (by kernel_rfl) (by kernel_rfl) (by kernel_rfl) (by kernel_rfl) rfl (by kernel_rfl) (fun _ _ _ h => h) (Or.inl ⟨by rfl, ?_⟩) (by assumption) ?_; rotate_left; (focus ((intro W hSW; (try unfold sevenR at hSW); (try dsimp only at hSW); (try go_split_ands); go_simp; (try (with_reducible rfl)); done)))) | (refine RegK.take 5 [6] (v := undef) rfl (by kernel_rfl) (by kernel_rfl) (by kernel_rfl) (by kernel_rfl) rfl (by kernel_rfl) (fun _ _ _ h => h) (Or.inr ⟨by rfl, rfl⟩) (by assumption) ?_))
      (try simp only [Act.put, List.setIfInBounds_toArray, List.set_cons_zero, List.set_cons_succ])
      obtain ⟨q0, q1, q2, q3, q4, q5, q6⟩ := seven_own O7.out HG.out
      have hfz := fun i => OwnS.Owns.free O7.out (by omega) i
      refine RegK.step 6 rfl (by kernel_rfl) (by rfl) (fun K hK => ?_)
      go_simp
      have bt := mov7R w6 g k z
      have O8 := Lib.hid (put7 O7.out HG.out z (by rw [HZ.out]))
      obtain ⟨cur, hcur, -⟩ := OwnS.Owns.block O7.out (g := g) rfl
      have cg := Chg.mov hcur bt
      have L8 := Lib.hid (L7.out.trans (bt.up L7.out.size HGG.out))
      have X8 := Lib.hid (Cells.mov X7.out bt (by simpa using HNE.out.1))
      have Z8 := Lib.hid (Cells.mov Z7.out bt (by simpa using HNE.out.2))
      have B8 := Lib.hid (cg.ownI B7.out (by decide))
      have M8 := Lib.hid (fun y hy => cg.ownI (M7.out y hy) (by decide))
      have N8 := Lib.hid (cg.ownI N7.out (by decide))
      clear bt cg hcur cur q0 q1 q2 q3 q4 q5 q6 hfz L7 X7 Z7 R7 B7 O7 M7 N7 hHeld
      unfold set7R at O8 L8 X8 Z8 B8 M8 N8
      generalize (((((((w6.setCell ⟨g, k * 7, none⟩ (.int .i64 z.r.kind)).setCell ⟨g, k * 7 + 1, none⟩ (.int .i64 z.r.lba)).setCell ⟨g, k * 7 + 2, none⟩ (.int .i64 z.r.n)).setCell ⟨g, k * 7 + 3, none⟩ (.int .i64 z.r.ver)).setCell ⟨g, k * 7 + 4, none⟩ (.int .i64 z.r.zone)).setCell ⟨g, k * 7 + 5, none⟩ (.int .i64 z.r.off)).setCell ⟨g, k * 7 + 6, none⟩ (.slice z.D z.r.data.length z.c)) = w7 at *
      refine hK.out _ _ (fun h => absurd rfl h) ?_
      clear hK K
      (try simp only [Act.put, List.setIfInBounds_toArray, List.set_cons_zero, List.set_cons_succ])
      refine RegK.done (by kernel_rfl) ?_ _
      have hnl : x.p.l.length ≤ 1000000 := HN.out
      go_wp2_with fail
      go_roundw
      case rel =>
        refine ⟨k + 1, ys ++ [z], by have := HN.out; go_num, by omega, by rw [List.length_append, HYS.out]; rfl, ?_, L8, X8, Z8, B8, ?_, ?_, ?_⟩
        · show _ = _
          rw [List.map_append, HP.out, show (x.xs.take (k + 1)) = x.xs.take k ++ [y] by rw [List.take_add_one, HX.out]; rfl, List.map_append, List.map_cons, List.map_nil, HZ.out]
          rfl
        · rw [← HS.out]; exact O8
        · intro y hy
          rcases List.mem_append.1 hy with hy | hy
          · exact M8.out y hy
          · rw [List.mem_singleton.1 hy]; exact N8.out
        · intro y hy
          rcases List.mem_append.1 hy with hy | hy
          · exact F4.out y hy
          · rw [List.mem_singleton.1 hy]; exact NF.out
      case measure => have := HN.out; simp [intOf]; omega
    · have hkn : k = x.p.l.length := by omega
      subst hkn
      have hd0 : x.xs.drop x.p.l.length = [] := List.drop_eq_nil_of_le (by rw [HL.out]; exact Nat.le_refl _)
      have OF : Hid (OwnRs w.heap.size wr L' x.p.l.length c' ys) := by
        have := O4.out
        rwa [hd0, List.append_nil] at this
      have PF : Hid (ys.map Rv.r = x.p.l) := by
        have := HP.out
        rw [List.take_of_length_le (by rw [HL.out]; exact Nat.le_refl _)] at this
        exact this.trans H.out.eq
      obtain ⟨m0, m1, m2, m3, m4, m5, m6, m7⟩ := eight_cells X4.out
      obtain ⟨z0, z1, z2, z3, z4, z5, z6, z7⟩ := eight_cells Z4.out
      obtain ⟨f0, f1, f2, f3, f4, f5, f6, f7⟩ := eight_free Z4.out
      (try dsimp only at m0 m1 m2 m3 m4 m5 m6 m7)
      clear hd0 O4 HP
      go_wp2_with fail
      have bt := mov8 wr (w.heap.size + 1) (.int .i64 x.p.h.host) (.int .i64 x.p.h.epoch) (.int .i64 x.p.h.seq) (.int .i64 x.p.zone) (.int .i64 x.p.cap) (.int .i64 x.p.at_) (.slice B' x.p.buf.length d') (.slice L' x.p.l.length c')
      have cg := Chg.mov Z4.out bt
      refine bodyPost_ret_by (results_c0 rfl _ _ (w.heap.size + 1) _ _ _ _ rfl (set8 Z4.out (.int .i64 x.p.h.host) (.int .i64 x.p.h.epoch) (.int .i64 x.p.h.seq) (.int .i64 x.p.zone) (.int .i64 x.p.cap) (.int .i64 x.p.at_) (.slice B' x.p.buf.length d') (.slice L' x.p.l.length c')) Try.underlying29 rfl (by kernel_rfl)) rfl ?_
      exact ⟨⟨x.p, B', d', L', c', ys⟩, rfl, rfl, ⟨cg.ownI B4.out (by decide), cg.owns OF.out (by decide), fun y hy => cg.ownI (M4.out y hy) (by decide), F4.out, PF.out⟩, L4.out.trans (bt.up L4.out.size (by omega))⟩
end Pk
end Go.Proofs.Ytedandbkdjmfhaa
