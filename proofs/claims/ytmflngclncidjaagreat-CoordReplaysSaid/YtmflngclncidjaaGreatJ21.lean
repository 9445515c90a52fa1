/-
  SEVERAL TEXTS IN ONE FILE: CooEndW, LeaCat.
-/
import Derived.Test.YtmflngclncidjaaGreatJ12
import Derived.Test.YtmflngclncidjaaGreatJ20
import Derived.Test.YtmflngclncidjaaGreatJ18
import Derived.Test.YtmflngclncidjaaGreatJ09
import Derived.Test.YtmflngclncidjaaGreatJ08
/-
  A WALK OVER ended: what comes with a lease's end. (Written by gen_cooend.py.)
-/
namespace Go.Proofs.YtmflngclncidjaaGreat
open Go.RowKit Mem
namespace Coo
open Lea (Cells But OneBox Lv Tv)
open Spa (Sp)

theorem takeP_eq {c : Cv} (hs : Spa.okS c.s = true) {h : Int} (hh : hostB h = true) : Spa.takeP c.s h = (Spa.takeS c.s h, Spa.wereS c.s h, 0) := by
  unfold Spa.takeP
  rw [hs, show Spa.hostB h = true from hh]; rfl
theorem ownBlock_len (A : Option Addr) (n m c : Nat) : (Value.slice A n c).ownBlock = (Value.slice A m c).ownBlock := by cases A <;> rfl
theorem left_eq (h : Int) (l : List Fv) : left (fun y => y.host == h) l = l.filter (notBy h) := rfl

set_option maxRecDepth 100000 in
set_option maxHeartbeats 12800000 in
theorem ended_act {base g : Nat} {x : Cx} {w : World} {key h : Int} (hd : Desk base w g x) (hs : Spa.okS x.p.s = true) (hm : x.m ≤ 400000) (hq : x.q ≤ 100000) (hkey : key - 2000 = h) (hw : IntKind.i64.wrap (key - 2000) = h) :
    Calls Tryz.prog 73 #[.pointer (some ⟨g, 0, none⟩), .int .i64 key] w fun en w' => en = .returned (.tuple #[]) ∧ ∃ x', x'.p = endC x.p key ∧ Desk base w' g x' ∧ oL x' = oL x ∧ ∀ a, Move base g a (oW x) a (oW x') w w' := by
  have H0 := Lib.hid hd
  have HK := Lib.hid hkey
  have HH := fun w => Lib.hid (host_any h w)
  have HTK0 := fun W (hW : Below w.heap.size w W) => Lib.hid (Spa.take_own h (Spa.OwnsL.row (hd.s.below hW) (by omega)) (by omega))
  have HTE := fun hh => Lib.hid (takeP_eq (c := x.p) hs (h := h) hh)
  have HQ := Lib.hid hq
  have L1 : Hid (Below w.heap.size w (w.alloc (.cells #[.int .i64 h] 3))) := (Below.refl w.heap.size w).alloc (Nat.le_refl _) _
  have Z1 : Hid (OneBox (w.alloc (.cells #[.int .i64 h] 3)) w.heap.size 3 (.int .i64 h)) := Cells.new w _ _
  unfold Spa.OwnedSS at HTK0
  clear hd hs hkey hm hq
  go_enter Tryz.func73, Tryz.ntmps73
  go_upto_region 1 with fail
  generalize w.alloc (.cells #[.int .i64 h] 3) = w1 at *
  have D1 := Lib.hid (H0.out.below L1.out)
  have z0 := Lea.OneBox.cells Z1.out
  have HTK := fun W (hW : Below w1.heap.size w1 W) => HTK0 W (L1.out.trans (hW.mono L1.out.size))
  clear HTK0 hw
  go_wp2_with fail
  refine (HH w1).out.mono ?_
  rintro e w2 ⟨rfl, hw2⟩
  obtain rfl := hw2.symm
  rcases e1 : hostB h
  · go_wp2_with fail
    refine bodyPost_ret (results_none rfl _ _ _) rfl ?_
    refine ⟨rfl, x, ?_, D1.out, rfl, fun a => Move.of_below L1.out H0.out.low⟩
    unfold endC
    rw [HK.out, e1]; rfl
  · have hte := (HTE e1).out
    rw [hte] at HTK
    clear hte HTE HH z0
    go_upto_region 2 with fail
    have LL2 : Hid (Below w1.heap.size w1 w1.drew) := (Below.refl _ w1).drew
    have HS := fun W (hW : Below w1.heap.size w1 W) => Lea.OneBox.cells (Lea.Cells.below Z1.out hW)
    refine wp_region_held_drew (S := fun W => W.cell? ⟨w.heap.size, 0, none⟩ = some (.int .i64 h)) (by kernel_rfl) (HS _ LL2.out) (fun hHeld => ?_)
    generalize w1.drew = w2 at *
    (first | (refine Reg.take 0 (v := ?_) rfl (by kernel_rfl) (by kernel_rfl) (by kernel_rfl) (fun _ _ _ h => h) (Or.inl ⟨by rfl, ?_⟩) (by assumption) ?_; rotate_left; (focus ((intro W hSW); (try dsimp only at hSW); (try go_split_ands); go_simp; (try (with_reducible rfl)); done))) | (refine Reg.take 0 (v := undef) rfl (by kernel_rfl) (by kernel_rfl) (by kernel_rfl) (fun _ _ _ h => h) (Or.inr ⟨by rfl, rfl⟩) (by assumption) ?_))
    (try simp only [Act.put, List.setIfInBounds_toArray, List.set_cons_zero, List.set_cons_succ])
    (first | (refine Reg.take 1 (v := ?_) rfl (by kernel_rfl) (by kernel_rfl) (by kernel_rfl) (fun _ _ _ h => h) (Or.inl ⟨by rfl, ?_⟩) (by assumption) ?_; rotate_left; (focus ((intro W hSW); (try dsimp only at hSW); (try go_split_ands); go_simp; (try (with_reducible rfl)); done))) | (refine Reg.take 1 (v := undef) rfl (by kernel_rfl) (by kernel_rfl) (by kernel_rfl) (fun _ _ _ h => h) (Or.inr ⟨by rfl, rfl⟩) (by assumption) ?_))
    (try simp only [Act.put, List.setIfInBounds_toArray, List.set_cons_zero, List.set_cons_succ])
    (first | (refine Reg.take 2 (v := ?_) rfl (by kernel_rfl) (by kernel_rfl) (by kernel_rfl) (fun _ _ _ h => h) (Or.inl ⟨by rfl, ?_⟩) (by assumption) ?_; rotate_left; (focus ((intro W hSW); (try dsimp only at hSW); (try go_split_ands); go_simp; (try (with_reducible rfl)); done))) | (refine Reg.take 2 (v := undef) rfl (by kernel_rfl) (by kernel_rfl) (by kernel_rfl) (fun _ _ _ h => h) (Or.inr ⟨by rfl, rfl⟩) (by assumption) ?_))
    (try simp only [Act.put, List.setIfInBounds_toArray, List.set_cons_zero, List.set_cons_succ])
    (first | (refine Reg.take 3 (v := ?_) rfl (by kernel_rfl) (by kernel_rfl) (by kernel_rfl) (fun _ _ _ h => h) (Or.inl ⟨by rfl, ?_⟩) (by assumption) ?_; rotate_left; (focus ((intro W hSW); (try dsimp only at hSW); (try go_split_ands); go_simp; (try (with_reducible rfl)); done))) | (refine Reg.take 3 (v := undef) rfl (by kernel_rfl) (by kernel_rfl) (by kernel_rfl) (fun _ _ _ h => h) (Or.inr ⟨by rfl, rfl⟩) (by assumption) ?_))
    (try simp only [Act.put, List.setIfInBounds_toArray, List.set_cons_zero, List.set_cons_succ])
    (first | (refine Reg.take 4 (v := ?_) rfl (by kernel_rfl) (by kernel_rfl) (by kernel_rfl) (fun _ _ _ h => h) (Or.inl ⟨by rfl, ?_⟩) (by assumption) ?_; rotate_left; (focus ((intro W hSW); (try dsimp only at hSW); (try go_split_ands); go_simp; (try (with_reducible rfl)); done))) | (refine Reg.take 4 (v := undef) rfl (by kernel_rfl) (by kernel_rfl) (by kernel_rfl) (fun _ _ _ h => h) (Or.inr ⟨by rfl, rfl⟩) (by assumption) ?_))
    (try simp only [Act.put, List.setIfInBounds_toArray, List.set_cons_zero, List.set_cons_succ])
    (first | (refine Reg.take 6 (v := ?_) rfl (by kernel_rfl) (by kernel_rfl) (by kernel_rfl) (fun _ _ _ h => h) (Or.inl ⟨by rfl, ?_⟩) (by assumption) ?_; rotate_left; (focus ((intro W hSW); (try dsimp only at hSW); (try go_split_ands); go_simp; (try (with_reducible rfl)); done))) | (refine Reg.take 6 (v := undef) rfl (by kernel_rfl) (by kernel_rfl) (by kernel_rfl) (fun _ _ _ h => h) (Or.inr ⟨by rfl, rfl⟩) (by assumption) ?_))
    (try simp only [Act.put, List.setIfInBounds_toArray, List.set_cons_zero, List.set_cons_succ])
    refine Reg.step 5 rfl (by kernel_rfl) (by rfl) (fun K hK => ?_)
    have m3 := (seven (D1.out.below LL2.out).box).2.2.2.1
    go_simp
    clear m3
    refine hK.out _ _ (HS _ LL2.out) (fun hHeldA => ?_)
    clear hK K
    (try simp only [Act.put, List.setIfInBounds_toArray, List.set_cons_zero, List.set_cons_succ])
    refine Reg.step 7 rfl (by kernel_rfl) (by rfl) (fun K hK => ?_)
    go_simp
    refine (HTK w2 LL2.out).out.mono ?_
    rintro e w3 ⟨B, d, C, f, rfl, hR1, hR2, hO, hb⟩
    have LL3 := Lib.hid (LL2.out.trans (hb.mono LL2.out.size))
    have O3 := Lib.hid (hO.mono LL2.out.size)
    clear hb hR1 hR2 hO
    refine hK.out _ _ (HS _ LL3.out) (fun hHeldB => ?_)
    clear hK K
    (try simp only [Act.put, List.setIfInBounds_toArray, List.set_cons_zero, List.set_cons_succ])
    (first | (refine Reg.take 8 (v := ?_) rfl (by kernel_rfl) (by kernel_rfl) (by kernel_rfl) (fun _ _ _ h => h) (Or.inl ⟨by rfl, ?_⟩) (by assumption) ?_; rotate_left; (focus ((intro W hSW); (try dsimp only at hSW); (try go_split_ands); go_simp; (try (with_reducible rfl)); done))) | (refine Reg.take 8 (v := undef) rfl (by kernel_rfl) (by kernel_rfl) (by kernel_rfl) (fun _ _ _ h => h) (Or.inr ⟨by rfl, rfl⟩) (by assumption) ?_))
    (try simp only [Act.put, List.setIfInBounds_toArray, List.set_cons_zero, List.set_cons_succ])
    (first | (refine Reg.take 9 (v := ?_) rfl (by kernel_rfl) (by kernel_rfl) (by kernel_rfl) (fun _ _ _ h => h) (Or.inl ⟨by rfl, ?_⟩) (by assumption) ?_; rotate_left; (focus ((intro W hSW); (try dsimp only at hSW); (try go_split_ands); go_simp; (try (with_reducible rfl)); done))) | (refine Reg.take 9 (v := undef) rfl (by kernel_rfl) (by kernel_rfl) (by kernel_rfl) (fun _ _ _ h => h) (Or.inr ⟨by rfl, rfl⟩) (by assumption) ?_))
    (try simp only [Act.put, List.setIfInBounds_toArray, List.set_cons_zero, List.set_cons_succ])
    (first | (refine Reg.take 10 (v := ?_) rfl (by kernel_rfl) (by kernel_rfl) (by kernel_rfl) (fun _ _ _ h => h) (Or.inl ⟨by rfl, ?_⟩) (by assumption) ?_; rotate_left; (focus ((intro W hSW); (try dsimp only at hSW); (try go_split_ands); go_simp; (try (with_reducible rfl)); done))) | (refine Reg.take 10 (v := undef) rfl (by kernel_rfl) (by kernel_rfl) (by kernel_rfl) (fun _ _ _ h => h) (Or.inr ⟨by rfl, rfl⟩) (by assumption) ?_))
    (try simp only [Act.put, List.setIfInBounds_toArray, List.set_cons_zero, List.set_cons_succ])
    (first | (refine Reg.take 11 (v := ?_) rfl (by kernel_rfl) (by kernel_rfl) (by kernel_rfl) (fun _ _ _ h => h) (Or.inl ⟨by rfl, ?_⟩) (by assumption) ?_; rotate_left; (focus ((intro W hSW); (try dsimp only at hSW); (try go_split_ands); go_simp; (try (with_reducible rfl)); done))) | (refine Reg.take 11 (v := undef) rfl (by kernel_rfl) (by kernel_rfl) (by kernel_rfl) (fun _ _ _ h => h) (Or.inr ⟨by rfl, rfl⟩) (by assumption) ?_))
    (try simp only [Act.put, List.setIfInBounds_toArray, List.set_cons_zero, List.set_cons_succ])
    (first | (refine Reg.take 12 (v := ?_) rfl (by kernel_rfl) (by kernel_rfl) (by kernel_rfl) (fun _ _ _ h => h) (Or.inl ⟨by rfl, ?_⟩) (by assumption) ?_; rotate_left; (focus ((intro W hSW); (try dsimp only at hSW); (try go_split_ands); go_simp; (try (with_reducible rfl)); done))) | (refine Reg.take 12 (v := undef) rfl (by kernel_rfl) (by kernel_rfl) (by kernel_rfl) (fun _ _ _ h => h) (Or.inr ⟨by rfl, rfl⟩) (by assumption) ?_))
    (try simp only [Act.put, List.setIfInBounds_toArray, List.set_cons_zero, List.set_cons_succ])
    (first | (refine Reg.take 13 (v := ?_) rfl (by kernel_rfl) (by kernel_rfl) (by kernel_rfl) (fun _ _ _ h => h) (Or.inl ⟨by rfl, ?_⟩) (by assumption) ?_; rotate_left; (focus ((intro W hSW); (try dsimp only at hSW); (try go_split_ands); go_simp; (try (with_reducible rfl)); done))) | (refine Reg.take 13 (v := undef) rfl (by kernel_rfl) (by kernel_rfl) (by kernel_rfl) (fun _ _ _ h => h) (Or.inr ⟨by rfl, rfl⟩) (by assumption) ?_))
    (try simp only [Act.put, List.setIfInBounds_toArray, List.set_cons_zero, List.set_cons_succ])
    (first | (refine Reg.take 14 (v := ?_) rfl (by kernel_rfl) (by kernel_rfl) (by kernel_rfl) (fun _ _ _ h => h) (Or.inl ⟨by rfl, ?_⟩) (by assumption) ?_; rotate_left; (focus ((intro W hSW); (try dsimp only at hSW); (try go_split_ands); go_simp; (try (with_reducible rfl)); done))) | (refine Reg.take 14 (v := undef) rfl (by kernel_rfl) (by kernel_rfl) (by kernel_rfl) (fun _ _ _ h => h) (Or.inr ⟨by rfl, rfl⟩) (by assumption) ?_))
    (try simp only [Act.put, List.setIfInBounds_toArray, List.set_cons_zero, List.set_cons_succ])
    refine Reg.step 15 rfl (by kernel_rfl) (by rfl) (fun K hK => ?_)
    have D3 := Lib.hid (D1.out.below LL3.out)
    have m3 := (seven D3.out.box).2.2.2.1
    have f3 := (seven_frozen D3.out.box).2.2.2.1
    go_simp
    clear m3 f3
    have D4 := Lib.hid (D3.out.setS (O3.out.mono (Nat.le_trans H0.out.low L1.out.size)))
    have bt := Lea.But.set1 w3 g 3 (.slice B (Spa.takeS x.p.s h).length d)
    have Z4 := Lib.hid (Lea.Cells.but (Lea.Cells.below Z1.out LL3.out) bt (cells_ne (Lea.Cells.below Z1.out LL3.out) D3.out.box (by decide)))
    have M4 := Lib.hid (fun a => (Move.of_below (base := base) (g := g) (a := a) (b := oW x) (L1.out.trans (LL3.out.mono L1.out.size)) H0.out.low).trans (Move.box bt H0.out.le D3.out.low))
    clear bt
    refine hK.out _ _ (Lea.OneBox.cells Z4.out) (fun hHeldC => ?_)
    clear hK K
    (try simp only [Act.put, List.setIfInBounds_toArray, List.set_cons_zero, List.set_cons_succ])
    refine wpAnyH_done (by kernel_rfl) ?_ _
    clear hHeld hHeldA hHeldB hHeldC D3 O3 LL3 LL2 HS HTK
    generalize w3.setCell ⟨g, 3, none⟩ (.slice B (Spa.takeS x.p.s h).length d) = w4 at *
    have HDF := Lib.hid (deleteF_own (w := w4) D4.out.f (Nat.le_trans HQ.out (by decide)) D4.out.low 98 #[.pointer (some ⟨w.heap.size, 0, none⟩)] (enters_of Tryz.func98 (by kernel_rfl) rfl) (fun y => y.host == h) (fun W y hW => ended1_any h w.heap.size y W ((hW.block _ (Lea.Cells.lt Z4.out) (fun e => own_ne D4.out.f.1 Z4.out (by decide) e.symm)).trans Z4.out)))
    obtain ⟨m0, m1, m2, m3, m4, m5, m6⟩ := seven D4.out.box
    dsimp only at m4
    go_wp2_with fail
    refine HDF.out.mono ?_
    rintro e w5 ⟨rfl, hO, hg⟩
    have F5 := Lib.hid hO
    have B5 : Hid (KBox w5 g _) := (hg.block g D4.out.lt (fun e => D4.out.gW e.symm)).trans D4.out.box
    have OL5 := Lib.hid (Lea.OwnsL.kept D4.out.l hg (own_apart D4.out.l.1 D4.out.f.1 (by decide)))
    have OS5 := Lib.hid (Spa.OwnsL.kept D4.out.s hg (own_apart D4.out.s.1 D4.out.f.1 (by decide)))
    have M5 := Lib.hid (fun a => (M4.out a).trans (Move.rowW hg D4.out.low (fun k hk => (OwnsF.lt D4.out.f k hk).1)))
    have D6 := Lib.hid (desk_setW B5.out OL5.out OS5.out H0.out.le F5.out)
    have bt := Lea.But.set1 w5 g 4 (.slice x.W (left (fun y => y.host == h) x.p.wt).length x.k)
    have OB : Hid ((Value.slice x.W (left (fun y => y.host == h) x.p.wt).length x.k).ownBlock = oW x ∨ ∀ k, (Value.slice x.W (left (fun y => y.host == h) x.p.wt).length x.k).ownBlock = some k → w.heap.size ≤ k) := .inl (ownBlock_len _ _ _ _)
    have M6 := Lib.hid (fun a => Move.new (a' := a) ((M5.out a).trans (Move.box bt H0.out.le (Nat.le_trans H0.out.low (M5.out a).size))) (.inl rfl) OB.out)
    have n4 := (seven B5.out).2.2.2.2.1
    have f4 := (seven_frozen B5.out).2.2.2.2.1
    clear bt hO hg m0 m1 m2 m3 m4 m5 m6 HDF F5 OL5 OS5 M5 M4 D4
    dsimp only at n4
    go_wp2_with fail
    go_end0
    refine ⟨rfl, _, ?_, D6.out, rfl, M6.out⟩
    unfold endC
    rw [HK.out, e1]
    rfl
end Coo
end Go.Proofs.YtmflngclncidjaaGreat
/-
  WALKS: slices.Grow of nil and slices.Concat over leases; Revoke.
-/
namespace Go.Proofs.YtmflngclncidjaaGreat
open Go.RowKit Mem
namespace Lea

theorem head0 (A : Option Addr) (n c : Nat) (w : World) : (Instr.slice 25 (.slice A n c) none (some (.int .i64 0)) none).run Tryz.prog w = .ok (.slice A 0 c) w := run_headL A n c 0 (by omega) w

set_option maxRecDepth 100000 in
set_option maxHeartbeats 800000 in
theorem growNil_any (n : Nat) (hn : n ≤ 2000000) (w : World) :
    Calls Tryz.prog 110 #[.slice none 0 0, .int .i64 n] w fun e w' => (∃ A c, e = .returned (.slice A 0 c) ∧ OwnsL w.heap.size w' (.slice A 0 c) 0 []) ∧ Below w.heap.size w w' := by
  rcases Nat.eq_zero_or_pos n with h0 | h0
  · subst h0
    go_enter Tryz.func110, Tryz.ntmps110
    go_wp2
    go_ret
    exact ⟨⟨_, _, rfl, OwnsL.nil _ _⟩, Below.refl _ _⟩
  · obtain ⟨i, hi, hz0, hz1, hz2⟩ := info_parts info_lease
    have hr := fun w => Lib.run_append_nil_zeros (P := Tryz.prog) w 25 3 25 65 i _ .i64 .i64 Tryz.underlying25 Tryz.underlying3 hi hz0 n h0 (by omega) (by omega) (by rw [hz2]; omega)
    have HR := Lib.hid hr
    have hsl := head0
    clear hr hi hz0 hz1 hz2
    go_enter Tryz.func110, Tryz.ntmps110
    go_wp2_with (at_builtin
                 refine Lib.wpList_append_run _ rfl (.tmp 20) (.tmp 21) _ _ rfl _ _ rfl rfl _ _ (HR.out _) ?_)
    go_ret
    refine ⟨⟨_, _, rfl, ⟨?_, rfl⟩⟩, (Below.refl _ w).drew.alloc (Nat.le_refl _) _⟩
    refine World.ownsRow_made w.drew _ _ (Nat.le_refl _) (grownCap_le_maxLen w n 0 _ (by unfold maxLen; omega)) ?_
    have := grownCap_ge w n 0 65
    rw [Array.size_append, size_zeroCells, size_zeroCells]
    show n * 4 + (grownCap w n 0 65 - n) * 4 = grownCap w n 0 65 * 4
    omega

/-- A piece: where it lies, how long it is, its capacity, what it reads as. -/
structure Piece where
  A : Option Addr
  n : Nat
  c : Nat
  l : List Lv
def Piece.val (p : Piece) : Value := .slice p.A p.n p.c
def total (ps : List Piece) : Nat := (ps.map Piece.n).sum
def joined (ps : List Piece) : List Lv := ps.flatMap Piece.l
theorem total_snoc (ps : List Piece) (p : Piece) : total (ps ++ [p]) = total ps + p.n := by simp [total]
theorem joined_snoc (ps : List Piece) (p : Piece) : joined (ps ++ [p]) = joined ps ++ p.l := by simp [joined]
theorem total_take_le (ps : List Piece) (k : Nat) : total (ps.take k) ≤ total ps := by
  conv => rhs; rw [← List.take_append_drop k ps]
  unfold total
  rw [List.map_append, List.sum_append]
  omega

set_option maxRecDepth 100000 in
set_option maxHeartbeats 1600000 in
theorem concat_any {A : Option Addr} {n c : Nat} {ps : List Piece} {w : World} (h : Row Piece.val w A n c ps) (hp : ∀ p ∈ ps, RowL w p.A p.n p.c p.l) (ht : total ps ≤ 2000000) :
    Calls Tryz.prog 100 #[.slice A n c] w fun e w' => (∃ B k d, e = .returned (.slice B k d) ∧ OwnsL w.heap.size w' (.slice B k d) k (joined ps)) ∧ Below w.heap.size w w' := by
  have HR := Lib.hid h
  have HP := Lib.hid hp
  have hb := h.big
  clear h hp
  go_enter Tryz.func100, Tryz.ntmps100
  go_wp2
  go_loop [3, 5, 11] (fun s _ i => ∃ k z : Nat, i = .int .i64 k ∧ s = .int .i64 z ∧ k ≤ n ∧ z ≤ total ps ∧ Hid (total (ps.take k) = z)) (fun _ _ i => n - (intOf i).toNat)
  case atStart => exact ⟨0, 0, rfl, rfl, by omega, by omega, rfl⟩
  case round =>
    obtain ⟨k, z, rfl, rfl, hk, hz, hT⟩ := hrel
    by_cases hlt : k < n
    · obtain ⟨p, hp⟩ := HR.out.get hlt
      obtain ⟨b, o, rfl, hcell⟩ := HR.out.cell hp
      have hcell' : w.cell? ⟨b, o + k, none⟩ = some (.slice p.A p.n p.c) := hcell
      have hzn : z + p.n ≤ total ps := by
        have h1 := total_take_le ps (k + 1)
        rw [List.take_add_one, hp] at h1
        have h2 := total_snoc (ps.take k) p
        have := hT.out
        simp only [Option.toList_some] at h1
        omega
      have HE := Lib.hid hp
      clear hcell hp
      go_wp2
      go_round
      case rel => exact ⟨k + 1, z + p.n, by go_num, by go_num, by omega, hzn, by show _ = _; rw [List.take_add_one, HE.out, Option.toList_some, total_snoc, hT.out]⟩
      case measure => simp [intOf]; omega
    · have hkn : ps.take k = ps := List.take_of_length_le (by have := HR.out.len; omega)
      have hz2 : total ps = z := by rw [← hT.out, hkn]
      have HZ := Lib.hid hz2
      have HG := Lib.hid (fun w => growNil_any z (by omega) w)
      clear hkn hz2 hT
      go_wp2_with (go_at_call 110; refine (HG.out _).mono ?_; rintro e w2 ⟨⟨G, gc, rfl, hG⟩, hb2⟩; have OG := Lib.hid hG; have B2 := Lib.hid hb2; clear hG hb2)
      go_loopw [6, 8, 27] (fun s _ i wr => ∃ (S : Option Addr) (j d q : Nat), s = .slice S j d ∧ i = .int .i64 q ∧ q ≤ n ∧ Hid (OwnsL w.heap.size wr (.slice S j d) j (joined (ps.take q)) ∧ Below w.heap.size w wr ∧ j = total (ps.take q))) (fun _ _ i _ => n - (intOf i).toNat)
      case atStart => exact ⟨G, 0, gc, 0, rfl, rfl, by omega, OG.out, B2.out, rfl⟩
      case round =>
        obtain ⟨S, j, d, q, rfl, rfl, hq, hO⟩ := hrel
        by_cases hlq : q < n
        · obtain ⟨p, hp⟩ := HR.out.get hlq
          obtain ⟨b, o, rfl, hcell⟩ := (HR.out.below hO.out.2.1).cell hp
          have hcell' : wr.cell? ⟨b, o + q, none⟩ = some (.slice p.A p.n p.c) := hcell
          have hzn : Hid (j + p.n ≤ total ps) := by
            have h1 := total_take_le ps (q + 1)
            rw [List.take_add_one, hp] at h1
            have h2 := total_snoc (ps.take q) p
            have := hO.out.2.2
            simp only [Option.toList_some] at h1
            show _ ≤ _
            omega
          have HE := Lib.hid hp
          have RP := Lib.hid ((HP.out p (List.mem_of_getElem? hp)).below hO.out.2.1)
          clear hcell hp
          go_wp2_with (at_builtin
                       refine wpList_append_l rfl (.tmp 31) (.tmp 32) rfl rfl w.heap.size (.slice S j d) j _ rfl hO.out.1 p.A p.n p.c p.l rfl RP.out (by have := hzn.out; omega) hO.out.2.1.size ?_
                       intro A3 c3 w3 hown3 hg3 h53
                       have O3 := Lib.hid hown3
                       have B3 := Lib.hid (below_row hO.out.1 hg3 hO.out.2.1.size)
                       clear hown3 hg3 h53)
          go_roundw
          case rel =>
            refine ⟨A3, j + p.n, c3, q + 1, rfl, by go_num, by omega, ?_, hO.out.2.1.trans B3.out, ?_⟩
            · rw [List.take_add_one, HE.out, Option.toList_some, joined_snoc]; exact O3.out
            · rw [List.take_add_one, HE.out, Option.toList_some, total_snoc, ← hO.out.2.2]
          case measure => simp [intOf]; omega
        · have hkn : ps.take q = ps := List.take_of_length_le (by have := HR.out.len; omega)
          have HK := Lib.hid hkn
          clear hkn
          go_wp2
          go_ret
          have h := hO.out
          rw [HK.out] at h
          exact ⟨⟨_, _, _, rfl, h.1⟩, h.2.1⟩

/-- Two pieces in one block. -/
theorem row_two {w : World} {A B : Option Addr} {n c m d : Nat} {a b : List Lv} {t : TypeId} {q : Nat} (h : Cells w q t #[.slice A n c, .slice B m d]) :
    Row Piece.val w (some ⟨q, 0, none⟩) 2 2 [⟨A, n, c, a⟩, ⟨B, m, d, b⟩] := by
  refine ⟨rfl, by omega, by omega, fun _ => ⟨_, _, rfl, Cells.lt h, fun i x hi => ?_⟩⟩
  rw [Nat.zero_add, Cells.cell h]
  match i, hi with
  | 0, hi => simp at hi; subst hi; rfl
  | 1, hi => simp at hi; subst hi; rfl
theorem RowS.head {w : World} {A : Option Addr} {n c : Nat} {l : List Lv} (h : RowL w A n c l) {k : Nat} (hk : k ≤ n) : RowL w A k c (l.take k) := by
  refine ⟨by rw [List.length_take, h.len]; omega, by have := h.cap; omega, by have := h.big; omega, fun h0 => ?_⟩
  obtain ⟨b, o, e, hb, hc⟩ := h.at_ (by omega)
  refine ⟨b, o, e, hb, fun i x hx j u hu => ?_⟩
  rw [List.getElem?_take] at hx
  split at hx
  · exact hc i x hx j u hu
  · cases hx
def tailA (A : Option Addr) (c k : Nat) : Option Addr := if c = k then A else A.map (·.add (k * 4))
theorem RowS.tail {w : World} {A : Option Addr} {n c : Nat} {l : List Lv} (h : RowL w A n c l) {k : Nat} (hk : k ≤ n) : RowL w (tailA A c k) (n - k) (c - k) (l.drop k) := by
  refine ⟨by rw [List.length_drop, h.len], by have := h.cap; omega, by have := h.big; omega, fun h0 => ?_⟩
  obtain ⟨b, o, e, hb, hc⟩ := h.at_ (by omega)
  refine ⟨b, o + k * 4, ?_, hb, fun i x hx j u hu => ?_⟩
  · unfold tailA
    rw [if_neg (by have := h.cap; omega), e]
    simp [Mem.add_none]
  · rw [List.getElem?_drop] at hx
    have := hc (k + i) x hx j u hu
    rwa [show o + (k + i) * 4 + j = o + k * 4 + i * 4 + j by omega] at this

set_option maxRecDepth 100000 in
set_option maxHeartbeats 6400000 in
theorem revoke_own {last now : Int} {A : Option Addr} {n c : Nat} {l : List Lv} {w : World} (key : Int) (h : RowL w A n c l) (hn : n ≤ 1000000) :
    Calls Tryz.prog 75 #[tv last now A n c, .int .i64 key] w (OwnedT w (revokeP ⟨last, now, l⟩ key).1 [.int .i64 (revokeP ⟨last, now, l⟩ key).2]) := by
  have HR := Lib.hid h
  have hbig := h.big
  have hcap := h.cap
  have hlen := Lib.hid h.len
  have HC := fun w (h : RowL w A n c l) => Lib.hid (check_any (last := last) (now := now) h hn)
  have L1 : Hid (Below w.heap.size w ((w.alloc (.cells #[.int .i64 last, .int .i64 now, .slice A n c] 27)).alloc (.cells #[.int .i64 0, .int .i64 0, .slice none 0 0] 27))) := ((Below.refl w.heap.size w).alloc (Nat.le_refl _) _).alloc (by simp) _
  have B1 : Hid (TBox ((w.alloc (.cells #[.int .i64 last, .int .i64 now, .slice A n c] 27)).alloc (.cells #[.int .i64 0, .int .i64 0, .slice none 0 0] 27)) w.heap.size last now A n c) := heap_alloc2_old w _ _
  have N1 : Hid (TBox ((w.alloc (.cells #[.int .i64 last, .int .i64 now, .slice A n c] 27)).alloc (.cells #[.int .i64 0, .int .i64 0, .slice none 0 0] 27)) (w.heap.size + 1) 0 0 none 0 0) := heap_alloc2_new w _ _
  clear h
  have BAD : Hid (∀ (er : Int) w2, Below w.heap.size w w2 → OwnedT w zT [.int .i64 er] (.returned (.tuple #[tv 0 0 none 0 0, .int .i64 er])) w2) := fun er w2 hb => ⟨none, 0, rfl, RowS.nil _ _ _, OwnsL.nil _ _, hb⟩
  unfold revokeP
  simp only
  rcases hok : okT ⟨last, now, l⟩
  · rw [hok] at HC
    go_enter Tryz.func75, Tryz.ntmps75
    go_upto_region 1 with fail
    generalize (w.alloc (.cells #[.int .i64 last, .int .i64 now, .slice A n c] 27)).alloc (.cells #[.int .i64 0, .int .i64 0, .slice none 0 0] 27) = w1 at *
    obtain ⟨m0, m1, m2⟩ := TBox.cells B1.out
    go_wp2_with fail
    refine (HC w1 (HR.out.below L1.out)).out.mono ?_
    rintro e w2 ⟨rfl, hb⟩
    have L2 := Lib.hid (L1.out.trans (hb.mono L1.out.size))
    have N2 := Lib.hid (Cells.below N1.out hb)
    clear hb
    obtain ⟨z0, z1, z2⟩ := TBox.cells N2.out
    obtain ⟨f0, f1, f2⟩ := TBox.frozen N2.out
    go_wp2_with fail
    refine bodyPost_ret_by (results_c1 rfl _ _ (w.heap.size + 1) _ _ _ _ rfl (Cells.set3 N2.out (.int .i64 0) (.int .i64 0) (.slice none 0 0)) Tryz.underlying27 rfl (by kernel_rfl)) rfl ?_
    exact BAD.out 1 _ (below3 L2.out (by omega) _ _ _)
  · rw [hok] at HC
    have hri := okT_rises hok
    have HF := fun w (h : RowL w A n c l) => Lib.hid (find_any (key := key) h hri)
    have HRI := Lib.hid hri
    clear hri
    rcases hh : heldB l key
    · rw [hh] at HF
      go_enter Tryz.func75, Tryz.ntmps75
      go_upto_region 1 with fail
      generalize (w.alloc (.cells #[.int .i64 last, .int .i64 now, .slice A n c] 27)).alloc (.cells #[.int .i64 0, .int .i64 0, .slice none 0 0] 27) = w1 at *
      obtain ⟨m0, m1, m2⟩ := TBox.cells B1.out
      go_wp2_with fail
      refine (HC w1 (HR.out.below L1.out)).out.mono ?_
      rintro e w2 ⟨rfl, hb⟩
      have L2 := Lib.hid (L1.out.trans (hb.mono L1.out.size))
      have N2 := Lib.hid (Cells.below N1.out hb)
      have B2 := Lib.hid (Cells.below B1.out hb)
      clear hb m0 m1 m2 B1 N1 L1 HC
      obtain ⟨m0, m1, m2⟩ := TBox.cells B2.out
      go_wp2_with fail
      refine (HF w2 (HR.out.below L2.out)).out.mono ?_
      rintro e w3 ⟨⟨k, rfl, hpl⟩, hb⟩
      have L3 := Lib.hid (L2.out.trans (hb.mono L2.out.size))
      have N3 := Lib.hid (Cells.below N2.out hb)
      clear hb hpl
      obtain ⟨z0, z1, z2⟩ := TBox.cells N3.out
      obtain ⟨f0, f1, f2⟩ := TBox.frozen N3.out
      go_wp2_with fail
      refine bodyPost_ret_by (results_c1 rfl _ _ (w.heap.size + 1) _ _ _ _ rfl (Cells.set3 N3.out (.int .i64 0) (.int .i64 0) (.slice none 0 0)) Tryz.underlying27 rfl (by kernel_rfl)) rfl ?_
      exact BAD.out 4 _ (below3 L3.out (by omega) _ _ _)
    · rw [hh] at HF
      have HH := Lib.hid hh
      go_enter Tryz.func75, Tryz.ntmps75
      go_upto_region 1 with fail
      generalize (w.alloc (.cells #[.int .i64 last, .int .i64 now, .slice A n c] 27)).alloc (.cells #[.int .i64 0, .int .i64 0, .slice none 0 0] 27) = w1 at *
      obtain ⟨m0, m1, m2⟩ := TBox.cells B1.out
      go_wp2_with fail
      refine (HC w1 (HR.out.below L1.out)).out.mono ?_
      rintro e w2 ⟨rfl, hb⟩
      have L2 := Lib.hid (L1.out.trans (hb.mono L1.out.size))
      have N2 := Lib.hid (Cells.below N1.out hb)
      have B2 := Lib.hid (Cells.below B1.out hb)
      clear hb m0 m1 m2 B1 N1 L1 HC
      obtain ⟨m0, m1, m2⟩ := TBox.cells B2.out
      go_upto_region 4 with fail
      refine (HF w2 (HR.out.below L2.out)).out.mono ?_
      rintro e w3 ⟨⟨k, rfl, hpl⟩, hb⟩
      have L3 := Lib.hid (L2.out.trans (hb.mono L2.out.size))
      have N3 := Lib.hid (Cells.below N2.out hb)
      have B3 := Lib.hid (Cells.below B2.out hb)
      clear hb m0 m1 m2 B2 N2 L2 HF
      obtain ⟨x, hx, hxk, hfx⟩ := place_held HRI.out hpl HH.out
      have hkl : k < n := by have := (List.getElem?_eq_some_iff.1 hx).1; have := hlen.out; omega
      have HBU := Lib.hid (place_but HRI.out hpl hx hxk)
      have R3 := Lib.hid (HR.out.below L3.out)
      clear hx hfx hpl hxk
      go_upto_region 6 with fail
      have L4 : Hid (Below w.heap.size w w3.drew) := L3.out.drew
      have N4 : Hid (TBox w3.drew (w.heap.size + 1) 0 0 none 0 0) := N3.out
      have B4 : Hid (TBox w3.drew w.heap.size last now A n c) := B3.out
      have R4 : Hid (RowL w3.drew A n c l) := RowS.drew R3.out
      have hs1 : ∀ w, (Instr.slice 25 (.slice A n c) none (some (.int .i64 (k : Int))) none).run Tryz.prog w = .ok (.slice A k c) w := fun w => run_headL A n c k (by omega) w
      have hs2 : ∀ w, (Instr.slice 25 (.slice A n c) (some (.int .i64 ((k : Int) + 1))) none none).run Tryz.prog w = .ok (.slice (tailA A c (k + 1)) (n - (k + 1)) (c - (k + 1))) w := fun w => run_tailL A n c (k + 1) (by omega) w
      have hwk : IntKind.i64.wrap ((k : Int) + 1) = (k : Int) + 1 := by rw [IntKind.wrap_i64]; omega
      have HCC := fun (W : World) q (hW : Below w3.drew.heap.size w3.drew W) (hq : Cells W q 25 #[.slice A k c, .slice (tailA A c (k + 1)) (n - (k + 1)) (c - (k + 1))]) =>
        Lib.hid (concat_any (row_two (a := l.take k) (b := l.drop (k + 1)) hq) (by intro p hp; simp at hp; rcases hp with rfl | rfl; exact RowS.head (R4.out.below hW) (show k ≤ n by omega); exact RowS.tail (R4.out.below hW) (show k + 1 ≤ n by omega)) (by simp [total]; omega))
      have hj : joined [⟨A, k, c, l.take k⟩, ⟨tailA A c (k + 1), n - (k + 1), c - (k + 1), l.drop (k + 1)⟩] = butK l key := by simp [joined, HBU.out]
      rw [hj] at HCC
      obtain ⟨m0, m1, m2⟩ := TBox.cells B4.out
      obtain ⟨f0, f1, f2⟩ := TBox.frozen B4.out
      have BELOW : Hid (∀ (o : Obj) W, Below (w3.drew.alloc o).heap.size (w3.drew.alloc o) W → Below w3.drew.heap.size w3.drew W) := fun o W hW => ((Below.refl _ w3.drew).alloc (Nat.le_refl _) o).trans (hW.mono (by simp))
      go_region_with (go_at_call 100; refine (HCC _ _ ((Below.refl _ w3.drew).alloc (Nat.le_refl _) _) (Cells.new _ _ _)).out.mono ?_; rintro e wx ⟨⟨X, j, d, rfl, hX⟩, hb⟩; have B5 := Lib.hid (Cells.below B4.out (BELOW.out _ _ hb)); have N5 := Lib.hid (Cells.below N4.out (BELOW.out _ _ hb)); have L5 := Lib.hid (L4.out.trans ((BELOW.out _ _ hb).mono L4.out.size)); have X5 := Lib.hid hX; clear hb hX; obtain ⟨q0, q1, q2⟩ := TBox.cells B5.out; obtain ⟨g0, g1, g2⟩ := TBox.frozen B5.out)
      all_goals
        have C6 : Hid (TBox (wx.setCell ⟨w.heap.size, 2, none⟩ (.slice X j d)) w.heap.size last now X j d) := Cells.set_ B5.out 2 (.slice X j d)
        have N6 : Hid (TBox (wx.setCell ⟨w.heap.size, 2, none⟩ (.slice X j d)) (w.heap.size + 1) 0 0 none 0 0) := Cells.set_other N5.out (by omega) 2 _
        have L6 : Hid (Below w.heap.size w (wx.setCell ⟨w.heap.size, 2, none⟩ (.slice X j d))) := L5.out.setCell (p := ⟨w.heap.size, 2, none⟩) (Nat.le_refl _) _
        have FIN : Hid (∀ W9, But (w.heap.size + 1) (wx.setCell ⟨w.heap.size, 2, none⟩ (.slice X j d)) W9 → OwnedT w ⟨last, now, butK l key⟩ [.int .i64 0] (.returned (.tuple #[tv last now X j d, .int .i64 0])) W9) := by
          show ∀ _, _
          intro W9 hB
          have hlt : w.heap.size + 1 < w3.heap.size := Cells.lt N4.out
          have hb : w.heap.size + 1 < (w3.drew.alloc (.cells #[.slice A k c, .slice (tailA A c (k + 1)) (n - (k + 1)) (c - (k + 1))] 25)).heap.size := by simp; omega
          have h1 := (X5.out.setCell (p := ⟨w.heap.size, 2, none⟩) (by show w.heap.size < _; omega) (.slice X j d)).but hB hb
          have h2 := h1.2
          have hjn : j ≤ n := by rw [← h2, ← hlen.out]; exact List.length_filter_le _ _
          have h3 := h1.row (by omega)
          subst h2
          exact ⟨X, d, rfl, h3, h1.mono (by omega), L6.out.trans (hB.below L6.out.size (by omega))⟩
        clear q0 q1 q2 g0 g1 g2 m0 m1 m2 f0 f1 f2 X5 N5 B5 L5 R4 N4 B4 L4
        generalize wx.setCell ⟨w.heap.size, 2, none⟩ (.slice X j d) = w6 at *
        obtain ⟨m0, m1, m2⟩ := TBox.cells C6.out
        obtain ⟨z0, z1, z2⟩ := TBox.cells N6.out
        obtain ⟨f0, f1, f2⟩ := TBox.frozen N6.out
        go_wp2_with fail
        refine bodyPost_ret_by (results_c1 rfl _ _ (w.heap.size + 1) _ _ _ _ rfl (Cells.set3 N6.out (.int .i64 last) (.int .i64 now) (.slice X j d)) Tryz.underlying27 rfl (by kernel_rfl)) rfl ?_
        exact FIN.out _ (But.set3 _ _ _ _ _)
theorem revoke_any {last now : Int} {A : Option Addr} {n c : Nat} {l : List Lv} {w : World} (key : Int) (h : RowL w A n c l) (hn : n ≤ 1000000) :
    Calls Tryz.prog 75 #[tv last now A n c, .int .i64 key] w (GaveT w (revokeP ⟨last, now, l⟩ key).1 [.int .i64 (revokeP ⟨last, now, l⟩ key).2]) := by
  exact (revoke_own key h hn).mono fun _ _ h => h.gave
end Lea
end Go.Proofs.YtmflngclncidjaaGreat
