/-
  WALKS OVER zns.New, AND THE DOCUMENT'S OWN.
-/
import Derived.Test.YtbmblgjilmgkeaaZnsAll
import Derived.Test.YtbmblgjilmgkeaaZnsFacts
namespace Go.Proofs.Ytbmblgjilmgkeaa
open Go.RowKit Mem Zon
namespace Zns

def newP (zones most op ac : Int) : Dv := bif boundsB zones most op ac then ⟨most, op, ac, List.replicate zones.toNat nilZ⟩ else ⟨0, 0, 0, []⟩
/-- A device and an error, as a call gave them. -/
def GaveD (w : World) (p : Dv) (er : Int) (en : Ending) (w' : World) : Prop :=
  ∃ d, en = .returned (.tuple #[.agg #[.int .i64 d.cap, .int .i64 d.op, .int .i64 d.ac, .slice d.A d.n d.c], .int .i64 er]) ∧ DevAt w' d ∧ d.p = p ∧ Below w.heap.size w w'
def dx0 : Dx := ⟨0, 0, 0, none, 0, 0, []⟩
theorem dev0 (w : World) : DevAt w dx0 := ⟨RowS.nil _ _ _, by intro x hx; cases hx⟩
theorem new_ok {n : Nat} {most op ac : Int} (h : boundsB n most op ac = true) : okD ⟨most, op, ac, List.replicate n nilZ⟩ = true := by
  have hb := bounds_parts.1 h
  refine okD_parts.2 ⟨by rw [List.length_replicate]; exact h, fun z hz => ?_, ?_, ?_⟩
  · rw [List.eq_of_mem_replicate hz]
    show okB nilZ most = true
    rw [ok_iff (by omega) (by omega) (show (0 : Int) ≤ 0 by omega)]
    rfl
  · have : cO (List.replicate n nilZ) = 0 := by unfold cO; rw [List.countP_replicate]; rfl
    rw [this]
    show (0 : Int) ≤ op
    omega
  · have : cA (List.replicate n nilZ) = 0 := by unfold cA; rw [List.countP_replicate]; rfl
    rw [this]
    show (0 : Int) ≤ ac
    omega
theorem new_bad {n : Nat} {most op ac : Int} (h : boundsB n most op ac = false) : okD ⟨most, op, ac, List.replicate n nilZ⟩ = false := by
  unfold okD
  rw [List.length_replicate, h]; rfl
/-- Zones made anew, as a device. -/
theorem made_dev {w' : World} {most op ac : Int} {n o q : Nat} (hn : n ≤ 1000) (ho : o = 0) (h : OwnZ w' q 0 (List.replicate n zeroV)) : DevAt w' ⟨most, op, ac, some ⟨q, o, none⟩, n, n, List.replicate n zeroV⟩ ∧ (⟨most, op, ac, some ⟨q, o, none⟩, n, n, List.replicate n zeroV⟩ : Dx).p = ⟨most, op, ac, List.replicate n nilZ⟩ := by
  subst ho
  refine ⟨⟨⟨by simp, Nat.le_refl _, by show n ≤ _; omega, fun _ => ⟨q, 0, rfl, h.lt, fun i x hx j u hu => h.cell hx hu⟩⟩, fun x hx => ?_⟩, ?_⟩
  · rw [List.eq_of_mem_replicate hx]; exact Row.nil cb _
  · show Dv.mk _ _ _ _ = _
    rw [List.map_replicate]; rfl

set_option maxRecDepth 100000 in
set_option maxHeartbeats 3200000 in
theorem new_any (zones most op ac : Int) (w : World) :
    Calls Try.prog 9 #[.int .i64 zones, .int .i64 most, .int .i64 op, .int .i64 ac] w (GaveD w (newP zones most op ac) (errOf (boundsB zones most op ac))) := by
  have HB := fun w => bounds_any zones most op ac w
  have L1 : Hid (Below w.heap.size w (w.alloc (.cells #[.int .i64 0, .int .i64 0, .int .i64 0, .slice none 0 0] 25))) := (Below.refl _ w).alloc (Nat.le_refl _) _
  have Z1 : Hid (Cells (w.alloc (.cells #[.int .i64 0, .int .i64 0, .int .i64 0, .slice none 0 0] 25)) w.heap.size 25 #[.int .i64 0, .int .i64 0, .int .i64 0, .slice none 0 0]) := Cells.new w _ _
  unfold GaveD newP
  rcases hb : boundsB zones most op ac
  · rw [hb] at HB
    go_enter Try.func9, Try.ntmps9
    go_upto_region 1 with fail
    generalize w.alloc (.cells #[.int .i64 0, .int .i64 0, .int .i64 0, .slice none 0 0] 25) = w1 at *
    have z0 : w1.cell? ⟨w.heap.size, 0, none⟩ = some (.int .i64 0) := Cells.cell Z1.out 0
    have z1 : w1.cell? ⟨w.heap.size, 1, none⟩ = some (.int .i64 0) := Cells.cell Z1.out 1
    have z2 : w1.cell? ⟨w.heap.size, 2, none⟩ = some (.int .i64 0) := Cells.cell Z1.out 2
    have z3 : w1.cell? ⟨w.heap.size, 3, none⟩ = some (.slice none 0 0) := Cells.cell Z1.out 3
    have f0 : w1.frozen? ⟨w.heap.size, 0, none⟩ = false := Cells.frozen Z1.out 0
    have f1 : w1.frozen? ⟨w.heap.size, 1, none⟩ = false := Cells.frozen Z1.out 1
    have f2 : w1.frozen? ⟨w.heap.size, 2, none⟩ = false := Cells.frozen Z1.out 2
    have f3 : w1.frozen? ⟨w.heap.size, 3, none⟩ = false := Cells.frozen Z1.out 3
    go_wp2_with fail
    refine (HB w1).mono ?_
    rintro e w2 ⟨rfl, rfl⟩
    go_wp2_with fail
    refine bodyPost_ret_by (results_zone_tmp rfl _ _ w.heap.size _ _ _ _ rfl (Cells.set4 Z1.out (.int .i64 0) (.int .i64 0) (.int .i64 0) (.slice none 0 0)) Try.underlying25 rfl (by kernel_rfl)) rfl ?_
    exact ⟨dx0, rfl, dev0 _, rfl, below4 L1.out (Nat.le_refl _) _ _ _ _⟩
  · rw [hb] at HB
    obtain ⟨n, rfl⟩ : ∃ n : Nat, zones = (n : Int) := ⟨zones.toNat, by have := (bounds_parts.1 hb).1; omega⟩
    have hn : n ≤ 1000 := by have := (bounds_parts.1 hb).2.1; omega
    obtain ⟨o, ho⟩ : ∃ o : Nat, o = 0 := ⟨0, rfl⟩
    have HO := Lib.hid ho
    have hmk : ∀ w : World, (Instr.makeSlice 23 (.int .i64 (n : Int)) (.int .i64 (n : Int))).run Try.prog w = .ok (.slice (some ⟨w.heap.size, o, none⟩) n n) (w.alloc (.cells (madeCells #[.int .i64 0, .int .i64 0, .slice none 0 0] (n * 3)) 42)) := by
      rw [ho]; exact fun w => run_make_zone w n hn
    have HM := fun w : World => Lib.hid (made_zone (w := w) n)
    clear hb ho
    go_enter Try.func9, Try.ntmps9
    go_upto_region 1 with fail
    generalize w.alloc (.cells #[.int .i64 0, .int .i64 0, .int .i64 0, .slice none 0 0] 25) = w1 at *
    go_wp2_with fail
    refine (HB w1).mono ?_
    rintro e w2 ⟨rfl, hw⟩
    obtain rfl := hw.symm
    clear hw
    have b2 : Below w1.heap.size w1 (w1.alloc (.cells (madeCells #[.int .i64 0, .int .i64 0, .slice none 0 0] (n * 3)) 42)) := (Below.refl _ w1).alloc (Nat.le_refl _) _
    have Z2 := Lib.hid (Cells.below Z1.out b2)
    have L2 := Lib.hid (L1.out.trans (b2.mono L1.out.size))
    have M2 := HM w1
    have V2 : Hid (w.heap.size < w1.heap.size) := Cells.lt Z1.out
    have z0 : (w1.alloc (.cells (madeCells #[.int .i64 0, .int .i64 0, .slice none 0 0] (n * 3)) 42)).cell? ⟨w.heap.size, 0, none⟩ = some (.int .i64 0) := Cells.cell Z2.out 0
    have z1 : (w1.alloc (.cells (madeCells #[.int .i64 0, .int .i64 0, .slice none 0 0] (n * 3)) 42)).cell? ⟨w.heap.size, 1, none⟩ = some (.int .i64 0) := Cells.cell Z2.out 1
    have z2 : (w1.alloc (.cells (madeCells #[.int .i64 0, .int .i64 0, .slice none 0 0] (n * 3)) 42)).cell? ⟨w.heap.size, 2, none⟩ = some (.int .i64 0) := Cells.cell Z2.out 2
    have z3 : (w1.alloc (.cells (madeCells #[.int .i64 0, .int .i64 0, .slice none 0 0] (n * 3)) 42)).cell? ⟨w.heap.size, 3, none⟩ = some (.slice none 0 0) := Cells.cell Z2.out 3
    have f0 : (w1.alloc (.cells (madeCells #[.int .i64 0, .int .i64 0, .slice none 0 0] (n * 3)) 42)).frozen? ⟨w.heap.size, 0, none⟩ = false := Cells.frozen Z2.out 0
    have f1 : (w1.alloc (.cells (madeCells #[.int .i64 0, .int .i64 0, .slice none 0 0] (n * 3)) 42)).frozen? ⟨w.heap.size, 1, none⟩ = false := Cells.frozen Z2.out 1
    have f2 : (w1.alloc (.cells (madeCells #[.int .i64 0, .int .i64 0, .slice none 0 0] (n * 3)) 42)).frozen? ⟨w.heap.size, 2, none⟩ = false := Cells.frozen Z2.out 2
    have f3 : (w1.alloc (.cells (madeCells #[.int .i64 0, .int .i64 0, .slice none 0 0] (n * 3)) 42)).frozen? ⟨w.heap.size, 3, none⟩ = false := Cells.frozen Z2.out 3
    generalize hw2 : w1.alloc (.cells (madeCells #[.int .i64 0, .int .i64 0, .slice none 0 0] (n * 3)) 42) = w2 at *
    have hmk2 := hmk w1
    rw [hw2] at hmk2
    clear hw2 hmk HM L1 Z1
    generalize w1.heap.size = q at *
    go_wp2_with fail
    refine bodyPost_ret_by (results_zone_tmp rfl _ _ w.heap.size _ _ _ _ rfl (Cells.set4 Z2.out (.int .i64 most) (.int .i64 op) (.int .i64 ac) (.slice (some ⟨q, o, none⟩) n n)) Try.underlying25 rfl (by kernel_rfl)) rfl ?_
    obtain ⟨k1, k2⟩ := made_dev (most := most) (op := op) (ac := ac) (by omega) HO.out (M2.out.heap (w' := (((w2.setCell ⟨w.heap.size, 0, none⟩ (.int .i64 most)).setCell ⟨w.heap.size, 1, none⟩ (.int .i64 op)).setCell ⟨w.heap.size, 2, none⟩ (.int .i64 ac)).setCell ⟨w.heap.size, 3, none⟩ (.slice (some ⟨q, o, none⟩) n n)) ((But.set4 w2 w.heap.size _ _ _ _).block M2.out.lt (by have := V2.out; omega)))
    exact ⟨_, rfl, k1, k2, below4 L2.out (Nat.le_refl _) _ _ _ _⟩
end Zns
end Go.Proofs.Ytbmblgjilmgkeaa
