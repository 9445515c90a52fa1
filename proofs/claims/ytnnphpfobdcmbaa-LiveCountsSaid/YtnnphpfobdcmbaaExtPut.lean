/-
  WALKS: Put, Cut, Part, At.
-/
import Derived.Test.YtnnphpfobdcmbaaExtOver
import Derived.Test.YtnnphpfobdcmbaaExtIdx
namespace Go.Proofs.Ytnnphpfobdcmbaa
open Go.RowKit Mem
namespace Ext

theorem cells_set4 {w : World} {q : Nat} {t : TypeId} {a b c d : Value} (h : Cells w q t #[a, b, c, d]) (x y z v : Value) : Cells ((((w.setCell ⟨q, 0, none⟩ x).setCell ⟨q, 1, none⟩ y).setCell ⟨q, 2, none⟩ z).setCell ⟨q, 3, none⟩ v) q t #[x, y, z, v] :=
  Cells.set_ (Cells.set_ (Cells.set_ (Cells.set_ h 0 x) 1 y) 2 z) 3 v
/-- A row of one's own and an error, as a call gave them. -/
def GaveE (w : World) (r : List Ex) (er : Int) (en : Ending) (w' : World) : Prop := (∃ B m d, en = .returned (.tuple #[.slice B m d, .int .i64 er]) ∧ OwnsL w.heap.size w' (.slice B m d) m r) ∧ Below w.heap.size w w'

set_option maxRecDepth 100000 in
set_option maxHeartbeats 6400000 in
theorem part_any {A : Option Addr} {n c : Nat} {l : List Ex} {w : World} (hA : RowL w A n c l) (hl : Ok 0 l) (hn : n ≤ 1000000) (a k : Int) (hk : k ≤ 9223372036854775807) :
    Calls Try.prog 27 #[.slice A n c, .int .i64 a, .int .i64 k] w (GaveE w (bif rangeB a k then clips a (a + k) l else []) (errOf (rangeB a k))) := by
  have HA := Lib.hid hA
  have HL := Lib.hid hl
  have HC := fun w (h : RowL w A n c l) => Lib.hid (check_ok h hl)
  have HB := fun w => Lib.hid (blocks_any a k hk w)
  clear hA hl
  rcases hr : rangeB a k
  · rw [hr] at HB
    go_enter Try.func27, Try.ntmps27
    go_wp2_with fail
    refine (HC w HA.out).out.mono ?_
    rintro e w1 ⟨rfl, hb⟩
    have L1 := Lib.hid hb
    clear hb
    go_wp2_with (go_at_call 45; refine (HB _).out.mono ?_; rintro e w2 ⟨rfl, rfl⟩)
    go_ret2
    exact ⟨⟨_, _, _, rfl, OwnsL.nil _ _⟩, L1.out⟩
  · obtain ⟨r1, r2, r3⟩ := rangeB_iff.1 hr
    rw [hr] at HB
    have HRG := Lib.hid (And.intro r1 (And.intro r2 r3))
    have hw : IntKind.i64.wrap (a + k) = a + k := wrap_small (by omega) (by omega)
    clear r1 r2 r3 hr
    go_enter Try.func27, Try.ntmps27
    go_wp2_with fail
    refine (HC w HA.out).out.mono ?_
    rintro e w1 ⟨rfl, hb⟩
    have L1 := Lib.hid hb
    clear hb
    go_wp2_with (go_at_call 45; refine (HB _).out.mono ?_; rintro e w2 ⟨rfl, rfl⟩)
    refine (addParts_any (base := w.heap.size) (out := []) a (a + k) (OwnsL.nil _ _) L1.out.size (fun W h => HA.out.below (L1.out.trans h)) HL.out (by omega) (by omega) HRG.out.1 (by have := HRG.out; omega) (by have := HRG.out; omega) HRG.out.2.2).mono ?_
    rintro e w3 ⟨⟨Y, q, p, rfl, hO, -⟩, hb, -⟩
    have L3 := Lib.hid (L1.out.trans hb)
    have O3 := Lib.hid hO
    clear hO hb
    go_wp2_with fail
    go_ret2
    exact ⟨⟨_, _, _, rfl, O3.out⟩, L3.out⟩

def atP (l : List Ex) (a : Int) : Option Ex := bif rangeB a 1 then (clips a (a + 1) l).head? else none
def xvO : Option Ex → Value
  | some x => xv x
  | none => .agg #[.int .i64 0, .int .i64 0, .int .i64 0, .int .i64 0, .int .i64 0]
theorem atP_bad {l : List Ex} {a : Int} (h : rangeB a 1 = false) : atP l a = none := by unfold atP; rw [h]; rfl
theorem atP_ok {l : List Ex} {a : Int} (h : rangeB a 1 = true) : atP l a = (clips a (a + 1) l).head? := by unfold atP; rw [h]; rfl

set_option maxRecDepth 100000 in
set_option maxHeartbeats 6400000 in
theorem at_any {A : Option Addr} {n c : Nat} {l : List Ex} {w : World} (hA : RowL w A n c l) (hl : Ok 0 l) (hn : n ≤ 1000000) (a : Int) :
    Calls Try.prog 12 #[.slice A n c, .int .i64 a] w fun e w' => e = .returned (.tuple #[xvO (atP l a), .bool (atP l a).isSome]) ∧ Below w.heap.size w w' := by
  have HA := Lib.hid hA
  have HP := fun w (h : RowL w A n c l) => Lib.hid (part_any h hl hn a 1 (by omega))
  have L1 : Hid (Below w.heap.size w (w.alloc (.cells #[.int .i64 0, .int .i64 0, .int .i64 0, .int .i64 0, .int .i64 0] 32))) := (Below.refl _ w).alloc (Nat.le_refl _) _
  have N1 : Hid (LBox (w.alloc (.cells #[.int .i64 0, .int .i64 0, .int .i64 0, .int .i64 0, .int .i64 0] 32)) w.heap.size ⟨0, 0, 0, 0, 0⟩) := Cells.new w _ _
  clear hA hl
  go_enter Try.func12, Try.ntmps12
  go_upto_region 1 with fail
  generalize w.alloc (.cells #[.int .i64 0, .int .i64 0, .int .i64 0, .int .i64 0, .int .i64 0] 32) = w1 at *
  rcases hr : rangeB a 1
  · have HAT := Lib.hid (atP_bad (l := l) hr)
    rw [hr] at HP
    clear hr
    go_wp2_with fail
    refine (HP w1 (HA.out.below L1.out)).out.mono ?_
    rintro e w3 ⟨⟨B, m, d, rfl, hO⟩, hb⟩
    have L3 := Lib.hid (L1.out.trans (hb.mono L1.out.size))
    have N3 := Lib.hid (Cells.below N1.out hb)
    clear hO hb
    obtain ⟨z0, z1, z2, z3, z4⟩ := LBox.cells (x := ⟨0, 0, 0, 0, 0⟩) N3.out
    obtain ⟨f0, f1, f2, f3, f4⟩ := LBox.frozen (x := ⟨0, 0, 0, 0, 0⟩) N3.out
    dsimp only at z0 z1 z2 z3 z4
    have he : errOf false = 1 := rfl
    simp only [he]
    go_wp2_with fail
    refine bodyPost_ret_by (results_c1 rfl _ _ w.heap.size _ _ _ _ rfl (Cells.set5 N3.out (.int .i64 0) (.int .i64 0) (.int .i64 0) (.int .i64 0) (.int .i64 0)) Try.underlying32 rfl (by kernel_rfl)) rfl ?_
    exact ⟨by rw [HAT.out]; rfl, below5 L3.out (Nat.le_refl _) _ _ _ _ _ _ _ _ _ _⟩
  · have HAT := Lib.hid (atP_ok (l := l) hr)
    rw [hr] at HP
    clear hr
    go_wp2_with fail
    refine (HP w1 (HA.out.below L1.out)).out.mono ?_
    rintro e w3 ⟨⟨B, m, d, rfl, hO⟩, hb⟩
    have L3 := Lib.hid (L1.out.trans (hb.mono L1.out.size))
    have N3 := Lib.hid (Cells.below N1.out hb)
    have O3 := Lib.hid hO
    clear hO hb
    obtain ⟨z0, z1, z2, z3, z4⟩ := LBox.cells (x := ⟨0, 0, 0, 0, 0⟩) N3.out
    obtain ⟨f0, f1, f2, f3, f4⟩ := LBox.frozen (x := ⟨0, 0, 0, 0, 0⟩) N3.out
    dsimp only at z0 z1 z2 z3 z4
    have he : errOf true = 0 := rfl
    simp only [he, cond_true] at *
    generalize clips a (a + 1) l = C at *
    rcases C with _ | ⟨x, r⟩
    · obtain rfl : m = 0 := O3.out.2.symm
      go_wp2_with fail
      refine bodyPost_ret_by (results_c1 rfl _ _ w.heap.size _ _ _ _ rfl (Cells.set5 N3.out (.int .i64 0) (.int .i64 0) (.int .i64 0) (.int .i64 0) (.int .i64 0)) Try.underlying32 rfl (by kernel_rfl)) rfl ?_
      exact ⟨by rw [HAT.out]; rfl, below5 L3.out (Nat.le_refl _) _ _ _ _ _ _ _ _ _ _⟩
    · have hm : m = r.length + 1 := O3.out.2.symm
      obtain ⟨g, hB, -, -, ⟨q0, q1, q2, q3, q4⟩, -, -⟩ := OwnsL.put (k := 0) (x := x) O3.out rfl
      subst hB
      simp only [Nat.zero_mul, Nat.zero_add] at q0 q1 q2 q3 q4
      have hm0 : (0 : Int) < (m : Int) := by omega
      have hmz : ((m : Int) == 0) = false := by simp; omega
      have hmz2 : ¬ (m : Int) = 0 := by omega
      have hmz3 : ¬ m = 0 := by omega
      clear hm
      go_wp2_with fail
      refine bodyPost_ret_by (results_c1 rfl _ _ w.heap.size _ _ _ _ rfl (Cells.set5 N3.out (.int .i64 x.lba) (.int .i64 x.n) (.int .i64 x.ver) (.int .i64 x.zone) (.int .i64 x.off)) Try.underlying32 rfl (by kernel_rfl)) rfl ?_
      exact ⟨by rw [HAT.out]; rfl, below5 L3.out (Nat.le_refl _) _ _ _ _ _ _ _ _ _ _⟩

/-- What the law keeps of a block, as a value. -/
def bv : Option (Int × Int × Int) → Value
  | some (v, z, o) => .agg #[.bool true, .int .i64 v, .int .i64 z, .int .i64 o]
  | none => .agg #[.bool false, .int .i64 0, .int .i64 0, .int .i64 0]
theorem head_tell {l : List Ex} {a : Int} (hl : Ok 0 l) (hr : rangeB a 1 = true) : (atP l a).map (fun x => (x.ver, x.zone, x.off)) = tell l a := by
  rw [atP_ok hr]
  have h1 := tell_clips (a := a) (b := a + 1) hl a
  rw [if_pos (by omega)] at h1
  rw [← h1]
  have hok : Ok a (clips a (a + 1) l) := ok_clips hl (by omega)
  have hen := ends_clips a (a + 1) l
  rcases e : clips a (a + 1) l with _ | ⟨x, r⟩
  · rfl
  · rw [e] at hok hen
    have hx := en_lt hok.1
    have hx2 := hok.2.1
    have hx3 := hen x List.mem_cons_self
    have hxa : x.lba = a := by omega
    show some (x.ver, x.zone, x.off) = _
    rw [tell, if_pos (by unfold has; omega)]
    unfold blk
    by_cases hz : x.zone = -1
    · rw [if_pos hz, may_zone hok.1 hz]
    · rw [if_neg hz, show x.off + 16 * (a - x.lba) = x.off by omega]
theorem at_tell {l : List Ex} (hl : Ok 0 l) (a : Int) : (atP l a).map (fun x => (x.ver, x.zone, x.off)) = tell l a := by
  rcases hr : rangeB a 1
  · rw [atP_bad hr]
    have : ¬ (0 ≤ a ∧ 1 ≤ (1 : Int) ∧ a + 1 ≤ 1099511627776) := fun h => by rw [rangeB_iff.2 h] at hr; cases hr
    by_cases h0 : a < 0
    · rw [tell_low hl h0]; rfl
    · rw [tell_high hl (by omega)]; rfl
  · exact head_tell hl hr
end Ext
end Go.Proofs.Ytnnphpfobdcmbaa
