/-
  WALKS: the chapter's example; whether an input is small enough.
-/
import Derived.Test.YtnnphpfobdcmbaaLivPlanW
namespace Go.Proofs.Ytnnphpfobdcmbaa
open Go.RowKit Mem Ext Zon Zns
namespace Liv

def zb : Array Value := madeCells #[.int .u8 0] 32
def zl : List (BitVec 8) := List.replicate 32 0#8
theorem zl_len : zl.length = 32 := rfl
theorem run_make32 (w : World) : (Instr.makeSlice 44 (.int .i64 32) (.int .i64 32)).run Try.prog w = .ok (.slice (some ⟨w.heap.size, 0, none⟩) 32 32) (w.alloc (.cells zb 5)) := by
  obtain ⟨i, hi, hz0, hz1, hz2⟩ := info_parts info_byte
  have h := run_make (P := Try.prog) w 44 5 i _ Try.underlying44 hi hz0 .i64 .i64 32 32 (by omega) (by omega) (by rw [hz2]; omega) (by omega)
  rw [hz1] at h
  exact h
theorem zb_get {i : Nat} (h : i < 32) : zb[i]? = some (cb 0#8) := by
  unfold zb
  have hs : i < (madeCells #[.int .u8 0] 32).size := by rw [size_madeCells]; exact h
  rw [Array.getElem?_eq_getElem hs]
  have : i % 1 = 0 := Nat.mod_one i
  simp [madeCells, this, cb, u]
theorem zb_row {w : World} {q : Nat} (h : Ext.Cells w q 5 zb) : Row cb w (some ⟨q, 0, none⟩) 32 32 zl := by
  refine ⟨rfl, Nat.le_refl _, by omega, fun _ => ⟨q, 0, rfl, Ext.Cells.lt h, fun i x hx => ?_⟩⟩
  have hi : i < 32 := by have := (List.getElem?_eq_some_iff.1 hx).1; rwa [zl_len] at this
  have hx2 : x = 0#8 := List.eq_of_mem_replicate (List.mem_of_getElem? hx)
  subst hx2
  have := Ext.Cells.cell h i
  rw [Nat.zero_add, this, zb_get hi]
def uz : Zn := ⟨4, 0, zl⟩
def ud (q0 q1 : Nat) : Dx := ⟨32, 1, 1, some ⟨q1, 0, none⟩, 1, 1, [⟨uz, some ⟨q0, 0, none⟩, 32⟩]⟩
def ue (n : Int) : Ext.Ex := ⟨0, n, 0, 0, 0⟩
theorem ud_need (q0 q1 : Nat) (n : Int) (hn : n = 1 ∨ n = 2) : needB (ud q0 q1) [ue n] = true := by
  rcases hn with rfl | rfl <;> kernel_rfl
theorem victims_one {key : Nat → Int} {n : Nat} (l : List Nat) (h : l = [n]) : sortB key l = [n] := by rw [h]; unfold sortB; simp
theorem up_one (q0 q1 : Nat) : headV (planP (ud q0 q1) [ue 1] [] 1) = (0, true) := by
  unfold planP
  rw [ud_need q0 q1 1 (.inl rfl), cond_true]
  unfold victims
  rw [victims_one (n := 0) _ (by kernel_rfl)]
  rfl
theorem up_two (q0 q1 : Nat) : headV (planP (ud q0 q1) [ue 2] [] 1) = (0, false) := by
  unfold planP
  rw [ud_need q0 q1 2 (.inr rfl), cond_true]
  have : victims (ud q0 q1) [ue 2] [] = [] := by
    unfold victims
    have e : chooseP (ud q0 q1).n (fullB ((ud q0 q1).xs.map Zv.z) [ue 2]) [] = [] := by kernel_rfl
    rw [e]; unfold sortB; simp
  rw [this]; rfl
theorem ud_at {w : World} {q0 q1 : Nat} (h0 : Row cb w (some ⟨q0, 0, none⟩) 32 32 zl) (h1 : Ext.Cells w q1 46 #[.int .i64 4, .int .i64 0, .slice (some ⟨q0, 0, none⟩) 32 32]) : DevAt w (ud q0 q1) := by
  refine ⟨⟨rfl, Nat.le_refl _, by show (1 : Nat) ≤ _; omega, fun _ => ⟨q1, 0, rfl, Ext.Cells.lt h1, fun i x hx j v hv => ?_⟩⟩, fun x hx => ?_⟩
  · match i with
    | 0 =>
      have hx' : x = ⟨uz, some ⟨q0, 0, none⟩, 32⟩ := by
        have : some (⟨uz, some ⟨q0, 0, none⟩, 32⟩ : Zv) = some x := hx
        injection this with this; exact this.symm
      subst hx'
      have := Ext.Cells.cell h1 j
      rw [Nat.zero_mul, Nat.add_zero, Nat.zero_add, this, List.getElem?_toArray]
      exact hv
    | i + 1 => exact absurd hx (by simp [ud])
  · have : x = ⟨uz, some ⟨q0, 0, none⟩, 32⟩ := by simpa [ud] using hx
    subst this
    exact h0
theorem ue_row {w : World} {q : Nat} {n : Int} (h : Ext.Cells w q 32 #[.int .i64 0, .int .i64 n, .int .i64 0, .int .i64 0, .int .i64 0]) : RowL w (some ⟨q, 0, none⟩) 1 1 [ue n] := by
  refine ⟨rfl, Nat.le_refl _, by omega, fun _ => ⟨q, 0, rfl, Ext.Cells.lt h, fun i x hx j v hv => ?_⟩⟩
  match i with
  | 0 =>
    have hx' : x = ue n := by
      have : some (ue n) = some x := hx
      injection this with this; exact this.symm
    subst hx'
    have := Ext.Cells.cell h j
    rw [Nat.zero_mul, Nat.add_zero, Nat.zero_add, this, List.getElem?_toArray]
    exact hv
  | i + 1 => simp at hx
theorem ue_small {n : Int} (hn : n ≤ 9223372036854775807) : SmallN [ue n] := fun x hx => by
  have : x = ue n := by simpa using hx
  subst this; exact hn

set_option maxRecDepth 100000 in
set_option maxHeartbeats 6400000 in
theorem up_any (w : World) : Calls Try.prog 8 #[] w fun e w' => e = .returned (.bool true) ∧ Below w.heap.size w w' := by
  obtain ⟨o, ho⟩ : ∃ o : Nat, o = 0 := ⟨0, rfl⟩
  have hmk : ∀ w : World, (Instr.makeSlice 44 (.int .i64 32) (.int .i64 32)).run Try.prog w = .ok (.slice (some ⟨w.heap.size, o, none⟩) 32 32) (w.alloc (.cells zb 5)) := by
    rw [ho]; exact fun w => run_make32 w
  have HO := Lib.hid ho
  have HV1 := fun w q0 q1 (h : DevAt w (ud q0 q1)) q (hl : RowL w (some ⟨q, 0, none⟩) 1 1 [ue 1]) => Lib.hid (victim_any h hl (ue_small (by omega)) (C := none) (k := 0) (f := 0) (sk := []) (Row.nil _ _))
  have HV2 := fun w q0 q1 (h : DevAt w (ud q0 q1)) q (hl : RowL w (some ⟨q, 0, none⟩) 1 1 [ue 2]) => Lib.hid (victim_any h hl (ue_small (by omega)) (C := none) (k := 0) (f := 0) (sk := []) (Row.nil _ _))
  simp only [up_one] at HV1
  simp only [up_two] at HV2
  unfold dxv ud at HV1 HV2
  dsimp only at HV1 HV2
  clear ho
  have A1 : Hid (Below w.heap.size w (w.alloc (.cells zb 5))) := (Below.refl _ w).alloc (Nat.le_refl _) _
  have C1 : Hid (Ext.Cells (w.alloc (.cells zb 5)) w.heap.size 5 zb) := Ext.Cells.new _ _ _
  go_enter Try.func8, Try.ntmps8
  go_upto_region 2 with fail
  rw [HO.out]
  have hs1 : (w.alloc (.cells zb 5)).heap.size = w.heap.size + 1 := by simp
  generalize w.alloc (.cells zb 5) = w1 at *
  generalize hq0 : w.heap.size = q0 at *
  have A2 : Hid (Below q0 w (w1.alloc (.cells #[.int .i64 4, .int .i64 0, .slice (some ⟨q0, 0, none⟩) 32 32] 46))) := A1.out.alloc (by omega) _
  have b2 : Hid (Below w1.heap.size w1 (w1.alloc (.cells #[.int .i64 4, .int .i64 0, .slice (some ⟨q0, 0, none⟩) 32 32] 46))) := (Below.refl _ w1).alloc (Nat.le_refl _) _
  have C2 : Hid (Ext.Cells (w1.alloc (.cells #[.int .i64 4, .int .i64 0, .slice (some ⟨q0, 0, none⟩) 32 32] 46)) w1.heap.size 46 #[.int .i64 4, .int .i64 0, .slice (some ⟨q0, 0, none⟩) 32 32]) := Ext.Cells.new _ _ _
  have D2 := Lib.hid (Ext.Cells.below C1.out b2.out)
  have hs2 : (w1.alloc (.cells #[.int .i64 4, .int .i64 0, .slice (some ⟨q0, 0, none⟩) 32 32] 46)).heap.size = q0 + 1 + 1 := by rw [← hs1]; simp
  rw [hs1] at C2
  generalize w1.alloc (.cells #[.int .i64 4, .int .i64 0, .slice (some ⟨q0, 0, none⟩) 32 32] 46) = w2 at *
  have A3 : Hid (Below q0 w (w2.alloc (.cells #[.int .i64 32, .int .i64 1, .int .i64 1, .slice (some ⟨q0 + 1, 0, none⟩) 1 1] 38))) := A2.out.alloc (by omega) _
  have b3 : Hid (Below w2.heap.size w2 (w2.alloc (.cells #[.int .i64 32, .int .i64 1, .int .i64 1, .slice (some ⟨q0 + 1, 0, none⟩) 1 1] 38))) := (Below.refl _ w2).alloc (Nat.le_refl _) _
  have C3 : Hid (Ext.Cells (w2.alloc (.cells #[.int .i64 32, .int .i64 1, .int .i64 1, .slice (some ⟨q0 + 1, 0, none⟩) 1 1] 38)) w2.heap.size 38 #[.int .i64 32, .int .i64 1, .int .i64 1, .slice (some ⟨q0 + 1, 0, none⟩) 1 1]) := Ext.Cells.new _ _ _
  have V3 := Lib.hid (ud_at (zb_row (Ext.Cells.below D2.out b3.out)) (Ext.Cells.below C2.out b3.out))
  have hs3 : (w2.alloc (.cells #[.int .i64 32, .int .i64 1, .int .i64 1, .slice (some ⟨q0 + 1, 0, none⟩) 1 1] 38)).heap.size = q0 + 1 + 1 + 1 := by rw [← hs2]; simp
  rw [hs2] at C3
  generalize w2.alloc (.cells #[.int .i64 32, .int .i64 1, .int .i64 1, .slice (some ⟨q0 + 1, 0, none⟩) 1 1] 38) = w3 at *
  clear A1 A2 b2 b3 C1 C2 D2 hmk hs1 hs2 hs3
  have n0 : w3.cell? ⟨q0 + 1 + 1, 0, none⟩ = some (.int .i64 32) := Ext.Cells.cell C3.out 0
  have n1 : w3.cell? ⟨q0 + 1 + 1, 1, none⟩ = some (.int .i64 1) := Ext.Cells.cell C3.out 1
  have n2 : w3.cell? ⟨q0 + 1 + 1, 2, none⟩ = some (.int .i64 1) := Ext.Cells.cell C3.out 2
  have n3 : w3.cell? ⟨q0 + 1 + 1, 3, none⟩ = some (.slice (some ⟨q0 + 1, 0, none⟩) 1 1) := Ext.Cells.cell C3.out 3
  have A4 : Hid (Below q0 w (w3.alloc (.cells #[.int .i64 0, .int .i64 1, .int .i64 0, .int .i64 0, .int .i64 0] 32))) := A3.out.alloc (by have := A3.out.size; omega) _
  have b4 : Hid (Below w3.heap.size w3 (w3.alloc (.cells #[.int .i64 0, .int .i64 1, .int .i64 0, .int .i64 0, .int .i64 0] 32))) := (Below.refl _ w3).alloc (Nat.le_refl _) _
  have C4 : Hid (Ext.Cells (w3.alloc (.cells #[.int .i64 0, .int .i64 1, .int .i64 0, .int .i64 0, .int .i64 0] 32)) w3.heap.size 32 #[.int .i64 0, .int .i64 1, .int .i64 0, .int .i64 0, .int .i64 0]) := Ext.Cells.new _ _ _
  go_upto_region 3 with (go_at_call 15; refine (HV1 _ q0 (q0 + 1) (V3.out.below b4.out) _ (ue_row C4.out)).out.mono ?_; rintro e w4 ⟨rfl, hb⟩; have L4 := Lib.hid (A4.out.trans (hb.mono (by have := A4.out.size; omega))); have V4 := Lib.hid ((V3.out.below b4.out).below hb); have D4 := Lib.hid (Ext.Cells.below (Ext.Cells.below C3.out b4.out) hb); clear hb)
  clear n0 n1 n2 n3 A4 b4 C4 A3 C3 V3
  have n0 : w4.cell? ⟨q0 + 1 + 1, 0, none⟩ = some (.int .i64 32) := Ext.Cells.cell D4.out 0
  have n1 : w4.cell? ⟨q0 + 1 + 1, 1, none⟩ = some (.int .i64 1) := Ext.Cells.cell D4.out 1
  have n2 : w4.cell? ⟨q0 + 1 + 1, 2, none⟩ = some (.int .i64 1) := Ext.Cells.cell D4.out 2
  have n3 : w4.cell? ⟨q0 + 1 + 1, 3, none⟩ = some (.slice (some ⟨q0 + 1, 0, none⟩) 1 1) := Ext.Cells.cell D4.out 3
  have A5 : Hid (Below q0 w (w4.alloc (.cells #[.int .i64 0, .int .i64 2, .int .i64 0, .int .i64 0, .int .i64 0] 32))) := L4.out.alloc (by have := L4.out.size; omega) _
  have b5 : Hid (Below w4.heap.size w4 (w4.alloc (.cells #[.int .i64 0, .int .i64 2, .int .i64 0, .int .i64 0, .int .i64 0] 32))) := (Below.refl _ w4).alloc (Nat.le_refl _) _
  have C5 : Hid (Ext.Cells (w4.alloc (.cells #[.int .i64 0, .int .i64 2, .int .i64 0, .int .i64 0, .int .i64 0] 32)) w4.heap.size 32 #[.int .i64 0, .int .i64 2, .int .i64 0, .int .i64 0, .int .i64 0]) := Ext.Cells.new _ _ _
  go_wp2_with (go_at_call 15; refine (HV2 _ q0 (q0 + 1) (V4.out.below b5.out) _ (ue_row C5.out)).out.mono ?_; rintro e w5 ⟨rfl, hb⟩; have L5 := Lib.hid (A5.out.trans (hb.mono (by have := A5.out.size; omega))); clear hb)
  go_ret
  exact ⟨rfl, by rw [hq0]; exact L5.out⟩

set_option maxRecDepth 100000 in
set_option maxHeartbeats 1600000 in
theorem few_any {d : Dx} {L : Option Addr} {m lc : Nat} {w : World} (h : DevAt w d) (hm : m ≤ 140737488351232) :
    Calls Try.prog 13 #[dxv d, .slice L m lc] w fun e w' => (∃ b, e = .returned (.bool b) ∧ (b = true → d.n < 100 ∧ m < 300)) ∧ Below w.heap.size w w' := by
  obtain ⟨cap, op, ac, A, n, c, xs⟩ := d
  have HR := Lib.hid h
  have hbn : n ≤ 140737488351232 := h.row.big
  have L1 := Lib.hid ((Below.refl w.heap.size w).alloc (Nat.le_refl _) (.cells #[.int .i64 cap, .int .i64 op, .int .i64 ac, .slice A n c] 38))
  have B1 := Lib.hid (DBox.new w ⟨cap, op, ac, A, n, c, xs⟩)
  have HU := fun w (h : DevAt w ⟨cap, op, ac, A, n, c, xs⟩) => Lib.hid (refUsed_any h)
  unfold dxv at *
  dsimp only at *
  clear h
  go_enter Try.func13, Try.ntmps13
  go_upto_region 1 with fail
  generalize w.alloc (.cells #[.int .i64 cap, .int .i64 op, .int .i64 ac, .slice A n c] 38) = w1 at *
  obtain ⟨m0, m1, m2, m3⟩ := B1.out.cells
  dsimp only at m0 m1 m2 m3
  go_wp2_with fail
  refine (HU w1 (HR.out.below L1.out)).out.mono ?_
  rintro e w2 ⟨⟨p, rfl⟩, hb⟩
  have L2 := Lib.hid (L1.out.trans (hb.mono L1.out.size))
  have B2 := Lib.hid (B1.out.below hb)
  clear hb m0 m1 m2 m3 L1 B1 HU
  obtain ⟨m0, m1, m2, m3⟩ := B2.out.cells
  dsimp only at m0 m1 m2 m3
  rcases e1 : decide (p < 200000)
  · go_wp2_with fail
    go_ret
    exact ⟨⟨false, rfl, fun h => by cases h⟩, L2.out⟩
  · rcases e2 : decide ((n : Int) < 100)
    · go_wp2_with fail
      go_ret
      exact ⟨⟨false, rfl, fun h => by cases h⟩, L2.out⟩
    · rcases e3 : decide ((m : Int) < 300)
      · go_wp2_with fail
        go_ret
        exact ⟨⟨false, rfl, fun h => by cases h⟩, L2.out⟩
      · have hfin : Hid (n < 100 ∧ m < 300) := by have h1 := of_decide_eq_true e2; have h2 := of_decide_eq_true e3; constructor <;> omega
        go_wp2_with fail
        go_ret
        exact ⟨⟨true, rfl, fun _ => hfin.out⟩, L2.out⟩
end Liv
end Go.Proofs.Ytnnphpfobdcmbaa
