/-
  WALKS: how many bytes there are (zns's Used; the document's, whatever it tells), whether an input is small enough (few), the document's own Copy.
-/
import Derived.Test.YtbmblgjilmgkeaaZnsAll
namespace Go.Proofs.Ytbmblgjilmgkeaa
open Go.RowKit Mem Zon
namespace Zns

def usedV (xs : List Zv) : Nat := (xs.map fun x => x.z.data.length).sum
theorem usedV_step {xs : List Zv} {k : Nat} {x : Zv} (hx : xs[k]? = some x) : usedV (xs.take (k + 1)) = usedV (xs.take k) + x.z.data.length := by
  unfold usedV
  rw [List.take_add_one, hx, Option.toList_some, List.map_append, List.sum_append]
  simp

set_option maxRecDepth 100000 in
set_option maxHeartbeats 1600000 in
theorem used_any {d : Dx} {w : World} (h : DevAt w d) (hn : d.n ≤ 64) (hl : ∀ x ∈ d.xs, x.z.data.length ≤ 65536) :
    Calls Try.prog 23 #[dxv d] w fun e w' => e = .returned (.int .i64 (usedV d.xs : Int)) ∧ Below w.heap.size w w' := by
  obtain ⟨cap, op, ac, A, n, c, xs⟩ := d
  have HR : Hid (RowS cellsZ 3 w A n c xs) := h.row
  have hn : n ≤ 64 := hn
  have HL : Hid (∀ x ∈ xs, x.z.data.length ≤ 65536) := hl
  have L1 := Lib.hid ((Below.refl w.heap.size w).alloc (Nat.le_refl _) (.cells #[.int .i64 cap, .int .i64 op, .int .i64 ac, .slice A n c] 25))
  have B1 := Lib.hid (DBox.new w ⟨cap, op, ac, A, n, c, xs⟩)
  unfold dxv
  dsimp only at *
  clear h hl
  go_enter Try.func23, Try.ntmps23
  go_upto_region 1 with fail
  generalize w.alloc (.cells #[.int .i64 cap, .int .i64 op, .int .i64 ac, .slice A n c] 25) = w1 at *
  obtain ⟨m0, m1, m2, m3⟩ := B1.out.cells
  dsimp only at m0 m1 m2 m3
  go_wp2_with fail
  clear m0 m1 m2 m3
  go_loopw [3, 9] (fun x i wr => ∃ k p : Nat, i = .int .i64 k ∧ x = .int .i64 p ∧ k ≤ n ∧ p ≤ k * 65536 ∧ Hid (usedV (xs.take k) = p ∧ Below w.heap.size w wr)) (fun _ i _ => n - (intOf i).toNat)
  case atStart => exact ⟨0, 0, rfl, rfl, by omega, by omega, rfl, L1.out⟩
  case round =>
    obtain ⟨k, p, rfl, rfl, hk, hp, hH⟩ := hrel
    by_cases hlt : k < n
    · obtain ⟨x, hx⟩ := HR.out.get hlt
      obtain ⟨b, o, rfl, hb, hc⟩ := HR.out.elem hx
      have hO := Lib.hid (usedV_step hx)
      have hxl := HL.out x (List.mem_of_getElem? hx)
      have c0 : wr.cell? ⟨b, o + k * 3, none⟩ = some (.int .i64 x.z.st) := hc wr (hH.out.2.block b hb) 0 _ rfl
      have c1 : wr.cell? ⟨b, o + k * 3 + 1, none⟩ = some (.int .i64 x.z.fc) := hc wr (hH.out.2.block b hb) 1 _ rfl
      have c2 : wr.cell? ⟨b, o + k * 3 + 2, none⟩ = some (.slice x.D x.z.data.length x.c) := hc wr (hH.out.2.block b hb) 2 _ rfl
      have hk0 : (0 : Int) ≤ (k : Int) := by omega
      have hk1 : (k : Int) < (n : Int) := by omega
      have LN := Lib.hid (hH.out.2.alloc hH.out.2.size (.cells #[.int .i64 x.z.st, .int .i64 x.z.fc, .slice x.D x.z.data.length x.c] 42))
      clear hc hx
      go_wp2_with fail
      go_roundw
      case rel => exact ⟨k + 1, p + x.z.data.length, by go_num, by go_num, by omega, by omega, by rw [hO.out, hH.out.1], LN.out⟩
      case measure => simp [intOf]; omega
    · have hkn : xs.take k = xs := List.take_of_length_le (by have := HR.out.len; omega)
      have HK := Lib.hid hkn
      clear hkn
      go_wp2_with fail
      go_ret
      have hh := hH.out
      rw [HK.out] at hh
      exact ⟨by rw [hh.1]; rfl, hh.2⟩

set_option maxRecDepth 100000 in
set_option maxHeartbeats 1600000 in
theorem refUsed_any {d : Dx} {w : World} (h : DevAt w d) :
    Calls Try.prog 25 #[dxv d] w fun e w' => (∃ s, e = .returned (.int .i64 s)) ∧ Below w.heap.size w w' := by
  obtain ⟨cap, op, ac, A, n, c, xs⟩ := d
  have HR : Hid (RowS cellsZ 3 w A n c xs) := h.row
  have hbig := HR.out.big
  have L1 := Lib.hid ((Below.refl w.heap.size w).alloc (Nat.le_refl _) (.cells #[.int .i64 cap, .int .i64 op, .int .i64 ac, .slice A n c] 25))
  have B1 := Lib.hid (DBox.new w ⟨cap, op, ac, A, n, c, xs⟩)
  unfold dxv
  dsimp only at *
  clear h
  go_enter Try.func25, Try.ntmps25
  go_upto_region 1 with fail
  generalize w.alloc (.cells #[.int .i64 cap, .int .i64 op, .int .i64 ac, .slice A n c] 25) = w1 at *
  obtain ⟨m0, m1, m2, m3⟩ := B1.out.cells
  dsimp only at m0 m1 m2 m3
  go_wp2_with fail
  clear m0 m1 m2 m3
  go_loopw [3, 9] (fun x i wr => ∃ (k : Nat) (p : Int), i = .int .i64 k ∧ x = .int .i64 p ∧ k ≤ n ∧ Hid (Below w.heap.size w wr)) (fun _ i _ => n - (intOf i).toNat)
  case atStart => exact ⟨0, 0, rfl, rfl, by omega, L1.out⟩
  case round =>
    obtain ⟨k, p, rfl, rfl, hk, hH⟩ := hrel
    by_cases hlt : k < n
    · obtain ⟨x, hx⟩ := HR.out.get hlt
      obtain ⟨b, o, rfl, hb, hc⟩ := HR.out.elem hx
      have c0 : wr.cell? ⟨b, o + k * 3, none⟩ = some (.int .i64 x.z.st) := hc wr (hH.out.block b hb) 0 _ rfl
      have c1 : wr.cell? ⟨b, o + k * 3 + 1, none⟩ = some (.int .i64 x.z.fc) := hc wr (hH.out.block b hb) 1 _ rfl
      have c2 : wr.cell? ⟨b, o + k * 3 + 2, none⟩ = some (.slice x.D x.z.data.length x.c) := hc wr (hH.out.block b hb) 2 _ rfl
      have hk0 : (0 : Int) ≤ (k : Int) := by omega
      have hk1 : (k : Int) < (n : Int) := by omega
      have LN := Lib.hid (hH.out.alloc hH.out.size (.cells #[.int .i64 x.z.st, .int .i64 x.z.fc, .slice x.D x.z.data.length x.c] 42))
      clear hc hx
      go_wp2_with fail
      go_roundw
      case rel => exact ⟨k + 1, _, by go_num, rfl, by omega, LN.out⟩
      case measure => simp [intOf]; omega
    · go_wp2_with fail
      go_ret
      exact ⟨⟨_, rfl⟩, hH.out⟩

set_option maxRecDepth 100000 in
set_option maxHeartbeats 1600000 in
theorem few_any {d : Dx} {L : Option Addr} {m lc : Nat} {cs : List Cx} {w : World} (h : DevAt w d) (hl : RowS cellsC 6 w L m lc cs) :
    Calls Try.prog 12 #[dxv d, .slice L m lc] w fun e w' => (∃ b, e = .returned (.bool b) ∧ (b = true → d.n < 200 ∧ m < 200)) ∧ Below w.heap.size w w' := by
  obtain ⟨cap, op, ac, A, n, c, xs⟩ := d
  have HR := Lib.hid h
  have HL := Lib.hid hl
  have hbig := hl.big
  have hbn : n ≤ 140737488351232 := h.row.big
  have L1 := Lib.hid ((Below.refl w.heap.size w).alloc (Nat.le_refl _) (.cells #[.int .i64 cap, .int .i64 op, .int .i64 ac, .slice A n c] 25))
  have B1 := Lib.hid (DBox.new w ⟨cap, op, ac, A, n, c, xs⟩)
  have HU := fun w (h : DevAt w ⟨cap, op, ac, A, n, c, xs⟩) => Lib.hid (refUsed_any h)
  unfold dxv at *
  dsimp only at *
  clear h hl
  go_enter Try.func12, Try.ntmps12
  go_upto_region 1 with fail
  generalize w.alloc (.cells #[.int .i64 cap, .int .i64 op, .int .i64 ac, .slice A n c] 25) = w1 at *
  obtain ⟨m0, m1, m2, m3⟩ := B1.out.cells
  dsimp only at m0 m1 m2 m3
  go_wp2_with fail
  refine (HU w1 (HR.out.below L1.out)).out.mono ?_
  rintro e w2 ⟨⟨s0, rfl⟩, hb⟩
  have L2 := Lib.hid (L1.out.trans (hb.mono L1.out.size))
  have B2 := Lib.hid (B1.out.below hb)
  clear hb m0 m1 m2 m3 L1 B1 HU
  go_wp2_with fail
  go_loopw [5, 12] (fun x i wr => ∃ (k : Nat) (p : Int), i = .int .i64 k ∧ x = .int .i64 p ∧ k ≤ m ∧ Hid (Below w.heap.size w wr ∧ DBox wr w.heap.size ⟨cap, op, ac, A, n, c, xs⟩)) (fun _ i _ => m - (intOf i).toNat)
  case atStart => exact ⟨0, s0, rfl, rfl, by omega, L2.out, B2.out⟩
  case round =>
    obtain ⟨k, p, rfl, rfl, hk, hH⟩ := hrel
    by_cases hlt : k < m
    · obtain ⟨x, hx⟩ := HL.out.get hlt
      obtain ⟨b, o, rfl, c0, c1, c2, c3, c4, c5⟩ := cmd_cells HL.out hx hH.out.1
      have hk0 : (0 : Int) ≤ (k : Int) := by omega
      have hk1 : (k : Int) < (m : Int) := by omega
      have b1 : Below wr.heap.size wr (wr.alloc (.cells #[.int .i64 x.c.d, .int .i64 x.c.zone, .int .i64 x.c.epoch, .int .i64 x.c.off, .int .i64 x.c.n, .slice x.B x.c.b.length x.k] 36)) := (Below.refl _ wr).alloc (Nat.le_refl _) _
      have LN := Lib.hid (hH.out.1.trans (b1.mono hH.out.1.size))
      have BN := Lib.hid (hH.out.2.below b1)
      clear hx b1
      go_wp2_with fail
      go_roundw
      case rel => exact ⟨k + 1, _, by go_num, rfl, by omega, LN.out, BN.out⟩
      case measure => simp [intOf]; omega
    · obtain rfl : m = k := by omega
      obtain ⟨m0, m1, m2, m3⟩ := hH.out.2.cells
      dsimp only at m0 m1 m2 m3
      rcases e1 : decide (p < 200000)
      · go_wp2_with fail
        go_ret
        exact ⟨⟨false, rfl, fun h => by cases h⟩, hH.out.1⟩
      · rcases e2 : decide ((n : Int) < 200)
        · go_wp2_with fail
          go_ret
          exact ⟨⟨false, rfl, fun h => by cases h⟩, hH.out.1⟩
        · rcases e3 : decide ((m : Int) < 200)
          · go_wp2_with fail
            go_ret
            exact ⟨⟨false, rfl, fun h => by cases h⟩, hH.out.1⟩
          · have e2' := of_decide_eq_true e2
            have e3' := of_decide_eq_true e3
            have hfin : Hid (n < 200 ∧ m < 200) := ⟨by omega, by omega⟩
            clear e2' e3'
            go_wp2_with fail
            go_ret
            exact ⟨⟨true, rfl, fun _ => hfin.out⟩, hH.out.1⟩
end Zns
end Go.Proofs.Ytbmblgjilmgkeaa
