/-
  WALKS: how many bytes there are (zns's Used; the document's, whatever it tells), whether an input is small enough (few), the document's own Copy.
-/
import Derived.Test.YtnnphpfobdcmbaaZnsCheck
namespace Go.Proofs.Ytnnphpfobdcmbaa
open Go.RowKit Mem Zon
namespace Zns

def usedV (xs : List Zv) : Nat := (xs.map fun x => x.z.data.length).sum
theorem usedV_step {xs : List Zv} {k : Nat} {x : Zv} (hx : xs[k]? = some x) : usedV (xs.take (k + 1)) = usedV (xs.take k) + x.z.data.length := by
  unfold usedV
  rw [List.take_add_one, hx, Option.toList_some, List.map_append, List.sum_append]
  simp

set_option maxRecDepth 100000 in
set_option maxHeartbeats 1600000 in
theorem refUsed_any {d : Dx} {w : World} (h : DevAt w d) :
    Calls Try.prog 28 #[dxv d] w fun e w' => (∃ s, e = .returned (.int .i64 s)) ∧ Below w.heap.size w w' := by
  obtain ⟨cap, op, ac, A, n, c, xs⟩ := d
  have HR : Hid (RowS cellsZ 3 w A n c xs) := h.row
  have hbig := HR.out.big
  have L1 := Lib.hid ((Below.refl w.heap.size w).alloc (Nat.le_refl _) (.cells #[.int .i64 cap, .int .i64 op, .int .i64 ac, .slice A n c] 38))
  have B1 := Lib.hid (DBox.new w ⟨cap, op, ac, A, n, c, xs⟩)
  unfold dxv
  dsimp only at *
  clear h
  go_enter Try.func28, Try.ntmps28
  go_upto_region 1 with fail
  generalize w.alloc (.cells #[.int .i64 cap, .int .i64 op, .int .i64 ac, .slice A n c] 38) = w1 at *
  obtain ⟨m0, m1, m2, m3⟩ := B1.out.cells
  dsimp only at m0 m1 m2 m3
  go_wp2_with fail
  clear m0 m1 m2 m3
  go_loopw [3, 9] (fun x i wr => ∃ (k : Nat) (p : Int), i = .int .i64 k ∧ x = .int .i64 p ∧ k ≤ n ∧ Hid (Below w.heap.size w wr)) (fun _ i _ => n - (intOf i).toNat)
  case atStart => exact ⟨0, 0, rfl, rfl, by omega, L1.out⟩
  case round =>
    obtain ⟨k, p, rfl, rfl, hk, hH⟩ := hrel
    by_cases hlt : k < n
    · obtain ⟨x, hx⟩ := HR.out.get hlt
      obtain ⟨b, o, rfl, hb, hc⟩ := HR.out.elem hx
      have c0 : wr.cell? ⟨b, o + k * 3, none⟩ = some (.int .i64 x.z.st) := hc wr (hH.out.block b hb) 0 _ rfl
      have c1 : wr.cell? ⟨b, o + k * 3 + 1, none⟩ = some (.int .i64 x.z.fc) := hc wr (hH.out.block b hb) 1 _ rfl
      have c2 : wr.cell? ⟨b, o + k * 3 + 2, none⟩ = some (.slice x.D x.z.data.length x.c) := hc wr (hH.out.block b hb) 2 _ rfl
      have hk0 : (0 : Int) ≤ (k : Int) := by omega
      have hk1 : (k : Int) < (n : Int) := by omega
      have LN := Lib.hid (hH.out.alloc hH.out.size (.cells #[.int .i64 x.z.st, .int .i64 x.z.fc, .slice x.D x.z.data.length x.c] 46))
      clear hc hx
      go_wp2_with fail
      go_roundw
      case rel => exact ⟨k + 1, _, by go_num, rfl, by omega, LN.out⟩
      case measure => simp [intOf]; omega
    · go_wp2_with fail
      go_ret
      exact ⟨⟨_, rfl⟩, hH.out⟩

end Zns
end Go.Proofs.Ytnnphpfobdcmbaa
