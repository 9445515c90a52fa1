/-
  WALKS: the document's In of ints, once more: it leaves the world as it was (for regions that draw their order and only read).
-/
import Derived.Test.YtnnphpfobdcmbaaLivInts
import Derived.BigQuiet
namespace Go.Proofs.Ytnnphpfobdcmbaa
open Go.RowKit Mem
namespace Liv

set_option maxRecDepth 100000 in
set_option maxHeartbeats 1600000 in
theorem in_same {A : Option Addr} {n c : Nat} {l : List Int} {w : World} (h : Row ci w A n c l) (v : Int) :
    Calls Try.prog 17 #[.slice A n c, .int .i64 v] w fun e w' => e = .returned (.bool (l.contains v)) ∧ w' = w := by
  have HR := Lib.hid h
  have hbig := h.big
  have hlen := Lib.hid h.len
  obtain ⟨bb, hbb⟩ : ∃ bb, l.contains v = bb := ⟨_, rfl⟩
  rw [hbb]
  have HB := Lib.hid hbb
  clear h hbb
  go_enter Try.func17, Try.ntmps17
  go_wp2
  go_loopw [6, 9] (fun _ i wr => ∃ k : Nat, i = .int .i64 k ∧ k ≤ n ∧ Hid (wr = w ∧ (l.take k).contains v = false)) (fun _ i _ => n - (intOf i).toNat)
  case atStart => exact ⟨0, rfl, by omega, rfl, by rfl⟩
  case round =>
    obtain ⟨k, rfl, hk, hH⟩ := hrel
    obtain rfl := hH.out.1
    by_cases hlt : k < n
    · obtain ⟨y, hy⟩ := HR.out.get hlt
      obtain ⟨b, o, hA, c0⟩ := (HR.out).cell hy
      subst hA
      have c0' : wr.cell? ⟨b, o + k, none⟩ = some (.int .i64 y) := c0
      clear c0
      have hk0 : (0 : Int) ≤ (k : Int) := by omega
      have hkn : (k : Int) < (n : Int) := by omega
      have HS := Lib.hid (has_snoc hy v)
      have HM := Lib.hid (List.mem_of_getElem? hy)
      clear hy
      rcases e : (y == v)
      · have HE := Lib.hid e
        go_wp2_with fail
        go_roundw
        case rel => exact ⟨k + 1, by go_num, by omega, by trivial, by rw [HS.out, hH.out.2]; have := HE.out; simp only [beq_eq_false_iff_ne, ne_eq, Bool.false_or] at *; exact fun h => this h.symm⟩
        case measure => simp [intOf]; omega
      · have HE := Lib.hid e
        go_wp2_with fail
        go_ret
        refine ⟨?_, rfl⟩
        have h1 : y = v := by simpa using HE.out
        have : l.contains v = true := List.contains_iff_mem.2 (by rw [← h1]; exact HM.out)
        rw [HB.out] at this; rw [this]; rfl
    · go_wp2_with fail
      go_ret
      refine ⟨?_, rfl⟩
      have := hH.out.2
      rw [List.take_of_length_le (by have := hlen.out; omega)] at this
      rw [HB.out] at this; rw [this]; rfl
end Liv
end Go.Proofs.Ytnnphpfobdcmbaa
