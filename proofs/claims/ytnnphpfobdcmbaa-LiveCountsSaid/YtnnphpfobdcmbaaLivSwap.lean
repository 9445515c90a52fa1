/-
  WALKS: ranges of a row of ints exchanged.
-/
import Derived.Test.YtnnphpfobdcmbaaLivSortP
import Derived.Test.YtnnphpfobdcmbaaRows
import Derived.Shelf.SlSortCmp.Insertion1
import Derived.LoopTactic
import Derived.Lib.Hide
namespace Go.Proofs.Ytnnphpfobdcmbaa
open Go.Shelf Go.RowKit Go.Lib Go.Sort Stab
namespace Liv
variable {α : Type} [Inhabited α]
set_option maxRecDepth 100000 in
set_option maxHeartbeats 8000000 in
theorem swapRange_s {enc : α → Value} {blk off : Nat} (cap a b n : Nat) {d0 d : Array α} {w0 w : World} (fv : Value) (R : Row1 enc w0 blk off d0) (hs : d0.size = d.size) (S : SW enc w0 blk off d w) (hab : a + n ≤ b) (hb : b + n ≤ d.size) (hsz : d.size < 1000000) :
    Calls Try.prog 81 #[.slice (some ⟨blk, off, none⟩) d.size cap, .int .i64 a, .int .i64 b, .int .i64 n, fv] w fun e w' => e = .returned (.tuple #[]) ∧ ∃ d', Swr d d' a b n ∧ SW enc w0 blk off d' w' := by
  have mixed : Try.prog.follows .mixedOrders = true := by kernel_rfl
  have hcl0 := R.hO.cells
  simp only [Value.cells] at hcl0
  have hst := R.hO.store Try.prog
  have S0 : Aside (SW enc w0 blk off d w) := S
  clear S
  go_enter Try.func81, Try.ntmps81
  go_wp2
  go_loopw [10] (fun vi wr => ∃ (i : Nat) (dk : Array α), vi = .int .i64 i ∧ i ≤ n ∧ dk.size = d.size ∧ Aside (SW enc w0 blk off dk wr) ∧ Hid (Swr d dk a b i)) (fun vi _ => n - (intOf vi).toNat)
  case atStart => exact ⟨0, d, rfl, by omega, rfl, S0, Swr.zero d a b⟩
  case round =>
    clear S0
    obtain ⟨i, dk, rfl, hi, hsk, S1, HW⟩ := hrel
    by_cases hlt : i < n
    · have hltz : (i : Int) < (n : Int) := by omega
      obtain ⟨iN, hiN⟩ : ∃ zz, zz = a + i := ⟨_, rfl⟩
      have eiN : ((a : Int) + (i : Int)).toNat = iN := by omega
      have piN : (0 : Int) ≤ (a : Int) + (i : Int) := by omega
      have biN : (a : Int) + (i : Int) < (d.size : Int) := by omega
      have riN : IntKind.i64.wrap ((a : Int) + (i : Int)) = (a : Int) + (i : Int) := by rw [IntKind.wrap_i64]; omega
      obtain ⟨jN, hjN⟩ : ∃ zz, zz = b + i := ⟨_, rfl⟩
      have ejN : ((b : Int) + (i : Int)).toNat = jN := by omega
      have pjN : (0 : Int) ≤ (b : Int) + (i : Int) := by omega
      have bjN : (b : Int) + (i : Int) < (d.size : Int) := by omega
      have rjN : IntKind.i64.wrap ((b : Int) + (i : Int)) = (b : Int) + (i : Int) := by rw [IntKind.wrap_i64]; omega
      obtain ⟨x0, hx0⟩ : ∃ zz, zz = dk[a + i]! := ⟨_, rfl⟩
      obtain ⟨y0, hy0⟩ : ∃ zz, zz = dk[b + i]! := ⟨_, rfl⟩
      have S2 : Aside (SW enc w0 blk off (swp dk (a + i) (b + i)) ((wr.setCell ⟨blk, off + iN, none⟩ (enc y0)).setCell ⟨blk, off + jN, none⟩ (enc x0)).drew) := by rw [hiN, hjN, hx0, hy0]; exact S1.out.swapped R (a + i) (b + i) (by omega) (by omega)
      have c1 := S1.out.c1 R (by omega) (a + i) (by omega)
      have c2 := S1.out.c1 R (by omega) (b + i) (by omega)
      have f1 := S1.out.f1 R (by omega) (a + i) (by omega)
      have f2 := S1.out.f1 R (by omega) (b + i) (by omega)
      obtain ⟨u0, c3⟩ := S1.out.c2 R (by omega) (a + i) (b + i) (by omega) (by omega) (enc y0)
      rw [← hjN, ← hiN] at c3
      rw [← hx0, ← hiN] at c1
      rw [← hy0, ← hjN] at c2
      rw [← hiN] at f1
      rw [← hjN] at f2
      clear S1 hx0 hy0 hiN hjN
      go_wp2_with fail
      go_big_region_o
      clear c1 c2 c3 f1 f2
      generalize ((wr.setCell ⟨blk, off + iN, none⟩ (enc y0)).setCell ⟨blk, off + jN, none⟩ (enc x0)).drew = w2 at S2 ⊢
      clear eiN ejN piN pjN biN bjN riN rjN
      go_wp2_with fail
      go_roundw
      case rel => exact ⟨i + 1, swp dk (a + i) (b + i), by go_num, by omega, by rw [Stab.swp_size]; exact hsk, S2, HW.out.step (by omega) (by omega)⟩
      case measure => simp [intOf]; omega
    · have hltz : ¬ (i : Int) < (n : Int) := by omega
      go_wp2_with fail
      go_end0
      have : i = n := by omega
      subst this
      exact ⟨rfl, dk, HW.out, S1.out⟩
end Liv
end Go.Proofs.Ytnnphpfobdcmbaa
