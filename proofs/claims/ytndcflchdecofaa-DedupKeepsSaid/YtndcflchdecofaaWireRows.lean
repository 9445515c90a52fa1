/-
  wire: SEVERAL NUMBERS (Nums, TakeNums), VECTORS (Vec, TakeVec), AND THE DOCUMENT's OWN COMPARISON OF NUMBERS.
-/
import Derived.Test.YtndcflchdecofaaWireLive
import Derived.Test.YtndcflchdecofaaWireInts
import Derived.Test.YtndcflchdecofaaReg
import Derived.Deep.DeepCutAuto
import Derived.Lib.LazyBuf
namespace Go.Proofs.Ytndcflchdecofaa
open Go.RowKit Mem
namespace Wire
theorem run_eql_nil (w : World) (a : Addr) (n c : Nat) : (binOp .eql 31 (.slice (some a) n c) (.slice none 0 0)).run Try.prog w = .ok (.bool false) w :=
  Go.run_eql_slice_nil w _ _ (some a) n c Try.underlying31

/-- What TakeVec tells. -/
def TookV (v : List B8) (k e : Nat) (w : World) (en : Ending) (w' : World) : Prop :=
  ∃ B j d, en = .returned (.tuple #[.slice B j d, .int .i64 (k : Int), .int .i64 (e : Int)]) ∧ Owns cb 5 w.heap.size w' (.slice B j d) j v ∧ Below w.heap.size w w'

set_option maxRecDepth 100000 in
set_option maxHeartbeats 800000 in
/-- The document's own comparison, of two rows that read alike. -/
theorem sameInts_any {A B : Option Addr} {n c m d : Nat} {l : List Int} {w : World} (h1 : Row ci w A n c l) (h2 : Row ci w B m d l) :
    Calls Try.prog 29 #[.slice A n c, .slice B m d] w fun e w' => e = .returned (.bool true) ∧ Below w.heap.size w w' := by
  obtain rfl : n = m := by rw [← h1.len, h2.len]
  have H1 := Lib.hid h1
  have H2 := Lib.hid h2
  have hb := h1.big
  clear h1 h2
  go_enter Try.func29, Try.ntmps29
  go_wp2
  go_loopw [13] (fun i wr => ∃ k : Nat, i = .int .i64 k ∧ k ≤ n ∧ Hid (Below w.heap.size w wr)) (fun i _ => n - (intOf i).toNat)
  case atStart => exact ⟨0, rfl, by omega, Below.refl _ _⟩
  case round =>
    obtain ⟨k, rfl, hk, hB⟩ := hrel
    by_cases hlt : k < n
    · obtain ⟨z, hz⟩ := H1.out.get hlt
      obtain ⟨b1, o1, rfl, hc1⟩ := (H1.out.below hB.out).cell hz
      obtain ⟨b2, o2, rfl, hc2⟩ := (H2.out.below hB.out).cell hz
      have hc1' : wr.cell? ⟨b1, o1 + k, none⟩ = some (.int .i64 z) := hc1
      have hc2' : wr.cell? ⟨b2, o2 + k, none⟩ = some (.int .i64 z) := hc2
      have hk0 : (0 : Int) ≤ (k : Int) := by omega
      have hk1 : (k : Int) < (n : Int) := by omega
      clear hc1 hc2 hz
      go_wp2
      go_quiet (fail)
      go_wp2
      go_roundw
      case rel => exact ⟨k + 1, by go_num, by omega, hB.out.trans (below_drewN _ _ _)⟩
      case measure => simp [intOf]; omega
    · go_wp2
      go_ret
      exact ⟨rfl, hB.out⟩
end Wire
end Go.Proofs.Ytndcflchdecofaa
