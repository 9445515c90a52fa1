/-
  WALKS OVER crc'S SMALL FUNCTIONS.
-/
import Derived.Test.YtedandbkdjmfhaaCrcWords
import Derived.Test.YtedandbkdjmfhaaRows
import Derived.WalkKit
import Derived.LoopTactic
import Derived.Lib.Hide
import Derived.Deep.LoopGhost
namespace Go.Proofs.Ytedandbkdjmfhaa
open Go.RowKit
namespace Crc

theorem shift_any (c : BitVec 32) (w : World) :
    Calls Try.prog 65 #[.int .u32 (v c)] w fun e w' => e = .returned (.int .u32 (v (sh c))) ∧ w = w' := by
  cases hb : c.getLsbD 0
  · have h1 : (bits .and .u32 (v c) 1 == 1) = false := by rw [low_v, hb]; rfl
    have H := Lib.hid (sh_miss c hb)
    clear hb
    go_enter Try.func65, Try.ntmps65
    go_wp2
    go_ret
    exact ⟨ret_u32 H.out, rfl⟩
  · have h1 : (bits .and .u32 (v c) 1 == 1) = true := by rw [low_v, hb]; rfl
    have H := Lib.hid (sh_hit c hb)
    clear hb
    go_enter Try.func65, Try.ntmps65
    go_wp2
    go_ret
    exact ⟨ret_u32 H.out, rfl⟩



end Crc
end Go.Proofs.Ytedandbkdjmfhaa
