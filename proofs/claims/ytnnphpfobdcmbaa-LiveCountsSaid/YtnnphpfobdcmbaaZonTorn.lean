/-
  A WALK OVER zone.Torn.
-/
import Derived.Test.YtnnphpfobdcmbaaZonMore
namespace Go.Proofs.Ytnnphpfobdcmbaa
open Go.RowKit Mem
namespace Zon

def tornErr (z : Zn) (most : Int) (b : List B8) (keep : Int) : Int := bif appErr z most b.length == 0 then (bif (decide (keep < 0) || decide ((b.length : Int) < keep)) then 1 else 0) else appErr z most b.length
def tornZ (z : Zn) (most : Int) (b : List B8) (keep : Int) : Zn := bif tornErr z most b keep == 0 then (bif keep == 0 then z else appZ z most (b.take keep.toNat)) else nilZ

end Zon
end Go.Proofs.Ytnnphpfobdcmbaa
