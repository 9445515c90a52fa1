/-
  zone.Torn AND zone.Append, WHATEVER COMES.
-/
import Derived.Test.YtnnphpfobdcmbaaZonRefA
namespace Go.Proofs.Ytnnphpfobdcmbaa
open Go.RowKit Mem
namespace Zon
/-- What an append gives, its error, and where its bytes begin. -/
def appRes (z : Zn) (most : Int) (b : List B8) : Zn := bif appErr z most b.length == 0 then appZ z most b else nilZ
def appAt (z : Zn) (most : Int) (n : Nat) : Int := bif appErr z most n == 0 then z.len else 0
end Zon
end Go.Proofs.Ytnnphpfobdcmbaa
