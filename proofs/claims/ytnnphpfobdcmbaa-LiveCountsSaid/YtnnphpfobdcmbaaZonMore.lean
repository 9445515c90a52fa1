/-
  WALKS OVER zone'S OTHER CALLS: in, Open, Close, Finish, Reset, Read, Torn.
-/
import Derived.Test.YtnnphpfobdcmbaaZonApp
namespace Go.Proofs.Ytnnphpfobdcmbaa
open Go.RowKit Mem
namespace Zon

/-- A zone, whose bytes are the call's own, as a call gave it. -/
def GaveZ1 (w : World) (z : Zn) (en : Ending) (w' : World) : Prop :=
  ∃ D c, en = .returned (zv z D c) ∧ Owns cb 5 w.heap.size w' (.slice D z.data.length c) z.data.length z.data ∧ Below w.heap.size w w'

/-- A zone that came in, and one that goes out, in blocks of their own. -/
theorem two_new (w : World) (z : Zn) (D : Option Addr) (c : Nat) :
    Hid (Below w.heap.size w ((w.alloc (.cells #[.int .i64 z.st, .int .i64 z.fc, .slice D z.data.length c] 46)).alloc (.cells #[.int .i64 0, .int .i64 0, .slice none 0 0] 46))) ∧ Hid (Box ((w.alloc (.cells #[.int .i64 z.st, .int .i64 z.fc, .slice D z.data.length c] 46)).alloc (.cells #[.int .i64 0, .int .i64 0, .slice none 0 0] 46)) w.heap.size z D c) ∧ Hid (Box ((w.alloc (.cells #[.int .i64 z.st, .int .i64 z.fc, .slice D z.data.length c] 46)).alloc (.cells #[.int .i64 0, .int .i64 0, .slice none 0 0] 46)) (w.heap.size + 1) nilZ none 0) :=
  ⟨((Below.refl w.heap.size w).alloc (Nat.le_refl _) _).alloc (by simp) _, heap_alloc2_old w _ _, heap_alloc2_new w _ _⟩

def openErr (z : Zn) (most : Int) : Int := bif !okB z most then 1 else bif z.st == 4 then 41 else 0
def openZ (z : Zn) (most : Int) : Zn := bif openErr z most == 0 then inZ z 2 else nilZ

def closeErr (z : Zn) : Int := bif (z.st == 0 || z.st == 4) then 41 else 0
def closeZ (z : Zn) : Zn := bif (z.st == 0 || z.st == 4) then nilZ else bif z.data.length == 0 then inZ z 0 else inZ z 3

/-- The bytes that are asked for are all there. -/
def readB (z : Zn) (off n : Int) : Bool := !decide (off < 0) && (!decide (n < 0) && !decide (z.len - off < n))
def readL (z : Zn) (off n : Int) : List B8 := bif readB z off n then (z.data.drop off.toNat).take n.toNat else []

end Zon
end Go.Proofs.Ytnnphpfobdcmbaa
