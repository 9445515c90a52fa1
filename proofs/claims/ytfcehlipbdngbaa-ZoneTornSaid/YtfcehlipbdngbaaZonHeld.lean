/-
  A ZONE IN A BLOCK OF ITS OWN, WITH ITS BYTES, as the laws' walks carry it along.
-/
import Derived.Test.YtfcehlipbdngbaaZonLive
import Derived.WalkSmall
namespace Go.Proofs.Ytfcehlipbdngbaa
open Go.RowKit Mem
namespace Zon

/-- A zone in a block of its own, and its bytes. -/
structure Held (w : World) (g : Nat) (z : Zn) (D : Option Addr) (c : Nat) : Prop where
  box : Box w g z D c
  row : Row cb w D z.data.length c z.data
section
variable {w w' : World} {g : Nat} {z : Zn} {D : Option Addr} {c : Nat}
theorem Held.below (h : Held w g z D c) (hb : Below w.heap.size w w') : Held w' g z D c := ⟨h.box.below hb, h.row.below hb⟩
theorem Held.alloc (h : Held w g z D c) (o : Obj) : Held (w.alloc o) g z D c := h.below ((Below.refl _ w).alloc (Nat.le_refl _) o)
theorem Held.drew (h : Held w g z D c) : Held w.drew g z D c := h.below (Below.refl _ w).drew
theorem Held.drewN (h : Held w g z D c) (n : Nat) : Held (w.drewN n) g z D c := h.below (below_drewN (Below.refl _ w) n)
theorem Held.start (h : Row cb w D z.data.length c z.data) : Held (w.alloc (.cells #[.int .i64 z.st, .int .i64 z.fc, .slice D z.data.length c] 24)) w.heap.size z D c := ⟨Box.new w z D c, h.alloc _⟩
/-- What a call gave, laid into a block. -/
theorem Held.new {b : Nat} (h : Owns cb 5 b w (.slice D z.data.length c) z.data.length z.data) (hn : z.data.length ≤ 140737488351232) : Held (w.alloc (.cells #[.int .i64 z.st, .int .i64 z.fc, .slice D z.data.length c] 24)) w.heap.size z D c := ⟨Box.new w z D c, (gave_row h hn).1.alloc _⟩
end

end Zon
end Go.Proofs.Ytfcehlipbdngbaa
