/-
  WHAT A LAW'S ARGUMENTS SAY IN PLAIN: a zone, a slice of zones.
-/
import Derived.Test.YtnnphpfobdcmbaaZonMath
import Derived.Test.YtnnphpfobdcmbaaRowS
namespace Go.Proofs.Ytnnphpfobdcmbaa
open Go.ChangeShapes Go.WideShapes Go.ChangeAt Go.RowKit Mem
namespace Zon
/-- A zone as memory has it: where its bytes lie, and how many there could be. -/
structure Zv where
  z : Zn
  D : Option Addr
  c : Nat
def cellsZ (x : Zv) : List Value := [.int .i64 x.z.st, .int .i64 x.z.fc, .slice x.D x.z.data.length x.c]
end Zon
namespace Args
open Zon
variable {H : Type} {enc : TypeId × Value → H} {W : World}

set_option maxRecDepth 100000 in
/-- A zone's three cells. -/
theorem raw_zone {fuel : Nat} {cs : List Value} {x : DataW H × List MemPlace} (hf : DataW.trod enc Try.prog W 0 (fun _ => true) true fuel 46 cs = some x) (hl : cs.length = 3) (hs : ∀ q ∈ x.1.weights Try.prog 46, q ≤ reachBytes) :
    ∃ v : Zv, cs = cellsZ v ∧ Row cb W v.D v.z.data.length v.c v.z.data := by
  have hu := Try.underlying46
  match cs, hl with
  | [c0, c1, c2], _ =>
    obtain ⟨xs, n, _, hx, _, hlen, hg⟩ := DataW.trod_struct hu hf
    have hxl : xs.length = 3 := hlen
    match xs, hxl with
    | [y0, y1, y2], _ =>
      have o3 : Try.prog.cellsOf 3 = 1 := by kernel_rfl
      have o27 : Try.prog.cellsOf 44 = 1 := by kernel_rfl
      have g0 := hg 0 _ rfl
      have g1 := hg 1 _ rfl
      have g2 := hg 2 _ rfl
      simp [o3, o27] at g0 g1 g2
      obtain ⟨z0, h0, -, w0⟩ := DataW.trod_int Try.underlying3 g0
      obtain ⟨z1, h1, -, w1⟩ := DataW.trod_int Try.underlying3 g1
      simp only [List.cons.injEq, and_true] at h0 h1
      subst h0 h1
      subst hx
      obtain ⟨A, na, ca, l, h2, r2⟩ := raw_bytes_ g2 (fun q hq => by
        refine hs q ?_
        simp only [DataW.weights, hu]
        exact DataW.weights_mem_each (j := 2) rfl rfl q hq)
      simp only [List.cons.injEq, and_true] at h2
      subst h2
      obtain rfl : na = l.length := r2.len.symm
      exact ⟨⟨⟨z0, z1, l⟩, A, ca⟩, rfl, r2⟩

set_option maxRecDepth 100000 in
theorem open_zone {v : Value} {d : DataW H} {p : List MemPlace} {base : Nat} (hok : Value.okWide Try.prog W .any base 46 v) (h : DataW.Trod enc Try.prog W 0 (fun _ => true) true 46 v d p)
    (hs : ∀ q ∈ d.weights Try.prog 46, q ≤ reachBytes) : ∃ z D c, v = zv z D c ∧ Row cb W D z.data.length c z.data := by
  have hu := Try.underlying46
  obtain ⟨cs, rfl, hsz⟩ := okWide_struct hu hok
  have hC : Try.prog.cellsOf 46 = 3 := by kernel_rfl
  obtain ⟨l⟩ := cs
  have hl3 : l.length = 3 := by simpa [hC] using hsz
  obtain ⟨fuel, hf⟩ := h
  obtain ⟨v, hv, h2⟩ := raw_zone hf hl3 hs
  have hv : l = cellsZ v := hv
  subst hv
  exact ⟨v.z, v.D, v.c, rfl, h2⟩

set_option maxRecDepth 100000 in
theorem open_zones {v : Value} {d : DataW H} {p : List MemPlace} {base : Nat} (hok : Value.okWide Try.prog W .any base 36 v) (h : DataW.Trod enc Try.prog W 0 (fun _ => true) true 36 v d p)
    (hs : ∀ q ∈ d.weights Try.prog 36, q ≤ reachBytes) : ∃ A n c xs, v = .slice A n c ∧ RowS cellsZ 3 W A n c xs ∧ ∀ x ∈ xs, Row cb W x.D x.z.data.length x.c x.z.data :=
  open_rowS (cells := cellsZ) (k := 3) (bytes := 40) Try.underlying36 (by kernel_rfl) (by kernel_rfl) (by omega) (by omega) (fun _ _ _ h1 h2 h3 => raw_zone h1 h2 h3) hok h hs
end Args
end Go.Proofs.Ytnnphpfobdcmbaa
