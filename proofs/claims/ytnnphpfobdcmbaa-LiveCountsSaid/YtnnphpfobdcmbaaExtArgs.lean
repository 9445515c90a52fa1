/-
  A LAW'S ARGUMENTS: extents, an extent. (Written by gen_extlaws.py.)
-/
import Derived.Test.YtnnphpfobdcmbaaExtMem
import Derived.Test.YtnnphpfobdcmbaaOpen
namespace Go.Proofs.Ytnnphpfobdcmbaa
open Go.ChangeShapes Go.WideShapes Go.ChangeAt Go.RowKit Mem
open Ext
namespace Args
variable {H : Type} {enc : TypeId × Value → H} {W : World}

set_option maxRecDepth 100000 in
/-- An extent's five cells. -/
theorem raw_ext {fuel : Nat} {cs : List Value} {x : DataW H × List MemPlace} (hf : DataW.trod enc Try.prog W 0 (fun _ => true) true fuel 32 cs = some x) (hl : cs.length = 5) :
    ∃ v : Ex, cs = cellsL v ∧ True := by
  have hu := Try.underlying32
  match cs, hl with
  | [c0, c1, c2, c3, c4], _ =>
    obtain ⟨xs, n, _, hx, _, hlen, hg⟩ := DataW.trod_struct hu hf
    have hxl : xs.length = 5 := hlen
    match xs, hxl with
    | [y0, y1, y2, y3, y4], _ =>
      have o3 : Try.prog.cellsOf 3 = 1 := by kernel_rfl
      have g0 := hg 0 _ rfl
      have g1 := hg 1 _ rfl
      have g2 := hg 2 _ rfl
      have g3 := hg 3 _ rfl
      have g4 := hg 4 _ rfl
      simp [o3] at g0 g1 g2 g3 g4
      obtain ⟨z0, h0, -, w0⟩ := DataW.trod_int Try.underlying3 g0
      obtain ⟨z1, h1, -, w1⟩ := DataW.trod_int Try.underlying3 g1
      obtain ⟨z2, h2, -, w2⟩ := DataW.trod_int Try.underlying3 g2
      obtain ⟨z3, h3, -, w3⟩ := DataW.trod_int Try.underlying3 g3
      obtain ⟨z4, h4, -, w4⟩ := DataW.trod_int Try.underlying3 g4
      simp only [List.cons.injEq, and_true] at h0 h1 h2 h3 h4
      subst h0 h1 h2 h3 h4
      exact ⟨⟨z0, z1, z2, z3, z4⟩, rfl, trivial⟩
set_option maxRecDepth 100000 in
theorem open_exts {v : Value} {d : DataW H} {p : List MemPlace} {base : Nat} (hok : Value.okWide Try.prog W .any base 22 v) (h : DataW.Trod enc Try.prog W 0 (fun _ => true) true 22 v d p)
    (hs : ∀ q ∈ d.weights Try.prog 22, q ≤ reachBytes) : ∃ A n c xs, v = .slice A n c ∧ RowL W A n c xs := by
  obtain ⟨A, n, c, xs, h1, h2, -⟩ := open_rowS (cells := cellsL) (k := 5) (bytes := 40) (p := fun _ => True) Try.underlying22 (by kernel_rfl) (by kernel_rfl) (by omega) (by omega) (fun fuel cs x hf hl _ => raw_ext hf hl) hok h hs
  exact ⟨A, n, c, xs, h1, h2⟩
set_option maxRecDepth 100000 in
theorem open_ext {v : Value} {d : DataW H} {p : List MemPlace} {base : Nat} (hok : Value.okWide Try.prog W .any base 32 v) (h : DataW.Trod enc Try.prog W 0 (fun _ => true) true 32 v d p) :
    ∃ r : Ex, v = xv r := by
  have hu := Try.underlying32
  obtain ⟨cs, rfl, hsz⟩ := okWide_struct hu hok
  have hC : Try.prog.cellsOf 32 = 5 := by kernel_rfl
  obtain ⟨l⟩ := cs
  have hl3 : l.length = 5 := by simpa [hC] using hsz
  match l, hl3 with
  | [c0, c1, c2, c3, c4], _ =>
    obtain ⟨fuel, hf⟩ := h
    obtain ⟨xs, n, _, hx, _, hlen, hg⟩ := DataW.trod_struct hu hf
    have hxl : xs.length = 5 := hlen
    match xs, hxl with
    | [y0, y1, y2, y3, y4], _ =>
      have o3 : Try.prog.cellsOf 3 = 1 := by kernel_rfl
      have g0 := hg 0 _ rfl
      have g1 := hg 1 _ rfl
      have g2 := hg 2 _ rfl
      have g3 := hg 3 _ rfl
      have g4 := hg 4 _ rfl
      simp [Value.cells, o3] at g0 g1 g2 g3 g4
      obtain ⟨z0, h0, -, w0⟩ := DataW.trod_int Try.underlying3 g0
      obtain ⟨z1, h1, -, w1⟩ := DataW.trod_int Try.underlying3 g1
      obtain ⟨z2, h2, -, w2⟩ := DataW.trod_int Try.underlying3 g2
      obtain ⟨z3, h3, -, w3⟩ := DataW.trod_int Try.underlying3 g3
      obtain ⟨z4, h4, -, w4⟩ := DataW.trod_int Try.underlying3 g4
      simp only [List.cons.injEq, and_true] at h0 h1 h2 h3 h4
      subst h0 h1 h2 h3 h4
      exact ⟨⟨z0, z1, z2, z3, z4⟩, rfl⟩
end Args
end Go.Proofs.Ytnnphpfobdcmbaa
