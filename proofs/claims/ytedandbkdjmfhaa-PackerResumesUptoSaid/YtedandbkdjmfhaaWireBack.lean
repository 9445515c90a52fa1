/-
  slices.Backward OVER BYTES: what it hands out, to a loop that writes into one block of its own.
-/
import Derived.Test.YtedandbkdjmfhaaMem
import Derived.RangeFuncNested
import Derived.RangeFuncBound
import Derived.RangeFuncCalls
import Derived.RangeFuncLeaves
import Derived.RangeFuncBox
import Derived.Shelf.Abstract
import Derived.OwnWalkIn
import Derived.TacticsInMore
import Derived.LoopNIn
import Derived.LoopIn
namespace Go.Proofs.Ytedandbkdjmfhaa
open Go.RowKit Go.Shelf Mem
attribute [local go_sem] Oper.semAt_some
namespace Wire

/-- All blocks below N but g lie as they lay. -/
structure Kept (N g : Nat) (W W' : World) : Prop where
  size : W.heap.size ≤ W'.heap.size
  block : ∀ k, k < N → k ≠ g → W'.heap[k]? = W.heap[k]?
theorem Kept.refl (N g : Nat) (W : World) : Kept N g W W := ⟨Nat.le_refl _, fun _ _ _ => rfl⟩
theorem Kept.trans {N g : Nat} {A B C : World} (h : Kept N g A B) (k : Kept N g B C) : Kept N g A C := ⟨Nat.le_trans h.size k.size, fun i h1 h2 => (k.block i h1 h2).trans (h.block i h1 h2)⟩
theorem Kept.of_below {N g : Nat} {W W' : World} (h : Below N W W') : Kept N g W W' := ⟨h.size, fun k hk _ => h.block k hk⟩
theorem Kept.setCell {N g : Nat} (W : World) (o : Nat) (v : Value) : Kept N g W (W.setCell ⟨g, o, none⟩ v) := ⟨by simp [World.setCell], fun k _ hg => Below.heap_setCell _ _ _ _ hg⟩
theorem kept_b {N g : Nat} {w : World} (hN : N ≤ w.heap.size) (W : World) (l : Nat) (o o' : Obj) (hl : w.heap.size ≤ l) (h : W.heap[l]? = some o) (hc : o.isCells = false) (hw : o.isWalk = false) : Kept N g W (W.putObj l o') :=
  Kept.of_below (belowK_b hN W l o o' hl h hc hw)
theorem Kept.cell {N g : Nat} {W W' : World} (h : Kept N g W W') {p : Addr} (hp : p.block < N) (hg : p.block ≠ g) : W'.cell? p = W.cell? p := World.cell?_of_block (h.block _ hp hg)

set_option maxRecDepth 100000 in
set_option maxHeartbeats 2000000 in
theorem back1_in (F : Fence) (n : Nat) (hF : F.fn 57) (hro : F.round = none) (hn : 1 ≤ n) (l Bs N g : Nat) (hBs : Bs < N) (hBg : Bs ≠ g) (b off len cap : Nat) (hb : b < N) (hbg : b ≠ g)
    (xs : List (BitVec 8)) (hlen : xs.length = len) (hbig : len ≤ 140737488351232) (J Jx : List (Nat × BitVec 8) → World → Prop)
    (hY : ∀ pre x W, J pre W → pre.length < len → YieldAt F (n - 1) Try.prog l #[.int .i64 (x.1 : Int), .int .u8 (u x.2)] W fun e W' =>
      (e = .returned (.bool true) ∧ J (pre ++ [x]) W' ∧ Kept N g W W') ∨ (e = .returned (.bool false) ∧ Jx (pre ++ [x]) W'))
    (W : World) (hc0 : W.cell? ⟨Bs, 0, none⟩ = some (.slice (some ⟨b, off, none⟩) len cap)) (hc : ∀ j x, xs[j]? = some x → W.cell? ⟨b, off + j, none⟩ = some (.int .u8 (u x))) (h0 : J [] W) :
    CallsIn F n Try.prog 57 #[.func (.yield l) #[] #[], .pointer (some ⟨Bs, 0, none⟩)] W fun e W' => (∃ v, e = .returned v) ∧
      ((∃ ys, ys.map (·.2) = xs.reverse ∧ J ys W') ∨ (∃ pre, True ∧ Jx pre W')) := by
  refine callsIn_of_wp Try.func57 rfl hF ?_ hro
  simp only [Try.ntmps57, List.size_toArray, List.length_cons, List.length_nil, Nat.reduceAdd, Nat.reduceSub, Array.replicate_succ, Array.replicate_zero, List.push_toArray, List.append_toArray, List.nil_append, List.cons_append]
  have HL := Lib.hid hlen
  clear hlen
  gi_wp2
  gi_loopw [3] (fun i wr => ∃ (m : Nat) (z : Int), m ≤ len ∧ i = .int .i64 z ∧ Hid (z = (m : Int) - 1 ∧ (∃ pre : List (Nat × BitVec 8), pre.map (·.2) = (xs.drop m).reverse ∧ pre.length = len - m ∧ J pre wr) ∧ Kept N g W wr))
    (fun i _ => (intOf i + 1).toNat)
  case atStart => exact ⟨len, _, Nat.le_refl _, rfl, rfl, ⟨[], by rw [List.drop_of_length_le (by have := HL.out; omega)]; rfl, by simp, h0⟩, Kept.refl _ _ _⟩
  case round =>
    obtain ⟨m, z, hm, rfl, hH⟩ := hrel
    cases m with
    | zero =>
      obtain rfl : z = -1 := by have := hH.out.1; omega
      gi_wp2
      go_end0
      obtain ⟨-, ⟨pre, hp, -, hJ⟩, -⟩ := hH.out
      exact ⟨⟨_, rfl⟩, .inl ⟨pre, by simpa using hp, hJ⟩⟩
    | succ p =>
      obtain rfl : z = (p : Int) := by have := hH.out.1; omega
      obtain ⟨-, ⟨pre, hp, hpl, hJ⟩, hK⟩ := hH.out
      have HP := Lib.hid hp
      have HPL := Lib.hid hpl
      have hk : p < xs.length := by have := HL.out; omega
      obtain ⟨x, hx⟩ : ∃ x, xs[p]? = some x := ⟨_, List.getElem?_eq_getElem hk⟩
      have HX := Lib.hid hx
      have hcB := (hK.cell (p := ⟨Bs, 0, none⟩) hBs hBg).trans hc0
      have hcx := (hK.cell (p := ⟨b, off + p, none⟩) hb hbg).trans (hc p x hx)
      obtain ⟨fn, tmps, assign, body, hy, hR⟩ := hY pre (p, x) wr hJ (by omega)
      dsimp only at hy
      have HK := Lib.hid hK
      clear hp hpl hx hk hH hK
      gi_wp2
      refine hR.mono ?_
      rintro e W3 (⟨rfl, hJ3, hk3⟩ | ⟨rfl, hJx3⟩)
      · gi_wp2
        go_roundw
        case rel =>
          refine ⟨p, _, by omega, rfl, by omega, ⟨pre ++ [(p, x)], ?_, ?_, hJ3⟩, HK.out.trans hk3⟩
          · obtain ⟨h1, h2⟩ := List.getElem?_eq_some_iff.1 HX.out
            rw [List.map_append, HP.out, List.drop_eq_getElem_cons h1, List.reverse_cons, h2]; rfl
          · have := HPL.out; simp; omega
        case measure => simp [intOf]
      · gi_wp2
        refine bodyPost_ret (results_none rfl _ _ _) rfl ?_
        exact ⟨⟨_, rfl⟩, .inr ⟨_, trivial, hJx3⟩⟩

set_option maxHeartbeats 1000000 in
theorem back_in (F : Fence) (n : Nat) (hF : F.fn 53) (hro : F.round = none) (a : Option Addr) (len cap : Nat) (w : World) :
    CallsIn F n Try.prog 53 #[.slice a len cap] w fun e w' => e = .returned (.func (.func 57) #[] #[.pointer (some ⟨w.heap.size, 0, none⟩)]) ∧ w' = w.alloc (.cells #[.slice a len cap] 27) := by
  refine callsIn_of_wp Try.func53 rfl hF ?_ hro
  simp only [Try.ntmps53, List.size_toArray, List.length_cons, List.length_nil, Nat.reduceAdd, Nat.reduceSub, Array.replicate_succ, Array.replicate_zero, List.push_toArray, List.append_toArray, List.nil_append, List.cons_append]
  gi_wp2
  go_ret
  exact ⟨rfl, rfl⟩

/-- Backward's closure as the law of loops wants it. -/
theorem back_stops (F : Fence) (n : Nat) (hF : F.fn 57) (hro : F.round = none) (hn : 1 ≤ n) (Bs N g : Nat) (hBs : Bs < N) (hBg : Bs ≠ g) (b off len cap : Nat) (hb : b < N) (hbg : b ≠ g)
    (xs : List (BitVec 8)) (hlen : xs.length = len) (hbig : len ≤ 140737488351232) (w : World) (hN : N ≤ w.heap.size) (hc0 : w.cell? ⟨Bs, 0, none⟩ = some (.slice (some ⟨b, off, none⟩) len cap)) (hc : ∀ j x, xs[j]? = some x → w.cell? ⟨b, off + j, none⟩ = some (.int .u8 (u x))) :
    SeqStopsK F n Try.prog 57 #[.pointer (some ⟨Bs, 0, none⟩)] (fun x : Nat × BitVec 8 => #[Value.int .i64 (x.1 : Int), Value.int .u8 (u x.2)]) (Kept N g) (fun ys => ys.map (·.2) = xs.reverse)
      (fun _ => True) len w := fun l J Jx W hW _ _ hY h0 => by
  have h1 := (hW.cell (p := ⟨Bs, 0, none⟩) (by simp; omega)).trans hc0
  exact back1_in F n hF hro hn l Bs N g hBs hBg b off len cap hb hbg xs hlen hbig J Jx hY W h1 (fun j x hx => (hW.cell (p := ⟨b, off + j, none⟩) (by simp; omega)).trans (hc j x hx)) h0
end Wire
end Go.Proofs.Ytedandbkdjmfhaa
