/-
  CrcLinear's LAST STATEMENT, A REGION THAT DRAWS ITS ORDER: each kind of operation, from the invariant to the invariant.
-/
import Derived.Test.YtbojfiabgjaaaaaCrcLinReg
namespace Go.Proofs.Ytbojfiabgjaaaaa
open Go.ChangeShapes Go.WideShapes Go.ChangeAt Go.RowKit
namespace Crc

section
variable {P : Program} {ops : Array Oper} {Q : Exit → Act → World → Prop} {p : Prm} {w0 w : World} {listed : Array Bool} {a : Act} {o : Oper} {i : Nat} {K' : Act → World → Prop}

theorem J.ifU (hg : o.guard = none) {A B : Prop} (hA : A) : if Region.wanted o (yielded ops a.tmps) = true then A else B := by
  rw [if_pos]
  · exact hA
  · unfold Region.wanted; rw [hg]
theorem J.ifG (hJ : J p w0 listed a w) (hd1 : listed.getD 1 false = true) (h0 : (ops[1]?).bind (·.dst) = some 47) (hg : o.guard = some (1, true)) {A B : Prop} (hA : A) : if Region.wanted o (yielded ops a.tmps) = true then A else B := by
  rw [if_pos]
  · exact hA
  · have h1 : a.tmps.getD 47 undef = .bool true := hJ.at_ 1 (by omega) hd1
    have h2 : a.tmps[47]? = some (.bool true) := by
      have hs : 47 < a.tmps.size := by rw [hJ.size]; omega
      rw [Array.getElem?_eq_getElem hs]
      simp [Array.getD, hs] at h1
      rw [h1]
    have h3 : yielded ops a.tmps 1 = some true := by
      unfold yielded
      rw [h0]
      simp [h2]
    unfold Region.wanted
    rw [hg]
    simp [h3]
theorem J.step (hJ : J p w0 listed a w) (hi : i < 29) (hun : listed.getD i true = false) (hds : o.dst = some (slot i)) {x : Value} (hrun : (execOp a.eval o).run P w = .ok (.value x) w) (hv : Val p x w i) (hK : ∀ a' w', J p w0 (listed.setIfInBounds i true) a' w' → K' a' w') : Oper.wp P o a w K' Q := by
  unfold Oper.wp
  rw [hrun, Oper.upon_value, hds]
  exact hK _ _ (hJ.plain hi hun hv)
theorem J.stepB (hJ : J p w0 listed a w) (hi : i < 29) (hun : listed.getD i true = false) (hds : o.dst = some (slot i)) {x : Value} {ob : Obj} (hrun : (execOp a.eval o).run P w = .ok (.value x) (w.alloc ob)) (hv : Val p x (w.alloc ob) i) (hK : ∀ a' w', J p w0 (listed.setIfInBounds i true) a' w' → K' a' w') : Oper.wp P o a w K' Q := by
  unfold Oper.wp
  rw [hrun, Oper.upon_value, hds]
  exact hK _ _ (hJ.next hi hun hv ((Keep.refl _ _).alloc ob) (hJ.same hun fun _ _ t => t.alloc ob))
end

section
variable {w : World} {ρ : Operand → Value} {o : Oper} {i j : Operand}
theorem op_move (h : o.op = .move i) : (execOp ρ o).run Try.prog w = .ok (.value (ρ i)) w := by
  unfold execOp; rw [h]; rfl
theorem op_assign (h : o.op = .assign i) : (execOp ρ o).run Try.prog w = .ok (.value (ρ i)) w := by
  unfold execOp; rw [h]; rfl
theorem op_pick {x : Value} {k : Operand} (h : o.op = .pick i j k) (h1 : ρ i = .bool true) (h2 : ρ j = x) : (execOp ρ o).run Try.prog w = .ok (.value x) w := by
  unfold execOp; rw [h]; subst h2
  simp [h1, asBool]
theorem op_xor {x y : Int} (h : o.op = .binOp .xor 23 i j 23) (h1 : ρ i = .int .u32 x) (h2 : ρ j = .int .u32 y) : (execOp ρ o).run Try.prog w = .ok (.value (.int .u32 (bits .xor .u32 x y))) w := by
  unfold execOp; rw [h]
  simp only [h1, h2, eqGuard, binOp]
  go_simp
theorem op_eql {x : Int} (h : o.op = .binOp .eql 23 i j 23) (h1 : ρ i = .int .u32 x) (h2 : ρ j = .int .u32 x) : (execOp ρ o).run Try.prog w = .ok (.value (.bool true)) w := by
  unfold execOp; rw [h]
  simp only [h1, h2, eqGuard, binOp]
  simp [Op.intCmp]
theorem op_slice {A : Option Addr} {n c k : Nat} (h : o.op = .slice 24 i none (some j) none) (h1 : ρ i = .slice A n c) (h2 : ρ j = .int .i64 k) (hk : k ≤ c) : (execOp ρ o).run Try.prog w = .ok (.value (.slice A k c)) w := by
  unfold execOp; rw [h]
  have hs := run_head A n c k hk w
  simp only [h1, h2, Option.map_some, Option.map_none]
  go_simp
theorem op_build {A : Option Addr} {n c : Nat} (h : o.op = .buildSlice 22 1 #[(0, i)]) (h1 : ρ i = .slice A n c) : (execOp ρ o).run Try.prog w = .ok (.value (.slice (some ⟨w.heap.size, 0, none⟩) 1 1)) (w.alloc (.cells #[.slice A n c] 24)) := by
  unfold execOp; rw [h]
  simp only [h1, List.map_toArray, List.map_cons, List.map_nil]
  go_simp
theorem op_call {x y : Value} {c : Call} (hc : c.callee = .value (.func 11)) (hcc : c.args = #[i, j]) (h : o.op = .call c) (hf : ∀ f, ρ (.func f) = .func (.func f) #[] #[]) (h1 : ρ i = x) (h2 : ρ j = y) : (execOp ρ o).run Try.prog w = .ok (.enter 11 #[x, y]) w := by
  unfold execOp; rw [h]
  subst h1 h2
  simp only [resolve, hc, hcc, hf]
  go_simp
end
theorem left_rep (n : Nat) : (0 : Int) + (Inv.left (Array.replicate n false) : Int) ≤ n := by
  have h : Inv.left (Array.replicate n false) ≤ n := by
    unfold Inv.left
    refine Nat.le_trans List.countP_le_length ?_
    simp
  omega
section
variable {Q : Exit → Act → World → Prop} {p : Prm} {w0 w : World} {listed : Array Bool} {a : Act} {o : Oper} {i : Nat} {K' : Act → World → Prop}
theorem J.piece (hJ : J p w0 listed a w) {A : Option Addr} {n c : Nat} {l : List (BitVec 8)} (hb : Bytes w0 p.g A n l) : Piece p.g l (.slice (some ⟨w.heap.size, 0, none⟩) 1 1) (w.alloc (.cells #[.slice A n c] 24)) := by
  obtain ⟨q, made, ht, -, -⟩ := hJ.tab
  exact ⟨_, rfl, pieces_at rfl ht.lt (hb.keep hJ.keep)⟩
theorem J.stepC (hJ : J p w0 listed a w) (hi : i < 29) (hun : listed.getD i true = false) (hds : o.dst = some (slot i)) {A : Option Addr} {l : List (BitVec 8)} (hrun : (execOp a.eval o).run Try.prog w = .ok (.enter 11 #[.pointer (some ⟨p.g, 0, none⟩), .slice A 1 1]) w)
    (hp : Pieces w p.g A 1 [l]) (hv : ∀ w', Val p (.int .u32 (v (sum0 l))) w' i) (hK : ∀ a' w', J p w0 (listed.setIfInBounds i true) a' w' → K' a' w') : Oper.wp Try.prog o a w K' Q := by
  obtain ⟨q, made, ht, h0, h1⟩ := hJ.tab
  have hs := Inv.left_set hun
  unfold Oper.wp
  rw [hrun, Oper.upon_enter]
  refine (call_any ht h0 (by omega) hp).mono ?_
  rintro e w' ⟨rfl, hS⟩
  rw [hds]
  exact hK _ _ (hJ.next hi hun (hv w') hS.keep ⟨q + 1, true, hS.tab, by omega, by omega⟩)
end
end Crc
end Go.Proofs.Ytbojfiabgjaaaaa
