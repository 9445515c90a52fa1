/-
  ROWS OF ONE'S OWN WHOSE ELEMENTS HAVE ONE CELL: as rows of structs of one cell, where it must be known which block grew. (Program-free.)
-/
import Derived.Test.YtedandbkdjmfhaaOwnO
namespace Go.Proofs.Ytedandbkdjmfhaa
open Go.RowKit Mem
namespace OwnB
variable {α : Type} {f : α → Value}
theorem fit1 (hf : ∀ x, (f x).oneCell' = true) : OwnS.Fit (fun x => [f x]) 1 := ⟨by omega, fun _ => rfl, fun x u hu => by
  obtain rfl := List.mem_singleton.1 hu
  exact hf x⟩
theorem flat_one (l : List α) : l.flatMap (fun x => [f x]) = l.map f := by
  induction l with
  | nil => rfl
  | cons x l ih => rw [List.flatMap_cons, ih]; rfl
theorem to {e : TypeId} {base : Nat} {w : World} {s : Value} {n : Nat} {l : List α} (h : Mem.Owns f e base w s n l) : OwnS.Owns (fun x => [f x]) 1 e base w s n l := ⟨by rw [flat_one]; exact h, h.len⟩
theorem back {e : TypeId} {base : Nat} {w : World} {s : Value} {n : Nat} {l : List α} (h : OwnS.Owns (fun x => [f x]) 1 e base w s n l) : Mem.Owns f e base w s n l := by
  have := h.1
  rw [flat_one] at this
  exact this
theorem row_to {w : World} {A : Option Addr} {n c : Nat} {l : List α} (h : Row f w A n c l) : RowS (fun x => [f x]) 1 w A n c l := by
  refine ⟨h.len, h.cap, h.big, fun h0 => ?_⟩
  obtain ⟨b, o, e, hb, hc⟩ := h.at_ h0
  refine ⟨b, o, e, hb, fun i x hx j u hu => ?_⟩
  have hj : j = 0 := by have := (List.getElem?_eq_some_iff.1 hu).1; simpa using this
  subst hj
  simp at hu
  subst hu
  rw [Nat.mul_one, Nat.add_zero]
  exact hc i x hx
theorem row_back {w : World} {A : Option Addr} {n c : Nat} {l : List α} (h : RowS (fun x => [f x]) 1 w A n c l) : Row f w A n c l := by
  refine ⟨h.len, h.cap, h.big, fun h0 => ?_⟩
  obtain ⟨b, o, e, hb, hc⟩ := h.at_ h0
  refine ⟨b, o, e, hb, fun i x hx => ?_⟩
  have := hc i x hx 0 _ rfl
  rwa [Nat.mul_one, Nat.add_zero] at this
/-- An append of which it is known which block grew. -/
theorem wpList_append {P : Program} (hf : ∀ x, (f x).oneCell' = true) {t e : TypeId} (ht : P.underlying t = some (.slice e)) {z : Value} {bytes : Nat} (hinfo : (P.info? e).map (fun i => (i.zero, i.size, i.bytes)) = some (some z, 1, bytes)) (hzs : z.cells.size = 1) (hb1 : bytes ≤ 256)
    {w : World} {ops : Array Oper} {rest : List Oper} {o : Oper} {a : Act} {Q : Exit → Act → World → Prop} (hgd : o.guard = none) (s x : Operand)
    (ho : o.op = .call { callee := .builtin .append, args := #[s, x], argTypes := #[t, t] }) (hty : o.type = t)
    (base : Nat) (sv : Value) (n : Nat) (l : List α) (hs : a.eval s = sv) (hown : Mem.Owns f e base w sv n l) (A : Option Addr) (m c : Nat) (l' : List α) (hx : a.eval x = .slice A m c) (h : Row f w A m c l')
    (hbig : n + m ≤ 1099511627) (hbase : base ≤ w.heap.size)
    (hk : ∀ A' c' w', Mem.Owns f e base w' (.slice A' (n + m) c') (n + m) (l ++ l') → w.grownBy w' sv.ownBlock → ((Value.slice A' (n + m) c').ownBlock = sv.ownBlock ∨ (Value.slice A' (n + m) c').ownBlock = some w.heap.size) → wpList P ops Q rest (a.put o.dst (.slice A' (n + m) c')) w') :
    wpList P ops Q (o :: rest) a w :=
  OwnS.wpList_append (fit1 hf) ht hinfo hzs hb1 hgd s x ho hty base sv n l hs (to hown) A m c l' hx (row_to h) hbig hbase fun A' c' w' h1 h2 h3 => hk A' c' w' (back h1) h2 h3
/-- A row stays where another block grew. -/
theorem row_grown {w w' : World} {A : Option Addr} {n c : Nat} {l : List α} (h : Row f w A n c l) {r : Option Nat} (hg : w.grownBy w' r) (hn : ∀ q o, 0 < n → A = some ⟨q, o, none⟩ → r ≠ some q) : Row f w' A n c l := by
  refine ⟨h.len, h.cap, h.big, fun h0 => ?_⟩
  obtain ⟨b, o, e, hb, hc⟩ := h.at_ h0
  refine ⟨b, o, e, Nat.lt_of_lt_of_le hb hg.size, fun i x hi => ?_⟩
  rw [World.cell?_of_block (w := w) (hg.block b hb (fun e1 => hn b o h0 e e1.symm))]
  exact hc i x hi
theorem owns_lt {e : TypeId} {base : Nat} {w : World} {s : Value} {n : Nat} {l : List α} (h : Mem.Owns f e base w s n l) : ∀ q, s.ownBlock = some q → base ≤ q ∧ q < w.heap.size := (to h).lt
theorem below_row {e : TypeId} {base : Nat} {w w' : World} {s : Value} {n : Nat} {l : List α} (h : Mem.Owns f e base w s n l) (hg : w.grownBy w' s.ownBlock) (hb : base ≤ w.heap.size) : Below base w w' := OwnS.below_row (to h) hg hb
end OwnB
end Go.Proofs.Ytedandbkdjmfhaa
