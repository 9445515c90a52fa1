/-
  A TABLE FOR SUMS IN A BLOCK OF ITS OWN, AND WHAT STANDS OUTSIDE THAT BLOCK.
-/
import Derived.Test.YtedandbkdjmfhaaCrcApi
import Derived.Test.YtedandbkdjmfhaaSegCheck
namespace Go.Proofs.Ytedandbkdjmfhaa
open Go.RowKit Mem
namespace Seg
open Wire

/-- A table that was asked at most k times. -/
def Tk (g k : Nat) (w : World) : Prop := ∃ (q : Int) (made : Bool), Crc.Tab w g q made ∧ 0 ≤ q ∧ q ≤ k
theorem Tk.lt {g k : Nat} {w : World} (h : Tk g k w) : g < w.heap.size := by
  obtain ⟨q, m, ⟨cs, hb, r⟩, -⟩ := h
  exact Crc.Blk.lt (cs := cs) hb
theorem Tk.heap {g k : Nat} {w w' : World} (h : Tk g k w) (e : w'.heap[g]? = w.heap[g]?) : Tk g k w' := by
  obtain ⟨q, m, ⟨cs, hb, r⟩, h0, h1⟩ := h
  exact ⟨q, m, ⟨cs, (show w'.heap[g]? = _ from e.trans hb), r⟩, h0, h1⟩
theorem Tk.below {g k : Nat} {w w' : World} (h : Tk g k w) (hb : Below w.heap.size w w') : Tk g k w' := h.heap (hb.block g h.lt)
theorem Tk.alloc {g k : Nat} {w : World} (h : Tk g k w) (o : Obj) : Tk g k (w.alloc o) := h.below ((Below.refl _ w).alloc (Nat.le_refl _) o)
theorem Tk.drew {g k : Nat} {w : World} (h : Tk g k w) : Tk g k w.drew := h.heap rfl
theorem Tk.mono {g k k' : Nat} {w : World} (h : Tk g k w) (hk : k ≤ k') : Tk g k' w := by
  obtain ⟨q, m, t, h0, h1⟩ := h
  exact ⟨q, m, t, h0, by omega⟩
theorem keep_of_below {g : Nat} {w w' : World} (hb : Below w.heap.size w w') : Crc.Keep g w w' :=
  ⟨⟨hb.os, hb.tape, hb.output, hb.size, fun i hi _ => hb.block i hi⟩⟩
theorem Keep.then_below {g : Nat} {a b c : World} (h : Crc.Keep g a b) (k : Below a.heap.size b c) : Crc.Keep g a c :=
  ⟨⟨k.os.trans h.1.os, k.tape.trans h.1.tape, k.output.trans h.1.output, Nat.le_trans h.1.size k.size, fun i hi hn => (k.block i hi).trans (h.1.block i hi hn)⟩⟩
theorem Keep.block {g : Nat} {w w' : World} (h : Crc.Keep g w w') {b : Nat} (hb : b < w.heap.size) (hn : b ≠ g) : w'.heap[b]? = w.heap[b]? := h.1.block b hb (fun e => hn (by injection e))

/-- Bytes outside block g. -/
structure RowO (g : Nat) (w : World) (A : Option Addr) (n c : Nat) (l : List B8) : Prop where
  row : Row cb w A n c l
  off : 0 < n → ∀ b, A = some b → b.block ≠ g
section
variable {g : Nat} {w w' : World} {A : Option Addr} {n c : Nat} {l : List B8}
theorem Row.keepG {α : Type} {f : α → Value} {l : List α} (h : Row f w A n c l) (ho : 0 < n → ∀ b, A = some b → b.block ≠ g) (k : Crc.Keep g w w') : Row f w' A n c l := by
  refine ⟨h.len, h.cap, h.big, fun h0 => ?_⟩
  obtain ⟨b, o, e, hx, hc⟩ := h.at_ h0
  have hne := ho h0 _ e
  refine ⟨b, o, e, Nat.lt_of_lt_of_le hx k.1.size, fun i x hi => ?_⟩
  exact k.cell (p := ⟨b, o + i, none⟩) (hc i x hi) hne
theorem RowO.keep (h : RowO g w A n c l) (k : Crc.Keep g w w') : RowO g w' A n c l := ⟨Row.keepG h.row h.off k, h.off⟩
theorem RowO.below (h : RowO g w A n c l) (hb : Below w.heap.size w w') : RowO g w' A n c l := h.keep (keep_of_below hb)
theorem RowO.alloc (h : RowO g w A n c l) (o : Obj) : RowO g (w.alloc o) A n c l := h.below ((Below.refl _ w).alloc (Nat.le_refl _) o)
theorem RowO.drew (h : RowO g w A n c l) : RowO g w.drew A n c l := ⟨h.row.drew, h.off⟩
theorem RowO.bytes (h : RowO g w A n c l) : Crc.Bytes w g A n l := by
  refine ⟨h.row.len, h.row.big, fun h0 => ?_⟩
  obtain ⟨b, o, e, hx, hc⟩ := h.row.at_ h0
  refine ⟨⟨b, o, none⟩, e, h.off h0 _ e, fun i x hi => ?_⟩
  rw [Crc.add_none]
  exact hc i x hi
theorem RowO.of_low (h : Row cb w A n c l) (hg : w.heap.size ≤ g) : RowO g w A n c l := by
  refine ⟨h, fun h0 b e => ?_⟩
  obtain ⟨b', o, e', hx, -⟩ := h.at_ h0
  rw [e] at e'
  injection e' with e'
  subst e'
  show b' ≠ g
  omega
theorem RowO.of_own {e : TypeId} {base : Nat} (h : Owns cb e base w (.slice A n c) n l) (hn : n ≤ 140737488351232) (hg : g < base) : RowO g w A n c l := by
  obtain ⟨A', c', e', hr⟩ := h.row hn
  injection e' with e1 e2 e3
  subst e1 e3
  refine ⟨hr, fun h0 b eb => ?_⟩
  rcases h.2 with ⟨hs, -⟩ | ⟨q, cap, cur, hs, hb, -⟩
  · injection hs with h1 h2 h3; omega
  · injection hs with h1 h2 h3
    rw [h1] at eb
    injection eb with eb
    subst eb
    show q ≠ g
    omega
theorem RowO.tail (h : RowO g w A n c l) {k : Nat} (hk : k ≤ n) : RowO g w (tailA A c k) (n - k) (c - k) (l.drop k) := by
  refine ⟨h.row.tail hk, fun h0 b e => ?_⟩
  have hc := h.row.cap
  unfold tailA at e
  rw [if_neg (by omega)] at e
  rcases A with _ | x
  · cases e
  · simp only [Option.map_some, Option.some.injEq] at e
    subst e
    have := h.off (by omega) x rfl
    rwa [show (x.add k).block = x.block from by unfold Addr.add; split <;> rfl]
theorem Owns.keepG {α : Type} {f : α → Value} {e : TypeId} {base : Nat} {s : Value} {l : List α} (h : Owns f e base w s n l) (hg : g < base) (k : Crc.Keep g w w') : Owns f e base w' s n l := by
  refine ⟨h.1, ?_⟩
  rcases h.2 with hn | ⟨q, cap, cur, e', hbg, hq, r⟩
  · exact .inl hn
  · exact .inr ⟨q, cap, cur, e', hbg, (Keep.block k (Array.getElem?_eq_some_iff.1 hq).1 (by omega)).trans hq, r⟩
theorem Box.keep {g' : Nat} {r : Rc} {D : Option Addr} {m d : Nat} (h : Box w g' r D m d) (hn : g' ≠ g) (k : Crc.Keep g w w') : Box w' g' r D m d := (Keep.block k h.lt hn).trans h
end

/-- append(s, x...) onto a row of one's own, as one operation. -/
theorem wp_append_row {α : Type} {P : Program} {f : α → Value} (hf : ∀ x, (f x).oneCell' = true) {t e : TypeId} (ht : P.underlying t = some (.slice e)) {z : Value} {bytes : Nat} (hinfo : (P.info? e).map (fun i => (i.zero, i.size, i.bytes)) = some (some z, 1, bytes)) (hzs : z.cells.size = 1)
    {w : World} {o : Oper} {a : Act} {K : Act → World → Prop} {Q : Exit → Act → World → Prop} (s x : Operand)
    (ho : o.op = .call { callee := .builtin .append, args := #[s, x], argTypes := #[t, t] }) (hty : o.type = t)
    (base : Nat) (sv : Value) (n : Nat) (l : List α) (hs : a.eval s = sv) (hown : Owns f e base w sv n l) (A : Option Addr) (m c : Nat) (l' : List α) (hx : a.eval x = .slice A m c) (h : Row f w A m c l')
    (hbig : n + m ≤ 281474976710656) (hby : ((n + m) + (n + m) / 4 + 192) * bytes ≤ 281474976710656) (hbase : base ≤ w.heap.size)
    (hk : ∀ A' c' w', Owns f e base w' (.slice A' (n + m) c') (n + m) (l ++ l') → Below base w w' → K (a.put o.dst (.slice A' (n + m) c')) w') :
    o.wp P a w K Q := by
  obtain ⟨s', w', hrun, h2, h3, -⟩ := run_append hf ht hinfo hzs w base sv n l hown A m c l' h hbig hby hbase
  obtain ⟨A', c', rfl⟩ := h2.slice
  unfold Oper.wp execOp
  simp only [ho, hty, resolve, invoke, builtin, Sem.run_bind, Sem.run_pure, Result.andThen_ok, List.map_toArray, List.map_cons, List.map_nil, hs, hx, hrun]
  exact hk A' c' w' h2 h3

/-- One piece in a new block behind all. -/
theorem pieces_one {w : World} {g : Nat} {a : Option Addr} {n c : Nat} {l : List (BitVec 8)} (t : TypeId) (h : Crc.Bytes w g a n l) (hg : g ≠ w.heap.size) :
    Crc.Pieces (w.alloc (.cells #[.slice a n c] t)) g (some ⟨w.heap.size, 0, none⟩) 1 [l] := by
  refine ⟨rfl, by omega, fun _ => ⟨w.heap.size, 0, rfl, Ne.symm hg, fun i l' hl => ?_⟩⟩
  match i, hl with
  | 0, hl =>
    simp at hl
    subst hl
    exact ⟨a, n, c, by simp, h.keep ((Crc.Keep.refl g w).alloc _)⟩
/-- Sum of one piece, as the text calls it: the piece lies in a new block. -/
theorem sum_one {w : World} {g k : Nat} (ht : Tk g k w) (hk : k ≤ 4611686018427387904) {a : Option Addr} {n c : Nat} {l : List (BitVec 8)} (h : RowO g w a n c l) {b : Nat} (hb : b = w.heap.size) :
    Calls Try.prog 44 #[.pointer (some ⟨g, 0, none⟩), .slice (some ⟨b, 0, none⟩) 1 1] (w.alloc (.cells #[.slice a n c] 27)) fun e w' => e = .returned (.int .u32 (sumOf l : Nat)) ∧ Crc.Keep g w w' ∧ Tk g (k + 1) w' := by
  subst hb
  have hlt := ht.lt
  obtain ⟨q, made, t, h0, h1⟩ := ht.alloc (.cells #[.slice a n c] 27)
  refine (Crc.sum_any g q made _ 1 1 [l] _ t h0 (by omega) (pieces_one _ h.bytes (Nat.ne_of_lt hlt))).mono ?_
  rintro e w' ⟨he, hT, hK⟩
  refine ⟨he, ((Crc.Keep.refl g w).alloc _).trans hK, q + 1, true, hT, by omega, by omega⟩
end Seg
end Go.Proofs.Ytedandbkdjmfhaa
