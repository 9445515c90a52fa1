/-
  ROWS OF ONE'S OWN SIDE BY SIDE; THE DOCUMENT'S OWN Copy.
-/
import Derived.Test.YtnnphpfobdcmbaaZonTorn
namespace Go.Proofs.Ytnnphpfobdcmbaa
open Go.RowKit Mem
namespace Zon

/-- Only blocks of that element type may have changed. -/
structure Oth (e : TypeId) (w w' : World) : Prop where
  size : w.heap.size ≤ w'.heap.size
  block : ∀ k, k < w.heap.size → w'.heap[k]? = w.heap[k]? ∨ ∃ cur z, w.heap[k]? = some (.cells cur e z)
theorem Oth.owns {α : Type} {f : α → Value} {e e' : TypeId} {base : Nat} {w w' : World} {s : Value} {n : Nat} {l : List α} (h : Owns f e' base w s n l) (ho : Oth e w w') (hne : e' ≠ e) : Owns f e' base w' s n l := by
  refine ⟨h.1, ?_⟩
  rcases h.2 with hn | ⟨q, cap, cur, e1, hbg, hq, r⟩
  · exact .inl hn
  · refine .inr ⟨q, cap, cur, e1, hbg, ?_, r⟩
    rcases ho.block q (Array.getElem?_eq_some_iff.1 hq).1 with h1 | ⟨cur', z, h1⟩
    · exact h1.trans hq
    · rw [hq] at h1
      injection h1 with h1
      injection h1 with _ h2
      exact absurd h2 hne

/-- append onto a row of one's own, elements of any number of cells. -/
theorem wpList_append_wide {P : Program} {t e : TypeId} (ht : P.underlying t = some (.slice e)) {z : Value} {size bytes : Nat} (hinfo : (P.info? e).map (fun i => (i.zero, i.size, i.bytes)) = some (some z, size, bytes)) (hzs : z.cells.size = size) (hsz : 0 < size)
    {w : World} {ops : Array Oper} {rest : List Oper} {o : Oper} {a : Act} {Q : Exit → Act → World → Prop} (hgd : o.guard = none) (s x : Operand)
    (ho : o.op = .call { callee := .builtin .append, args := #[s, x], argTypes := #[t, t] }) (hty : o.type = t)
    (base : Nat) (sv : Value) (n : Nat) (l : List Value) (hs : a.eval s = sv) (hown : w.ownsRow base e size sv n l) (A : Addr) (m c : Nat) (l' : List Value) (hx : a.eval x = .slice (some A) m c) (hl : l'.length = m * size)
    (hc : ∀ j u, l'[j]? = some u → w.cell? (A.add j) = some u) (h1 : ∀ u ∈ l', u.oneCell' = true)
    (hbig : n + m ≤ 140737488351232) (hby : (n + m) * bytes ≤ 140737488355328) (hbase : base ≤ w.heap.size)
    (hk : ∀ A' c' w', w'.ownsRow base e size (.slice A' (n + m) c') (n + m) (l ++ l') → Below base w w' → Oth e w w' → wpList P ops Q rest (a.put o.dst (.slice A' (n + m) c')) w') :
    wpList P ops Q (o :: rest) a w := by
  obtain ⟨i, hi, hz0, hz1, hz2⟩ := info_parts hinfo
  refine wpList_plain hgd fun K hK => ?_
  obtain ⟨s', w', hrun, h2, h3, -, -⟩ := run_append_own_at (P := P) w base t t e i _ size bytes ht hi hz0 hz1 hz2 hzs hsz sv n _ hown A m c l' hl hc h1 (by unfold maxLen; omega) hby hbase
  have hsl : ∃ A' c', s' = .slice A' (n + m) c' := by
    rcases h2.2 with ⟨rfl, h0⟩ | ⟨q, cap, cur, rfl, -⟩
    · exact ⟨none, 0, by rw [h0]⟩
    · exact ⟨_, _, rfl⟩
  obtain ⟨A', c', rfl⟩ := hsl
  have hb : Below base w w' := (Below.refl base w).grown h3 hbase (fun k hk => (World.ownsRow.lt hown k hk).1)
  have hoth : Oth e w w' := by
    refine ⟨h3.size, fun k hk => ?_⟩
    by_cases hkk : some k = sv.ownBlock
    · rcases hown.2 with ⟨rfl, -⟩ | ⟨q, cap, cur, rfl, -, hq, -⟩
      · cases hkk
      · have : k = q := by simpa [Value.ownBlock] using hkk
        subst this
        exact .inr ⟨_, _, hq⟩
    · exact .inl (h3.block k hk hkk)
  unfold Oper.wp execOp
  simp only [ho, hty, resolve, invoke, builtin, Sem.run_bind, Sem.run_pure, Result.andThen_ok, List.map_toArray, List.map_cons, List.map_nil, hs, hx, hrun]
  exact hK _ _ (hk A' c' w' h2 hb hoth)

/-- The same, of rows. -/
theorem wpList_append_oth {α : Type} {P : Program} {f : α → Value} (hf : ∀ x, (f x).oneCell' = true) {t e : TypeId} (ht : P.underlying t = some (.slice e)) {z : Value} {bytes : Nat} (hinfo : (P.info? e).map (fun i => (i.zero, i.size, i.bytes)) = some (some z, 1, bytes)) (hzs : z.cells.size = 1)
    {w : World} {ops : Array Oper} {rest : List Oper} {o : Oper} {a : Act} {Q : Exit → Act → World → Prop} (hgd : o.guard = none) (s x : Operand)
    (ho : o.op = .call { callee := .builtin .append, args := #[s, x], argTypes := #[t, t] }) (hty : o.type = t)
    (base : Nat) (sv : Value) (n : Nat) (l : List α) (hs : a.eval s = sv) (hown : Owns f e base w sv n l) (A : Addr) (m c : Nat) (l' : List α) (hx : a.eval x = .slice (some A) m c) (h : Row f w (some A) m c l')
    (hbig : n + m ≤ 140737488351232) (hby : (n + m) * bytes ≤ 140737488355328) (hbase : base ≤ w.heap.size)
    (hk : ∀ A' c' w', Owns f e base w' (.slice A' (n + m) c') (n + m) (l ++ l') → Below base w w' → Oth e w w' → wpList P ops Q rest (a.put o.dst (.slice A' (n + m) c')) w') :
    wpList P ops Q (o :: rest) a w := by
  refine wpList_append_wide ht hinfo hzs (by omega) hgd s x ho hty base sv n (l.map f) hs hown A m c (l'.map f) hx (by simp [h.len]) (fun j u hj => ?_) (fun u hu => ?_) hbig hby hbase fun A' c' w' h1 h2 h3 => hk A' c' w' (by unfold Owns; rw [List.map_append]; exact h1) h2 h3
  · rw [List.getElem?_map] at hj
    obtain ⟨y, hy, rfl⟩ := Option.map_eq_some_iff.1 hj
    have hlt : j < l'.length := (List.getElem?_eq_some_iff.1 hy).1
    obtain ⟨b, o, e, -, hc⟩ := h.at_ (by have := h.len; omega)
    injection e with e
    subst e
    rw [add_none]
    exact hc j y hy
  · obtain ⟨y, -, rfl⟩ := List.mem_map.1 hu
    exact hf y
theorem Oth.box {e : TypeId} {w w' : World} {g : Nat} {t : TypeId} {cs : Array Value} (h : Cells w g t cs) (ho : Oth e w w') (hne : t ≠ e) : Cells w' g t cs := by
  rcases ho.block g (Cells.lt h) with h1 | ⟨cur, z, h1⟩
  · exact h1.trans h
  · have h2 := h1.symm.trans h
    injection h2 with h2
    injection h2 with _ h3
    exact absurd h3.symm hne

/-- A store into a block of another type of elements. -/
theorem Owns.otherT {α : Type} {f : α → Value} {e : TypeId} {base : Nat} {w : World} {s : Value} {n : Nat} {l : List α} (h : Owns f e base w s n l) {g : Nat} {t : TypeId} {cs : Array Value} (hc : Cells w g t cs) (hne : t ≠ e) (i : Nat) (v : Value) :
    Owns f e base (w.setCell ⟨g, i, none⟩ v) s n l := by
  refine ⟨h.1, ?_⟩
  rcases h.2 with hn | ⟨q, cap, cur, e1, hbg, hq, r⟩
  · exact .inl hn
  · refine .inr ⟨q, cap, cur, e1, hbg, ?_, r⟩
    refine (Below.heap_setCell _ _ _ _ ?_).trans hq
    intro hqg
    obtain rfl : q = g := hqg
    have h2 := hq.symm.trans hc
    injection h2 with h2
    injection h2 with _ h3
    exact hne h3.symm
theorem Box.belowB {w w' : World} {g K : Nat} {z : Zn} {D : Option Addr} {c : Nat} (h : Box w g z D c) (hg : g < K) (hb : Below K w w') : Box w' g z D c := (hb.block g hg).trans h

/-- A zone written into the block of the result, and what a call gave with it. -/
theorem gave_nil3 {w W : World} {x y v : Value} {rest : List Value} (h : Below w.heap.size w W) : GaveZ w nilZ rest (.returned (.tuple (zv nilZ none 0 :: rest).toArray)) (((W.setCell ⟨w.heap.size + 1, 0, none⟩ x).setCell ⟨w.heap.size + 1, 1, none⟩ y).setCell ⟨w.heap.size + 1, 2, none⟩ v) :=
  ⟨none, 0, rfl, Owns.nil _ _ _ _, below3 h (by omega) _ _ _⟩

theorem row_new {α : Type} (f : α → Value) (w : World) (l : List α) (t : TypeId) (hn : l.length ≤ 140737488351232) {vs : Array Value} (hv : vs = (l.map f).toArray) {fr : Nat × Nat} {q : Nat} (hq : q = w.heap.size) : Row f (w.alloc (.cells vs t fr)) (some ⟨q, 0, none⟩) l.length l.length l := by
  subst hv hq
  refine ⟨rfl, Nat.le_refl _, hn, fun _ => ⟨_, _, rfl, by simp, fun i y hi => ?_⟩⟩
  rw [cell_of_row _ w.heap.size (0 + i) _ _ fr (heap_alloc_new w _)]
  simp [hi]

end Zon
end Go.Proofs.Ytnnphpfobdcmbaa
