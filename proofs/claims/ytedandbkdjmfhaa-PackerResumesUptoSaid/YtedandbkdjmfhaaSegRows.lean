/-
  ROWS OF RECORDS IN MEMORY: what is appended, and which blocks an append leaves alone.
-/
import Derived.Test.YtedandbkdjmfhaaSegTakeR
namespace Go.Proofs.Ytedandbkdjmfhaa
open Go.RowKit Mem
namespace Seg
open Wire

/-- Only blocks of that element type may have changed. -/
structure Oth (e : TypeId) (w w' : World) : Prop where
  size : w.heap.size ≤ w'.heap.size
  block : ∀ k, k < w.heap.size → w'.heap[k]? = w.heap[k]? ∨ ∃ cur z, w.heap[k]? = some (.cells cur e z)
theorem Oth.owns {α : Type} {f : α → Value} {e e' : TypeId} {base : Nat} {w w' : World} {s : Value} {n : Nat} {l : List α} (h : Owns f e' base w s n l) (ho : Oth e w w') (hne : e' ≠ e) : Owns f e' base w' s n l := by
  refine ⟨h.1, ?_⟩
  rcases h.2 with hn | ⟨q, cap, cur, e1, hbg, hq, r⟩
  · exact .inl hn
  · refine .inr ⟨q, cap, cur, e1, hbg, ?_, r⟩
    rcases ho.block q (Array.getElem?_eq_some_iff.1 hq).1 with h1 | ⟨cur', z, h1⟩
    · exact h1.trans hq
    · rw [hq] at h1
      injection h1 with h1
      injection h1 with _ h2
      exact absurd h2 hne

/-- append onto a row of one's own, elements of any number of cells. -/
theorem wpList_append_wide {P : Program} {t e : TypeId} (ht : P.underlying t = some (.slice e)) {z : Value} {size bytes : Nat} (hinfo : (P.info? e).map (fun i => (i.zero, i.size, i.bytes)) = some (some z, size, bytes)) (hzs : z.cells.size = size) (hsz : 0 < size)
    {w : World} {ops : Array Oper} {rest : List Oper} {o : Oper} {a : Act} {Q : Exit → Act → World → Prop} (hgd : o.guard = none) (s x : Operand)
    (ho : o.op = .call { callee := .builtin .append, args := #[s, x], argTypes := #[t, t] }) (hty : o.type = t)
    (base : Nat) (sv : Value) (n : Nat) (l : List Value) (hs : a.eval s = sv) (hown : w.ownsRow base e size sv n l) (A : Addr) (m c : Nat) (l' : List Value) (hx : a.eval x = .slice (some A) m c) (hl : l'.length = m * size)
    (hc : ∀ j u, l'[j]? = some u → w.cell? (A.add j) = some u) (h1 : ∀ u ∈ l', u.oneCell' = true)
    (hbig : n + m ≤ 140737488351232) (hby : (n + m) * bytes ≤ 140737488355328) (hbase : base ≤ w.heap.size)
    (hk : ∀ A' c' w', w'.ownsRow base e size (.slice A' (n + m) c') (n + m) (l ++ l') → Below base w w' → Oth e w w' → wpList P ops Q rest (a.put o.dst (.slice A' (n + m) c')) w') :
    wpList P ops Q (o :: rest) a w := by
  obtain ⟨i, hi, hz0, hz1, hz2⟩ := info_parts hinfo
  refine wpList_plain hgd fun K hK => ?_
  obtain ⟨s', w', hrun, h2, h3, -, -⟩ := run_append_own_at (P := P) w base t t e i _ size bytes ht hi hz0 hz1 hz2 hzs hsz sv n _ hown A m c l' hl hc h1 (by unfold maxLen; omega) hby hbase
  have hsl : ∃ A' c', s' = .slice A' (n + m) c' := by
    rcases h2.2 with ⟨rfl, h0⟩ | ⟨q, cap, cur, rfl, -⟩
    · exact ⟨none, 0, by rw [h0]⟩
    · exact ⟨_, _, rfl⟩
  obtain ⟨A', c', rfl⟩ := hsl
  have hb : Below base w w' := (Below.refl base w).grown h3 hbase (fun k hk => (World.ownsRow.lt hown k hk).1)
  have hoth : Oth e w w' := by
    refine ⟨h3.size, fun k hk => ?_⟩
    by_cases hkk : some k = sv.ownBlock
    · rcases hown.2 with ⟨rfl, -⟩ | ⟨q, cap, cur, rfl, -, hq, -⟩
      · cases hkk
      · have : k = q := by simpa [Value.ownBlock] using hkk
        subst this
        exact .inr ⟨_, _, hq⟩
    · exact .inl (h3.block k hk hkk)
  unfold Oper.wp execOp
  simp only [ho, hty, resolve, invoke, builtin, Sem.run_bind, Sem.run_pure, Result.andThen_ok, List.map_toArray, List.map_cons, List.map_nil, hs, hx, hrun]
  exact hK _ _ (hk A' c' w' h2 hb hoth)

/-- A record as memory has it: where its bytes lie, and how many there could be. -/
structure Rv where
  r : Rc
  D : Option Addr
  c : Nat
def cellsOf (x : Rv) : List Value := [.int .i64 x.r.kind, .int .i64 x.r.lba, .int .i64 x.r.n, .int .i64 x.r.ver, .int .i64 x.r.zone, .int .i64 x.r.off, .slice x.D x.r.data.length x.c]
theorem cellsOf_len (x : Rv) : (cellsOf x).length = 7 := rfl
/-- A row of records of one's own. -/
def OwnsR (base : Nat) (w : World) (s : Value) (n : Nat) (xs : List Rv) : Prop := w.ownsRow base 34 7 s n (xs.flatMap cellsOf) ∧ xs.length = n
theorem flat_len (xs : List Rv) : (xs.flatMap cellsOf).length = xs.length * 7 := by
  induction xs with
  | nil => rfl
  | cons x xs ih => rw [List.flatMap_cons, List.length_append, ih, cellsOf_len, List.length_cons]; omega
theorem flat_get (xs : List Rv) (i j : Nat) (x : Rv) (v : Value) (hx : xs[i]? = some x) (hv : (cellsOf x)[j]? = some v) : (xs.flatMap cellsOf)[i * 7 + j]? = some v := by
  induction xs generalizing i with
  | nil => simp at hx
  | cons y xs ih =>
    have hj : j < 7 := (List.getElem?_eq_some_iff.1 hv).1
    rw [List.flatMap_cons]
    rcases i with _ | i
    · simp only [List.getElem?_cons_zero, Option.some.injEq] at hx
      subst hx
      rw [List.getElem?_append_left (by rw [cellsOf_len]; omega)]
      simpa using hv
    · rw [List.getElem?_append_right (by rw [cellsOf_len]; omega), cellsOf_len]
      rw [show (i + 1) * 7 + j - 7 = i * 7 + j by omega]
      exact ih i (by simpa using hx)
theorem OwnsR.nil (base : Nat) (w : World) : OwnsR base w (.slice none 0 0) 0 [] := ⟨World.ownsRow_nil _ _ _ _, rfl⟩
theorem OwnsR.keepG {base g : Nat} {w w' : World} {s : Value} {n : Nat} {xs : List Rv} (h : OwnsR base w s n xs) (hg : g < base) (k : Crc.Keep g w w') : OwnsR base w' s n xs := by
  refine ⟨⟨h.1.1, ?_⟩, h.2⟩
  rcases h.1.2 with hn | ⟨q, cap, cur, e', hbg, hq, r⟩
  · exact .inl hn
  · exact .inr ⟨q, cap, cur, e', hbg, (Keep.block k (Array.getElem?_eq_some_iff.1 hq).1 (by omega)).trans hq, r⟩
theorem OwnsR.below {base : Nat} {w w' : World} {s : Value} {n : Nat} {xs : List Rv} (h : OwnsR base w s n xs) (hb : Below w.heap.size w w') : OwnsR base w' s n xs := by
  refine ⟨⟨h.1.1, ?_⟩, h.2⟩
  rcases h.1.2 with hn | ⟨q, cap, cur, e', hbg, hq, r⟩
  · exact .inl hn
  · exact .inr ⟨q, cap, cur, e', hbg, (hb.block _ (Array.getElem?_eq_some_iff.1 hq).1).trans hq, r⟩
theorem OwnsR.oth {base : Nat} {e : TypeId} {w w' : World} {s : Value} {n : Nat} {xs : List Rv} (h : OwnsR base w s n xs) (ho : Oth e w w') (hne : 34 ≠ e) : OwnsR base w' s n xs := by
  refine ⟨⟨h.1.1, ?_⟩, h.2⟩
  rcases h.1.2 with hn | ⟨q, cap, cur, e1, hbg, hq, r⟩
  · exact .inl hn
  · refine .inr ⟨q, cap, cur, e1, hbg, ?_, r⟩
    rcases ho.block q (Array.getElem?_eq_some_iff.1 hq).1 with h1 | ⟨cur', z, h1⟩
    · exact h1.trans hq
    · rw [hq] at h1
      injection h1 with h1
      injection h1 with _ h2
      exact absurd h2 hne
theorem OwnsR.setCell {base : Nat} {w : World} {s : Value} {n : Nat} {xs : List Rv} (h : OwnsR base w s n xs) {p : Addr} (hp : p.block < base) (v : Value) : OwnsR base (w.setCell p v) s n xs := by
  refine ⟨⟨h.1.1, ?_⟩, h.2⟩
  rcases h.1.2 with hn | ⟨q, cap, cur, e', hbg, hq, r⟩
  · exact .inl hn
  · exact .inr ⟨q, cap, cur, e', hbg, (Below.heap_setCell _ _ _ _ (by omega)).trans hq, r⟩
theorem OwnsR.mono {base base' : Nat} {w : World} {s : Value} {n : Nat} {xs : List Rv} (h : OwnsR base w s n xs) (hb : base' ≤ base) : OwnsR base' w s n xs := by
  refine ⟨⟨h.1.1, ?_⟩, h.2⟩
  rcases h.1.2 with hn | ⟨q, cap, cur, e', hbg, r⟩
  · exact .inl hn
  · exact .inr ⟨q, cap, cur, e', Nat.le_trans hb hbg, r⟩

/-- The slice reads as these records, and their bytes lie where they say. -/
structure RowR (w : World) (A : Option Addr) (n c : Nat) (xs : List Rv) : Prop where
  len : xs.length = n
  cap : n ≤ c
  big : n ≤ 1954687338211
  at_ : 0 < n → ∃ b o, A = some ⟨b, o, none⟩ ∧ b < w.heap.size ∧ ∀ i x, xs[i]? = some x → ∀ j v, (cellsOf x)[j]? = some v → w.cell? ⟨b, o + (i * 7 + j), none⟩ = some v
  data : ∀ x ∈ xs, Row cb w x.D x.r.data.length x.c x.r.data
theorem RowR.below {w w' : World} {A : Option Addr} {n c : Nat} {xs : List Rv} (h : RowR w A n c xs) (hb : Below w.heap.size w w') : RowR w' A n c xs := by
  refine ⟨h.len, h.cap, h.big, fun h0 => ?_, fun x hx => (h.data x hx).below hb⟩
  obtain ⟨b, o, e, hlt, hc⟩ := h.at_ h0
  refine ⟨b, o, e, Nat.lt_of_lt_of_le hlt hb.size, fun i x hi j v hv => ?_⟩
  rw [World.cell?_of_block (w := w) (hb.block b hlt)]
  exact hc i x hi j v hv
theorem RowR.get {w : World} {A : Option Addr} {n c : Nat} {xs : List Rv} (h : RowR w A n c xs) {i : Nat} (hi : i < n) : ∃ x, xs[i]? = some x := ⟨_, List.getElem?_eq_getElem (by have := h.len; omega)⟩
theorem OwnsR.row {base : Nat} {w : World} {s : Value} {n : Nat} {xs : List Rv} (h : OwnsR base w s n xs) (hn : n ≤ 1954687338211) (hd : ∀ x ∈ xs, Row cb w x.D x.r.data.length x.c x.r.data) : ∃ A c, s = .slice A n c ∧ RowR w A n c xs := by
  rcases h.1.2 with ⟨rfl, h0⟩ | ⟨g, cap, cur, rfl, _, hg, hnc, hcm, hs, ht⟩
  · subst h0
    exact ⟨none, 0, rfl, h.2, by omega, by omega, fun h => absurd h (by omega), hd⟩
  · refine ⟨some ⟨g, 0, none⟩, cap, rfl, h.2, hnc, hn, fun _ => ⟨g, 0, rfl, (Array.getElem?_eq_some_iff.1 hg).1, fun i x hx j v hv => ?_⟩, hd⟩
    have := World.ownsRow.cells (g := g) (h.1 : w.ownsRow base _ 7 _ n (xs.flatMap cellsOf)) rfl (i * 7 + j) v (flat_get xs i j x v hx hv)
    simpa [add_none] using this
end Seg
end Go.Proofs.Ytedandbkdjmfhaa
