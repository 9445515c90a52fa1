/-
  ROWS OF STRUCTS OF ONE'S OWN, IN ONE FOR ALL TYPES: an element's cells by a function of the prover's own.
-/
import Derived.Test.YtedandbkdjmfhaaRowS
import Derived.Lib.Hide
namespace Go.Proofs.Ytedandbkdjmfhaa
open Go.RowKit Mem
namespace OwnS
/-- Each element has k cells, each of one. -/
structure Fit {α : Type} (cells : α → List Value) (k : Nat) : Prop where
  pos : 0 < k
  len : ∀ x, (cells x).length = k
  one : ∀ x, ∀ u ∈ cells x, u.oneCell' = true
variable {α : Type} {cells : α → List Value} {k : Nat}
theorem flat_len (F : Fit cells k) (xs : List α) : (xs.flatMap cells).length = xs.length * k := by
  induction xs with
  | nil => simp
  | cons x xs ih => rw [List.flatMap_cons, List.length_append, ih, F.len, List.length_cons, Nat.succ_mul]; omega
theorem flat_one (F : Fit cells k) (xs : List α) : ∀ u ∈ xs.flatMap cells, u.oneCell' = true := by
  intro u hu
  obtain ⟨x, _, hx⟩ := List.mem_flatMap.1 hu
  exact F.one x u hx
theorem flat_get (F : Fit cells k) (xs : List α) (i j : Nat) (x : α) (v : Value) (hx : xs[i]? = some x) (hv : (cells x)[j]? = some v) : (xs.flatMap cells)[i * k + j]? = some v := by
  induction xs generalizing i with
  | nil => simp at hx
  | cons y xs ih =>
    have hj : j < k := by have := (List.getElem?_eq_some_iff.1 hv).1; rwa [F.len] at this
    rw [List.flatMap_cons]
    rcases i with _ | i
    · simp only [List.getElem?_cons_zero, Option.some.injEq] at hx
      subst hx
      rw [Nat.zero_mul, Nat.zero_add, List.getElem?_append_left (by rw [F.len]; exact hj)]
      exact hv
    · rw [Nat.succ_mul, List.getElem?_append_right (by rw [F.len]; omega), F.len]
      rw [show i * k + k + j - k = i * k + j by omega]
      exact ih i (by simpa using hx)
theorem flat_inv (F : Fit cells k) (xs : List α) (q : Nat) (v : Value) (h : (xs.flatMap cells)[q]? = some v) : ∃ x, xs[q / k]? = some x ∧ (cells x)[q % k]? = some v := by
  have hl : q < xs.length * k := by rw [← flat_len F]; exact (List.getElem?_eq_some_iff.1 h).1
  have hlt : q / k < xs.length := (Nat.div_lt_iff_lt_mul F.pos).2 hl
  have hx : xs[q / k]? = some xs[q / k] := List.getElem?_eq_getElem hlt
  have hm : q % k < (cells xs[q / k]).length := by rw [F.len]; exact Nat.mod_lt _ F.pos
  obtain ⟨u, hu⟩ : ∃ u, (cells xs[q / k])[q % k]? = some u := ⟨_, List.getElem?_eq_getElem hm⟩
  have := flat_get F xs (q / k) (q % k) _ u hx hu
  rw [show q / k * k + q % k = q by rw [Nat.mul_comm]; exact Nat.div_add_mod q k, h] at this
  injection this with this
  exact ⟨_, hx, by rw [this]; exact hu⟩
theorem row_flat (F : Fit cells k) {w : World} {A : Option Addr} {n c : Nat} {l : List α} (h : RowS cells k w A n c l) {b o : Nat} (hA : A = some ⟨b, o, none⟩) : ∀ j u, (l.flatMap cells)[j]? = some u → w.cell? ⟨b, o + j, none⟩ = some u := by
  intro j u hj
  obtain ⟨x, hx, hu⟩ := flat_inv F l j u hj
  have hn : j / k < l.length := (List.getElem?_eq_some_iff.1 hx).1
  obtain ⟨b', o', e, -, hc⟩ := h.at_ (Nat.lt_of_le_of_lt (Nat.zero_le _) (h.len ▸ hn))
  rw [hA] at e
  injection e with e
  injection e with e1 e2
  subst e1 e2
  have := hc (j / k) x hx (j % k) u hu
  rwa [show o + j / k * k + j % k = o + j by rw [Nat.add_assoc, Nat.mul_comm, Nat.div_add_mod]] at this
/-- A row of one's own. -/
def Owns (cells : α → List Value) (k : Nat) (e : TypeId) (base : Nat) (w : World) (s : Value) (n : Nat) (xs : List α) : Prop := w.ownsRow base e k s n (xs.flatMap cells) ∧ xs.length = n
section
variable {e : TypeId} {base : Nat} {w w' : World} {s : Value} {n : Nat} {xs : List α}
theorem Owns.nil (cells : α → List Value) (k : Nat) (e : TypeId) (base : Nat) (w : World) : Owns cells k e base w (.slice none 0 0) 0 [] := ⟨World.ownsRow_nil _ _ _ _, rfl⟩
theorem Owns.kept {row : Option Nat} (h : Owns cells k e base w s n xs) (hg : w.grownBy w' row) (hne : s.ownBlock = none ∨ s.ownBlock ≠ row) : Owns cells k e base w' s n xs := ⟨World.ownsRow.kept h.1 hg hne, h.2⟩
theorem Owns.below (h : Owns cells k e base w s n xs) (hb : Below w.heap.size w w') : Owns cells k e base w' s n xs := by
  refine ⟨⟨h.1.1, ?_⟩, h.2⟩
  rcases h.1.2 with hn | ⟨q, cap, cur, e', hbg, hq, r⟩
  · exact .inl hn
  · exact .inr ⟨q, cap, cur, e', hbg, (hb.block _ (Array.getElem?_eq_some_iff.1 hq).1).trans hq, r⟩
theorem Owns.alloc (h : Owns cells k e base w s n xs) (o : Obj) : Owns cells k e base (w.alloc o) s n xs := h.below ((Below.refl _ w).alloc (Nat.le_refl _) o)
theorem Owns.drew (h : Owns cells k e base w s n xs) : Owns cells k e base w.drew s n xs := h.below (Below.refl _ w).drew
theorem Owns.slice (h : Owns cells k e base w s n xs) : ∃ A c, s = .slice A n c := by
  rcases h.1.2 with ⟨rfl, rfl⟩ | ⟨g, cap, cur, rfl, _⟩
  · exact ⟨none, 0, rfl⟩
  · exact ⟨_, _, rfl⟩
theorem Owns.row (F : Fit cells k) {A : Option Addr} {c : Nat} (h : Owns cells k e base w (.slice A n c) n xs) (hn : n ≤ 140737488351232) : RowS cells k w A n c xs := by
  rcases h.1.2 with ⟨e, h0⟩ | ⟨g, cap, cur, e, _, hg, hnc, hcm, hs, ht⟩
  · subst h0
    injection e with e1 _ e3
    subst e1 e3
    exact ⟨h.2, by omega, by omega, fun h => absurd h (by omega)⟩
  · injection e with e1 _ e3
    subst e1 e3
    refine ⟨h.2, hnc, hn, fun _ => ⟨g, 0, rfl, (Array.getElem?_eq_some_iff.1 hg).1, fun i x hx j v hv => ?_⟩⟩
    have := World.ownsRow.cells (g := g) (h.1 : w.ownsRow base _ k _ n (xs.flatMap cells)) rfl (i * k + j) v (flat_get F xs i j x v hx hv)
    simpa [Mem.add_none, Nat.add_assoc] using this
theorem Owns.lt (h : Owns cells k e base w s n xs) : ∀ q, s.ownBlock = some q → base ≤ q ∧ q < w.heap.size := World.ownsRow.lt h.1
theorem below_row (h : Owns cells k e base w s n xs) (hg : w.grownBy w' s.ownBlock) (hb : base ≤ w.heap.size) : Below base w w' :=
  (Below.refl base w).grown hg hb (fun q hk => (h.lt q hk).1)
end
set_option maxRecDepth 100000 in
/-- append(s, x...) onto a row of the call's own; x nil, empty or not. -/
theorem run_append {P : Program} (F : Fit cells k) {t e : TypeId} (ht : P.underlying t = some (.slice e)) {z : Value} {bytes : Nat} (hinfo : (P.info? e).map (fun i => (i.zero, i.size, i.bytes)) = some (some z, k, bytes)) (hzs : z.cells.size = k) (hb1 : bytes ≤ 256)
    (w : World) (base : Nat) (s : Value) (n : Nat) (l : List α) (hown : Owns cells k e base w s n l) (A : Option Addr) (m c : Nat) (l' : List α) (hx : RowS cells k w A m c l') (hbig : n + m ≤ 1099511627) (hbase : base ≤ w.heap.size) :
    ∃ s' w', (Builtin.append_ #[t, t] t #[s, .slice A m c]).run P w = .ok s' w' ∧ Owns cells k e base w' s' (n + m) (l ++ l') ∧ w.grownBy w' s.ownBlock ∧ (s'.ownBlock = s.ownBlock ∨ s'.ownBlock = some w.heap.size) := by
  obtain ⟨i, hi, hz0, hz1, hz2⟩ := info_parts hinfo
  rcases A with _ | ad
  · have hm : m = 0 := by
      rcases Nat.eq_zero_or_pos m with h0 | h0
      · exact h0
      · obtain ⟨b, o, e, _⟩ := hx.at_ h0
        cases e
    have hl : l' = [] := List.eq_nil_of_length_eq_zero (by rw [hx.len, hm])
    subst hm hl
    refine ⟨s, w, ?_, by simpa using hown, ⟨rfl, rfl, rfl, Nat.le_refl _, fun _ _ _ => rfl⟩, .inl rfl⟩
    rcases hown.1.2 with ⟨rfl, rfl⟩ | ⟨b, cap, cur, rfl, _, _, hnc, _⟩
    · simp [Builtin.append_, run_underlying ht, sizeOf, typeInfo, hi, Builtin.lenOf, Builtin.firstCells]
    · simp [Builtin.append_, run_underlying ht, sizeOf, typeInfo, hi, Builtin.lenOf, Builtin.firstCells, hnc, storeCells]
  · have hcells : ∀ j q, (l'.flatMap cells)[j]? = some q → w.cell? (ad.add j) = some q := by
      intro j q hq
      have hlt : j < (l'.flatMap cells).length := (List.getElem?_eq_some_iff.1 hq).1
      rw [flat_len F] at hlt
      obtain ⟨b, o, e, _⟩ := hx.at_ (by have := hx.len; rcases Nat.eq_zero_or_pos m with h0 | h0; · rw [this, h0, Nat.zero_mul] at hlt; omega
                                        · exact h0)
      have := row_flat F hx e j q hq
      injection e with e
      subst e
      rw [Mem.add_none]
      exact this
    have hby : (n + m) * bytes ≤ 140737488355328 := Nat.le_trans (Nat.mul_le_mul_left _ hb1) (by omega)
    obtain ⟨s', w', hrun, h2, h3, -, h5⟩ := run_append_own_at (P := P) w base t t e i _ k bytes ht hi hz0 hz1 hz2 hzs F.pos s n _ hown.1 ad m c (l'.flatMap cells) (by rw [flat_len F, hx.len]) hcells (flat_one F l') (by unfold maxLen; omega) hby hbase
    exact ⟨s', w', hrun, ⟨by rw [List.flatMap_append]; exact h2, by rw [List.length_append, hown.2, hx.len]⟩, h3, h5⟩
theorem wpList_append {P : Program} (F : Fit cells k) {t e : TypeId} (ht : P.underlying t = some (.slice e)) {z : Value} {bytes : Nat} (hinfo : (P.info? e).map (fun i => (i.zero, i.size, i.bytes)) = some (some z, k, bytes)) (hzs : z.cells.size = k) (hb1 : bytes ≤ 256)
    {w : World} {ops : Array Oper} {rest : List Oper} {o : Oper} {a : Act} {Q : Exit → Act → World → Prop} (hgd : o.guard = none) (s x : Operand)
    (ho : o.op = .call { callee := .builtin .append, args := #[s, x], argTypes := #[t, t] }) (hty : o.type = t)
    (base : Nat) (sv : Value) (n : Nat) (l : List α) (hs : a.eval s = sv) (hown : Owns cells k e base w sv n l) (A : Option Addr) (m c : Nat) (l' : List α) (hx : a.eval x = .slice A m c) (h : RowS cells k w A m c l')
    (hbig : n + m ≤ 1099511627) (hbase : base ≤ w.heap.size)
    (hk : ∀ A' c' w', Owns cells k e base w' (.slice A' (n + m) c') (n + m) (l ++ l') → w.grownBy w' sv.ownBlock → ((Value.slice A' (n + m) c').ownBlock = sv.ownBlock ∨ (Value.slice A' (n + m) c').ownBlock = some w.heap.size) → wpList P ops Q rest (a.put o.dst (.slice A' (n + m) c')) w') :
    wpList P ops Q (o :: rest) a w := by
  refine wpList_plain hgd fun K hK => ?_
  obtain ⟨s', w', hrun, h2, h3, h4⟩ := run_append F ht hinfo hzs hb1 w base sv n l hown A m c l' h hbig hbase
  obtain ⟨A', c', rfl⟩ := h2.slice
  unfold Oper.wp execOp
  simp only [ho, hty, resolve, invoke, builtin, Sem.run_bind, Sem.run_pure, Result.andThen_ok, List.map_toArray, List.map_cons, List.map_nil, hs, hx, hrun]
  exact hK _ _ (hk A' c' w' h2 h3 h4)
end OwnS
end Go.Proofs.Ytedandbkdjmfhaa
