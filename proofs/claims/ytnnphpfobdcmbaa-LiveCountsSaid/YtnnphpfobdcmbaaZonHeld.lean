/-
  A ZONE IN A BLOCK OF ITS OWN, WITH ITS BYTES, as the laws' walks carry it along.
-/
import Derived.Test.YtnnphpfobdcmbaaZonCount
import Derived.Test.YtnnphpfobdcmbaaZonAny
import Derived.WalkSmall
namespace Go.Proofs.Ytnnphpfobdcmbaa
open Go.RowKit Mem
namespace Zon

/-- A zone in a block of its own, and its bytes. -/
structure Held (w : World) (g : Nat) (z : Zn) (D : Option Addr) (c : Nat) : Prop where
  box : Box w g z D c
  row : Row cb w D z.data.length c z.data
section
variable {w w' : World} {g : Nat} {z : Zn} {D : Option Addr} {c : Nat}
theorem Held.below (h : Held w g z D c) (hb : Below w.heap.size w w') : Held w' g z D c := ⟨h.box.below hb, h.row.below hb⟩
theorem Held.alloc (h : Held w g z D c) (o : Obj) : Held (w.alloc o) g z D c := h.below ((Below.refl _ w).alloc (Nat.le_refl _) o)
theorem Held.drew (h : Held w g z D c) : Held w.drew g z D c := h.below (Below.refl _ w).drew
theorem Held.drewN (h : Held w g z D c) (n : Nat) : Held (w.drewN n) g z D c := h.below (below_drewN (Below.refl _ w) n)
theorem Held.start (h : Row cb w D z.data.length c z.data) : Held (w.alloc (.cells #[.int .i64 z.st, .int .i64 z.fc, .slice D z.data.length c] 46)) w.heap.size z D c := ⟨Box.new w z D c, h.alloc _⟩
/-- What a call gave, laid into a block. -/
theorem Held.new {b : Nat} (h : Owns cb 5 b w (.slice D z.data.length c) z.data.length z.data) (hn : z.data.length ≤ 140737488351232) : Held (w.alloc (.cells #[.int .i64 z.st, .int .i64 z.fc, .slice D z.data.length c] 46)) w.heap.size z D c := ⟨Box.new w z D c, (gave_row h hn).1.alloc _⟩
end


/-- append(s, x...) onto a row of the call's own; x nil, empty or not; only blocks of that type of elements may change. -/
theorem run_append_o {α : Type} {P : Program} {f : α → Value} (hf : ∀ x, (f x).oneCell' = true) {t e : TypeId} (ht : P.underlying t = some (.slice e)) {z : Value} {bytes : Nat} (hinfo : (P.info? e).map (fun i => (i.zero, i.size, i.bytes)) = some (some z, 1, bytes)) (hzs : z.cells.size = 1)
    (w : World) (base : Nat) (s : Value) (n : Nat) (l : List α) (hown : Owns f e base w s n l) (A : Option Addr) (m c : Nat) (l' : List α) (hx : Row f w A m c l')
    (hbig : n + m ≤ 140737488351232) (hby : (n + m) * bytes ≤ 140737488355328) (hbase : base ≤ w.heap.size) :
    ∃ s' w', (Builtin.append_ #[t, t] t #[s, .slice A m c]).run P w = .ok s' w' ∧ Owns f e base w' s' (n + m) (l ++ l') ∧ Below base w w' ∧ Oth e w w' := by
  obtain ⟨i, hi, hz0, hz1, hz2⟩ := info_parts hinfo
  rcases A with _ | ad
  · obtain ⟨s', w', h1, h2, h3, h4⟩ := run_append hf ht hinfo hzs w base s n l hown none m c l' hx hbig hby hbase
    have hm : m = 0 := by
      rcases Nat.eq_zero_or_pos m with h0 | h0
      · exact h0
      · obtain ⟨b, o, e, _⟩ := hx.at_ h0
        cases e
    have hl : l' = [] := List.eq_nil_of_length_eq_zero (by rw [hx.len, hm])
    subst hm hl
    refine ⟨s, w, ?_, by simpa using hown, Below.refl _ _, ⟨Nat.le_refl _, fun _ _ => .inl rfl⟩⟩
    rcases hown.2 with ⟨rfl, rfl⟩ | ⟨b, cap, cur, rfl, _, _, hnc, _⟩
    · simp [Builtin.append_, run_underlying ht, sizeOf, typeInfo, hi, Builtin.lenOf, Builtin.firstCells]
    · simp [Builtin.append_, run_underlying ht, sizeOf, typeInfo, hi, Builtin.lenOf, Builtin.firstCells, hnc, storeCells]
  · have hcells : ∀ j q, (l'.map f)[j]? = some q → w.cell? (ad.add j) = some q := by
      intro j q hq
      rw [List.getElem?_map] at hq
      obtain ⟨x, hxj, rfl⟩ := Option.map_eq_some_iff.1 hq
      have hlt : j < l'.length := (List.getElem?_eq_some_iff.1 hxj).1
      obtain ⟨b, o, e, _, hc⟩ := hx.at_ (by have := hx.len; omega)
      injection e with e
      subst e
      rw [add_none]
      exact hc j x hxj
    have hone : ∀ q ∈ l'.map f, q.oneCell' = true := by
      intro q hq
      obtain ⟨x, _, rfl⟩ := List.mem_map.1 hq
      exact hf x
    obtain ⟨s', w', hrun, h2, h3, -, -⟩ := run_append_own_at (P := P) w base t t e i _ 1 bytes ht hi hz0 hz1 hz2 hzs (by omega) s n _ hown ad m c (l'.map f) (by simp [hx.len]) hcells hone (by unfold maxLen; omega) hby hbase
    refine ⟨s', w', hrun, by unfold Owns; rw [List.map_append]; exact h2, (Below.refl base w).grown h3 hbase (fun k hk => (World.ownsRow.lt hown k hk).1), ⟨h3.size, fun k hk => ?_⟩⟩
    by_cases hkk : some k = s.ownBlock
    · rcases hown.2 with ⟨rfl, -⟩ | ⟨q, cap, cur, rfl, -, hq, -⟩
      · cases hkk
      · have : k = q := by simpa [Value.ownBlock] using hkk
        subst this
        exact .inr ⟨_, _, hq⟩
    · exact .inl (h3.block k hk hkk)

/-- The same, as one operation of a region. -/
theorem wp_append_o {α : Type} {P : Program} {f : α → Value} (hf : ∀ x, (f x).oneCell' = true) {t e : TypeId} (ht : P.underlying t = some (.slice e)) {z : Value} {bytes : Nat} (hinfo : (P.info? e).map (fun i => (i.zero, i.size, i.bytes)) = some (some z, 1, bytes)) (hzs : z.cells.size = 1)
    {w : World} {o : Oper} {a : Act} {Q : Exit → Act → World → Prop} {K : Act → World → Prop} (s x : Operand)
    (ho : o.op = .call { callee := .builtin .append, args := #[s, x], argTypes := #[t, t] }) (hty : o.type = t)
    (base : Nat) (sv : Value) (n : Nat) (l : List α) (hs : a.eval s = sv) (hown : Owns f e base w sv n l) (A : Option Addr) (m c : Nat) (l' : List α) (hx : a.eval x = .slice A m c) (h : Row f w A m c l')
    (hbig : n + m ≤ 140737488351232) (hby : (n + m) * bytes ≤ 140737488355328) (hbase : base ≤ w.heap.size)
    (hk : ∀ A' c' w', Owns f e base w' (.slice A' (n + m) c') (n + m) (l ++ l') → Below base w w' → Oth e w w' → K (a.put o.dst (.slice A' (n + m) c')) w') :
    Oper.wp P o a w K Q := by
  obtain ⟨s', w', hrun, h2, h3, h4⟩ := run_append_o hf ht hinfo hzs w base sv n l hown A m c l' h hbig hby hbase
  obtain ⟨A', c', rfl⟩ := h2.slice
  unfold Oper.wp execOp
  simp only [ho, hty, resolve, invoke, builtin, Sem.run_bind, Sem.run_pure, Result.andThen_ok, List.map_toArray, List.map_cons, List.map_nil, hs, hx, hrun]
  exact hk A' c' w' h2 h3 h4
end Zon
end Go.Proofs.Ytnnphpfobdcmbaa
