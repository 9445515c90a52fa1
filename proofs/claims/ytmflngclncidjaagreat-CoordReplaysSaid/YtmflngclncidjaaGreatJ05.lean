/-
  SEVERAL TEXTS IN ONE FILE: CooMem, CooPlain, SpaCheck, SpaRefChk, SpaOwn.
-/
import Derived.Test.YtmflngclncidjaaGreatJ03
import Derived.Test.YtmflngclncidjaaGreatJ04
import Derived.Test.YtmflngclncidjaaGreatJ02
/-
  FENCES IN MEMORY: rows of fences, read and of one's own. (Written by gen_coocopy.py out of the texts on leases.)
-/
namespace Go.Proofs.YtmflngclncidjaaGreat
open Go.RowKit Mem
namespace Coo
open Lea (Cells But OneBox add_none')
/-- A fence's cells; a fence, a table as a value. -/
def cellsF (x : Fv) : List Value := [.int .i64 x.zone, .int .i64 x.host, .int .i64 x.epoch]
abbrev fv (x : Fv) : Value := .agg #[.int .i64 x.zone, .int .i64 x.host, .int .i64 x.epoch]
/-- A fence, a table in a block of its own. -/
abbrev FBox (w : World) (g : Nat) (x : Fv) : Prop := Cells w g 51 #[.int .i64 x.zone, .int .i64 x.host, .int .i64 x.epoch]
theorem FBox.cells {w : World} {g : Nat} {x : Fv} (h : FBox w g x) : w.cell? ⟨g, 0, none⟩ = some (.int .i64 x.zone) ∧ w.cell? ⟨g, 1, none⟩ = some (.int .i64 x.host) ∧ w.cell? ⟨g, 2, none⟩ = some (.int .i64 x.epoch) :=
  ⟨Cells.cell h 0, Cells.cell h 1, Cells.cell h 2⟩
theorem FBox.frozen {w : World} {g : Nat} {x : Fv} (h : FBox w g x) : w.frozen? ⟨g, 0, none⟩ = false ∧ w.frozen? ⟨g, 1, none⟩ = false ∧ w.frozen? ⟨g, 2, none⟩ = false :=
  ⟨Cells.frozen h 0, Cells.frozen h 1, Cells.frozen h 2⟩
section
variable {g : Nat} {w w' w'' : World}
end

abbrev RowF (w : World) (A : Option Addr) (n c : Nat) (l : List Fv) : Prop := RowS cellsF 3 w A n c l
theorem RowS.keepBut {α : Type} {cells : α → List Value} {k : Nat} {w w' : World} {b : Nat} {A : Option Addr} {n c : Nat} {xs : List α} (h : RowS cells k w A n c xs) (hn : ∀ q o, A = some ⟨q, o, none⟩ → 0 < n → q ≠ b) (hb : But b w w') : RowS cells k w' A n c xs := by
  refine ⟨h.len, h.cap, h.big, fun h0 => ?_⟩
  obtain ⟨q, o, e, hq, hcell⟩ := h.at_ h0
  refine ⟨q, o, e, Nat.lt_of_lt_of_le hq hb.by_.size, fun i x hi j u hu => ?_⟩
  rw [World.cell?_of_block (w := w) (hb.block hq (hn q o e h0))]
  exact hcell i x hi j u hu
theorem RowS.drew {α : Type} {cells : α → List Value} {k : Nat} {w : World} {A : Option Addr} {n c : Nat} {xs : List α} (h : RowS cells k w A n c xs) : RowS cells k w.drew A n c xs := h.below (Below.refl _ w).drew
theorem RowS.alloc {α : Type} {cells : α → List Value} {k : Nat} {w : World} {A : Option Addr} {n c : Nat} {xs : List α} (h : RowS cells k w A n c xs) (o : Obj) : RowS cells k (w.alloc o) A n c xs := h.below ((Below.refl _ w).alloc (Nat.le_refl _) o)
/-- Where a fence lies in its row. -/
theorem RowS.fence {w : World} {A : Option Addr} {n c : Nat} {l : List Fv} (h : RowF w A n c l) {i : Nat} {x : Fv} (hx : l[i]? = some x) :
    ∃ b o, A = some ⟨b, o, none⟩ ∧ b < w.heap.size ∧ ∀ W : World, W.heap[b]? = w.heap[b]? → W.cell? ⟨b, o + i * 3, none⟩ = some (.int .i64 x.zone) ∧ W.cell? ⟨b, o + i * 3 + 1, none⟩ = some (.int .i64 x.host) ∧ W.cell? ⟨b, o + i * 3 + 2, none⟩ = some (.int .i64 x.epoch) := by
  obtain ⟨b, o, e, hb, hc⟩ := h.elem hx
  exact ⟨b, o, e, hb, fun W hW => ⟨hc W hW 0 _ rfl, hc W hW 1 _ rfl, hc W hW 2 _ rfl⟩⟩
/-- The same, now. -/
theorem RowS.fence_at {w : World} {A : Option Addr} {n c : Nat} {l : List Fv} (h : RowF w A n c l) {i : Nat} {x : Fv} (hx : l[i]? = some x) :
    ∃ b o, A = some ⟨b, o, none⟩ ∧ w.cell? ⟨b, o + i * 3, none⟩ = some (.int .i64 x.zone) ∧ w.cell? ⟨b, o + i * 3 + 1, none⟩ = some (.int .i64 x.host) ∧ w.cell? ⟨b, o + i * 3 + 2, none⟩ = some (.int .i64 x.epoch) := by
  obtain ⟨b, o, e, -, hc⟩ := RowS.fence h hx
  exact ⟨b, o, e, hc w rfl⟩
theorem fence_len (x : Fv) : (cellsF x).length = 3 := rfl
theorem fence_one (x : Fv) : ∀ u ∈ cellsF x, u.oneCell' = true := by
  intro u hu
  simp [cellsF] at hu
  rcases hu with rfl | rfl | rfl <;> rfl
theorem flat_len (xs : List Fv) : (xs.flatMap cellsF).length = xs.length * 3 := by
  induction xs with
  | nil => rfl
  | cons x xs ih => rw [List.flatMap_cons, List.length_append, ih, fence_len, List.length_cons]; omega
theorem flat_one (xs : List Fv) : ∀ u ∈ xs.flatMap cellsF, u.oneCell' = true := by
  intro u hu
  obtain ⟨x, _, hx⟩ := List.mem_flatMap.1 hu
  exact fence_one x u hx
theorem flat_get (xs : List Fv) (i j : Nat) (x : Fv) (v : Value) (hx : xs[i]? = some x) (hv : (cellsF x)[j]? = some v) : (xs.flatMap cellsF)[i * 3 + j]? = some v := by
  induction xs generalizing i with
  | nil => simp at hx
  | cons y xs ih =>
    have hj : j < 3 := (List.getElem?_eq_some_iff.1 hv).1
    rw [List.flatMap_cons]
    rcases i with _ | i
    · simp only [List.getElem?_cons_zero, Option.some.injEq] at hx
      subst hx
      rw [List.getElem?_append_left (by rw [fence_len]; omega)]
      simpa using hv
    · rw [List.getElem?_append_right (by rw [fence_len]; omega), fence_len]
      rw [show (i + 1) * 3 + j - 3 = i * 3 + j by omega]
      exact ih i (by simpa using hx)
theorem flat_inv (xs : List Fv) (k : Nat) (v : Value) (h : (xs.flatMap cellsF)[k]? = some v) : ∃ x, xs[k / 3]? = some x ∧ (cellsF x)[k % 3]? = some v := by
  have hl : k < xs.length * 3 := by rw [← flat_len]; exact (List.getElem?_eq_some_iff.1 h).1
  have hlt : k / 3 < xs.length := by omega
  have hx : xs[k / 3]? = some xs[k / 3] := List.getElem?_eq_getElem hlt
  have h4 : k % 3 < (cellsF xs[k / 3]).length := by rw [fence_len]; omega
  obtain ⟨u, hu⟩ : ∃ u, (cellsF xs[k / 3])[k % 3]? = some u := ⟨_, List.getElem?_eq_getElem h4⟩
  have := flat_get xs (k / 3) (k % 3) _ u hx hu
  rw [show k / 3 * 3 + k % 3 = k by omega, h] at this
  injection this with this
  exact ⟨_, hx, by rw [this]; exact hu⟩
/-- A row's cells, one behind the other. -/
theorem RowS.flat {w : World} {A : Option Addr} {n c : Nat} {l : List Fv} (h : RowF w A n c l) {b o : Nat} (hA : A = some ⟨b, o, none⟩) : ∀ j u, (l.flatMap cellsF)[j]? = some u → w.cell? ⟨b, o + j, none⟩ = some u := by
  intro j u hj
  obtain ⟨x, hx, hu⟩ := flat_inv l j u hj
  have hn : j / 3 < l.length := (List.getElem?_eq_some_iff.1 hx).1
  obtain ⟨b', o', e, -, hc⟩ := h.at_ (by have := h.len; omega)
  rw [hA] at e
  injection e with e
  injection e with e1 e2
  subst e1 e2
  have := hc (j / 3) x hx (j % 3) u hu
  rwa [show o + j / 3 * 3 + j % 3 = o + j by omega] at this
/-- A row of fences of one's own. -/
def OwnsF (base : Nat) (w : World) (s : Value) (n : Nat) (xs : List Fv) : Prop := w.ownsRow base 51 3 s n (xs.flatMap cellsF) ∧ xs.length = n
section
variable {base : Nat} {w w' : World} {s : Value} {n : Nat} {xs : List Fv}
theorem OwnsF.nil (base : Nat) (w : World) : OwnsF base w (.slice none 0 0) 0 [] := ⟨World.ownsRow_nil _ _ _ _, rfl⟩
theorem OwnsF.kept {row : Option Nat} (h : OwnsF base w s n xs) (hg : w.grownBy w' row) (hne : s.ownBlock = none ∨ s.ownBlock ≠ row) : OwnsF base w' s n xs := ⟨World.ownsRow.kept h.1 hg hne, h.2⟩
theorem OwnsF.below (h : OwnsF base w s n xs) (hb : Below w.heap.size w w') : OwnsF base w' s n xs := by
  refine ⟨⟨h.1.1, ?_⟩, h.2⟩
  rcases h.1.2 with hn | ⟨q, cap, cur, e', hbg, hq, r⟩
  · exact .inl hn
  · exact .inr ⟨q, cap, cur, e', hbg, (hb.block _ (Array.getElem?_eq_some_iff.1 hq).1).trans hq, r⟩
theorem OwnsF.alloc (h : OwnsF base w s n xs) (o : Obj) : OwnsF base (w.alloc o) s n xs := h.below ((Below.refl _ w).alloc (Nat.le_refl _) o)
theorem OwnsF.drew (h : OwnsF base w s n xs) : OwnsF base w.drew s n xs := h.below (Below.refl _ w).drew
theorem OwnsF.mono {base' : Nat} (h : OwnsF base w s n xs) (hb : base' ≤ base) : OwnsF base' w s n xs := by
  refine ⟨⟨h.1.1, ?_⟩, h.2⟩
  rcases h.1.2 with hn | ⟨q, cap, cur, e', hbg, r⟩
  · exact .inl hn
  · exact .inr ⟨q, cap, cur, e', Nat.le_trans hb hbg, r⟩
theorem OwnsF.setCell (h : OwnsF base w s n xs) {p : Addr} (hp : p.block < base) (v : Value) : OwnsF base (w.setCell p v) s n xs := by
  refine ⟨⟨h.1.1, ?_⟩, h.2⟩
  rcases h.1.2 with hn | ⟨q, cap, cur, e', hbg, hq, r⟩
  · exact .inl hn
  · exact .inr ⟨q, cap, cur, e', hbg, (Below.heap_setCell _ _ _ _ (by omega)).trans hq, r⟩
theorem OwnsF.but {g : Nat} (h : OwnsF base w s n xs) (hb : But g w w') (hg : g < base) : OwnsF base w' s n xs := by
  refine ⟨⟨h.1.1, ?_⟩, h.2⟩
  rcases h.1.2 with hn | ⟨q, cap, cur, e', hbg, hq, r⟩
  · exact .inl hn
  · exact .inr ⟨q, cap, cur, e', hbg, (hb.block (Array.getElem?_eq_some_iff.1 hq).1 (by omega)).trans hq, r⟩
theorem OwnsF.slice (h : OwnsF base w s n xs) : ∃ A c, s = .slice A n c := by
  rcases h.1.2 with ⟨rfl, rfl⟩ | ⟨g, cap, cur, rfl, _⟩
  · exact ⟨none, 0, rfl⟩
  · exact ⟨_, _, rfl⟩
theorem OwnsF.row {A : Option Addr} {c : Nat} (h : OwnsF base w (.slice A n c) n xs) (hn : n ≤ 140737488351232) : RowF w A n c xs := by
  rcases h.1.2 with ⟨e, h0⟩ | ⟨g, cap, cur, e, _, hg, hnc, hcm, hs, ht⟩
  · subst h0
    injection e with e1 _ e3
    subst e1 e3
    exact ⟨h.2, by omega, by omega, fun h => absurd h (by omega)⟩
  · injection e with e1 _ e3
    subst e1 e3
    refine ⟨h.2, hnc, hn, fun _ => ⟨g, 0, rfl, (Array.getElem?_eq_some_iff.1 hg).1, fun i x hx j v hv => ?_⟩⟩
    have := World.ownsRow.cells (g := g) (h.1 : w.ownsRow base _ 3 _ n (xs.flatMap cellsF)) rfl (i * 3 + j) v (flat_get xs i j x v hx hv)
    simpa [Mem.add_none, Nat.add_assoc] using this
theorem OwnsF.lt (h : OwnsF base w s n xs) : ∀ k, s.ownBlock = some k → base ≤ k ∧ k < w.heap.size := World.ownsRow.lt h.1
end
theorem below_row {base : Nat} {w w' : World} {s : Value} {n : Nat} {xs : List Fv} (h : OwnsF base w s n xs) (hg : w.grownBy w' s.ownBlock) (hb : base ≤ w.heap.size) : Below base w w' :=
  (Below.refl base w).grown hg hb (fun k hk => (h.lt k hk).1)

theorem info_fence : (Tryz.prog.info? 51).map (fun i => (i.zero, i.size, i.bytes)) = some (some (.agg #[.int .i64 0, .int .i64 0, .int .i64 0]), 3, 24) := by kernel_rfl
set_option maxRecDepth 100000 in
/-- append(s, x...) onto a row of fences of the call's own; x nil, empty or not. -/
theorem run_append_f (w : World) (base : Nat) (s : Value) (n : Nat) (l : List Fv) (hown : OwnsF base w s n l) (A : Option Addr) (m c : Nat) (l' : List Fv) (hx : RowF w A m c l') (hbig : n + m ≤ 4398046511104) (hbase : base ≤ w.heap.size) :
    ∃ s' w', (Builtin.append_ #[29, 29] 29 #[s, .slice A m c]).run Tryz.prog w = .ok s' w' ∧ OwnsF base w' s' (n + m) (l ++ l') ∧ w.grownBy w' s.ownBlock ∧ (s'.ownBlock = s.ownBlock ∨ s'.ownBlock = some w.heap.size) := by
  obtain ⟨i, hi, hz0, hz1, hz2⟩ := info_parts info_fence
  rcases A with _ | ad
  · have hm : m = 0 := by
      rcases Nat.eq_zero_or_pos m with h0 | h0
      · exact h0
      · obtain ⟨b, o, e, _⟩ := hx.at_ h0
        cases e
    have hl : l' = [] := List.eq_nil_of_length_eq_zero (by rw [hx.len, hm])
    subst hm hl
    refine ⟨s, w, ?_, by simpa using hown, ⟨rfl, rfl, rfl, Nat.le_refl _, fun _ _ _ => rfl⟩, .inl rfl⟩
    rcases hown.1.2 with ⟨rfl, rfl⟩ | ⟨b, cap, cur, rfl, _, _, hnc, _⟩
    · simp [Builtin.append_, run_underlying Tryz.underlying29, sizeOf, typeInfo, hi, Builtin.lenOf, Builtin.firstCells]
    · simp [Builtin.append_, run_underlying Tryz.underlying29, sizeOf, typeInfo, hi, Builtin.lenOf, Builtin.firstCells, hnc, storeCells]
  · have hcells : ∀ j q, (l'.flatMap cellsF)[j]? = some q → w.cell? (ad.add j) = some q := by
      intro j q hq
      have hlt : j < (l'.flatMap cellsF).length := (List.getElem?_eq_some_iff.1 hq).1
      rw [flat_len] at hlt
      obtain ⟨b, o, e, _⟩ := hx.at_ (by have := hx.len; omega)
      have := RowS.flat hx e j q hq
      injection e with e
      subst e
      rw [Mem.add_none]
      exact this
    obtain ⟨s', w', hrun, h2, h3, -, h5⟩ := run_append_own_at (P := Tryz.prog) w base 29 29 51 i _ 3 24 Tryz.underlying29 hi hz0 hz1 hz2 rfl (by omega) s n _ hown.1 ad m c (l'.flatMap cellsF) (by rw [flat_len, hx.len]) hcells (flat_one l') (by unfold maxLen; omega) (by omega) hbase
    exact ⟨s', w', hrun, ⟨by rw [List.flatMap_append]; exact h2, by rw [List.length_append, hown.2, hx.len]⟩, h3, h5⟩
theorem wpList_append_f {w : World} {ops : Array Oper} {rest : List Oper} {o : Oper} {a : Act} {Q : Exit → Act → World → Prop} (hgd : o.guard = none) (s x : Operand)
    (ho : o.op = .call { callee := .builtin .append, args := #[s, x], argTypes := #[29, 29] }) (hty : o.type = 29)
    (base : Nat) (sv : Value) (n : Nat) (l : List Fv) (hs : a.eval s = sv) (hown : OwnsF base w sv n l) (A : Option Addr) (m c : Nat) (l' : List Fv) (hx : a.eval x = .slice A m c) (h : RowF w A m c l')
    (hbig : n + m ≤ 4398046511104) (hbase : base ≤ w.heap.size)
    (hk : ∀ A' c' w', OwnsF base w' (.slice A' (n + m) c') (n + m) (l ++ l') → w.grownBy w' sv.ownBlock → ((Value.slice A' (n + m) c').ownBlock = sv.ownBlock ∨ (Value.slice A' (n + m) c').ownBlock = some w.heap.size) → wpList Tryz.prog ops Q rest (a.put o.dst (.slice A' (n + m) c')) w') :
    wpList Tryz.prog ops Q (o :: rest) a w := by
  refine wpList_plain hgd fun K hK => ?_
  obtain ⟨s', w', hrun, h2, h3, h4⟩ := run_append_f w base sv n l hown A m c l' h hbig hbase
  obtain ⟨A', c', rfl⟩ := h2.slice
  unfold Oper.wp execOp
  simp only [ho, hty, resolve, invoke, builtin, Sem.run_bind, Sem.run_pure, Result.andThen_ok, List.map_toArray, List.map_cons, List.map_nil, hs, hx, hrun]
  exact hK _ _ (hk A' c' w' h2 h3 h4)
/-- One fence in a block of its own is a row of one. -/
theorem RowS.one {w : World} {q : Nat} {x : Fv} (h : FBox w q x) : RowF w (some ⟨q, 0, none⟩) 1 1 [x] := by
  refine ⟨rfl, by omega, by omega, fun _ => ⟨_, _, rfl, Cells.lt h, fun i y hy j u hu => ?_⟩⟩
  have hi : i = 0 := by have := (List.getElem?_eq_some_iff.1 hy).1; simpa using this
  subst hi
  simp at hy
  subst hy
  rw [show 0 + 0 * 3 + j = j by omega, Cells.cell h]
  simpa [cellsF] using hu

end Coo
end Go.Proofs.YtmflngclncidjaaGreat
/-
  coord IN PLAIN: what is done leaves one that may be; what an error changes; what the laws ask.
-/
namespace Go.Proofs.YtmflngclncidjaaGreat
open Go.RowKit Mem
namespace Coo
open Lea (Lv Tv)
open Spa (Sp)

theorem act_cases (c : Cv) (e : Ev) (P : Cv × An → Prop) (h1 : e.d = 1 → P (joinC c e)) (h2 : e.d = 2 → P (askC c e)) (h3 : e.d = 3 → P (ackC c e)) (h4 : e.d = 4 → P (giveC c e)) (h5 : e.d = 5 → P (electC c e)) (h6 : e.d = 6 → P (tickC c e)) (h7 : e.d = 7 → P (renewC c e)) (h8 : e.d = 8 → P (leaveC c e)) (hk : knownB e.d = true) : P (actC c e) := by
  unfold knownB at hk
  simp only [Bool.and_eq_true, decide_eq_true_eq] at hk
  unfold actC
  have hh : e.d = 1 ∨ e.d = 2 ∨ e.d = 3 ∨ e.d = 4 ∨ e.d = 5 ∨ e.d = 6 ∨ e.d = 7 ∨ e.d = 8 := by omega
  rcases hh with h | h | h | h | h | h | h | h
  · rw [h]; exact h1 h
  · rw [h]; exact h2 h
  · rw [h]; exact h3 h
  · rw [h]; exact h4 h
  · rw [h]; exact h5 h
  · rw [h]; exact h6 h
  · rw [h]; exact h7 h
  · rw [h]; exact h8 h
theorem mayE_iff {e : Ev} : mayE e = true ↔ knownB e.d = true ∧ (e.d = 6 ∨ hostB e.host = true) := by
  unfold mayE; simp only [Bool.and_eq_true, Bool.or_eq_true, beq_iff_eq]
theorem do_cases (c : Cv) (e : Ev) (P : Cv × An → Prop) (h0 : mayE e = false → P (bad c 1)) (h1 : e.d = 1 → hostB e.host = true → P (joinC c e)) (h2 : e.d = 2 → hostB e.host = true → P (askC c e)) (h3 : e.d = 3 → hostB e.host = true → P (ackC c e)) (h4 : e.d = 4 → hostB e.host = true → P (giveC c e)) (h5 : e.d = 5 → hostB e.host = true → P (electC c e)) (h6 : e.d = 6 → P (tickC c e)) (h7 : e.d = 7 → hostB e.host = true → P (renewC c e)) (h8 : e.d = 8 → hostB e.host = true → P (leaveC c e)) : P (doC c e) := by
  unfold doC
  rcases hm : mayE e
  · exact h0 hm
  · obtain ⟨hk, ho⟩ := mayE_iff.1 hm
    have hh : ∀ k, e.d = k → k ≠ 6 → hostB e.host = true := fun k h1 h2 => by
      rcases ho with ho | ho
      · omega
      · exact ho
    exact act_cases c e P (fun h => h1 h (hh 1 h (by omega))) (fun h => h2 h (hh 2 h (by omega))) (fun h => h3 h (hh 3 h (by omega))) (fun h => h4 h (hh 4 h (by omega))) (fun h => h5 h (hh 5 h (by omega))) h6 (fun h => h7 h (hh 7 h (by omega))) (fun h => h8 h (hh 8 h (by omega))) hk
theorem do_inv {c : Cv} (h : Inv c) (e : Ev) : Inv (doC c e).1 := by
  refine do_cases c e (fun r => Inv r.1) (fun _ => h) (fun _ hh => ?_) (fun _ _ => ask_inv h e) (fun _ _ => ack_inv h e) (fun _ _ => give_inv h e) (fun _ hh => ?_) (fun _ => tick_inv h e) (fun _ _ => renew_inv h e) (fun _ _ => leave_inv h e)
  · exact grant_inv h (hostB_iff.1 hh) (.inr rfl)
  · unfold electC
    rcases memB c e.host
    · exact h
    · exact grant_inv h (hostB_iff.1 hh) (.inl rfl)
/-! ### How much there is -/
theorem setK_len (l : List Lv) (key : Int) (f : Lv → Lv) : (Lea.setK l key f).length = l.length := by unfold Lea.setK; rw [List.length_map]
theorem grant_bd {c : Cv} (h : Inv c) {N : Nat} (hb : Bd c N) (key host : Int) : Bd (grantC c key host).1 (N + 1) := by
  unfold grantC
  rcases e : Lea.heldB c.t.l key
  · refine ⟨?_, ?_, by have := hb.wlen; show c.wt.length ≤ N + 1; omega, hb.now, hb.blocks⟩
    · have := hb.last
      show c.t.last + 1 ≤ ((N + 1 : Nat) : Int); omega
    · show (Lea.putL _ _ _).length ≤ N + 1
      rw [Lea.putL_len (Lea.okT_rises h.tok) e]
      have := hb.len; omega
  · exact hb.mono (by omega)
theorem ends_bd {c : Cv} (h : Inv c) {N : Nat} (hb : Bd c N) {t : Tv} {l : List Lv} (hl : t.last = c.t.last) (hle : t.l.length ≤ c.t.l.length) (hn : t.now ≤ 1152921504606846976) : Bd (endsC (setT c t) l) N := by
  obtain ⟨a1, a2, a3⟩ := endsC_t l (setT c t)
  obtain ⟨b1, b2, b3⟩ := endsC_s l (c := setT c t) h.sok
  obtain ⟨c1, c2⟩ := endsC_w l (setT c t)
  refine ⟨by rw [a1]; show t.last ≤ N; rw [hl]; exact hb.last, by rw [a1]; show t.l.length ≤ N; have := hb.len; omega, ?_, by rw [a1]; exact hn, by rw [b2]; exact hb.blocks⟩
  have := c1.length_le
  have h2 := hb.wlen
  have h3 : (setT c t).wt = c.wt := rfl
  rw [h3] at this
  omega
theorem do_bd {c : Cv} (h : Inv c) {N : Nat} (hb : Bd c N) {e : Ev} (hn : e.now ≤ 1152921504606846976) : Bd (doC c e).1 (N + 1) := by
  have hup := hb.mono (show N ≤ N + 1 by omega)
  refine do_cases c e (fun r => Bd r.1 (N + 1)) (fun _ => hup) (fun _ _ => grant_bd h hb _ _) (fun _ _ => ?_) (fun _ _ => ?_) (fun _ hh => ?_) (fun _ _ => ?_) (fun _ => ?_) (fun _ _ => ?_) (fun _ _ => ?_)
  · unfold askC
    rcases zoneB c e.zone
    · exact hup
    rcases memB c e.host
    · exact hup
    rcases awayB c e.zone
    · refine ⟨by have := hb.last; show c.t.last + 1 ≤ ((N + 1 : Nat) : Int); omega, by have := hb.len; show c.t.l.length ≤ N + 1; omega, ?_, hb.now, hb.blocks⟩
      show (c.wt ++ [_]).length ≤ N + 1
      rw [List.length_append, List.length_singleton]
      have := hb.wlen; omega
    · exact hup
  · unfold ackC
    rcases hi : c.wt.findIdx? (isF e.zone e.epoch) with _ | i
    · exact hup
    · simp only
      rcases e1 : ((c.wt.getD i zF).host == e.host)
      · exact hup
      · obtain ⟨f, hf, f1, f2, f3⟩ := ack_find hi
        have hw := (h.wait f (List.mem_of_getElem? hf)).2.2.2.2.1
        rw [f1] at hw
        refine ⟨by have := hb.last; show c.t.last ≤ ((N + 1 : Nat) : Int); omega, ?_, ?_, hb.now, hb.blocks⟩
        · show (Lea.putL _ _ _).length ≤ N + 1
          rw [Lea.putL_len (Lea.okT_rises h.tok) hw]
          have := hb.len; omega
        · have := (take_drop_sub (l := c.wt) (i := i)).length_le
          have h2 := hb.wlen
          show (c.wt.take i ++ c.wt.drop (i + 1)).length ≤ N + 1
          omega
  · unfold giveC
    rcases memB c e.host
    · exact hup
    rcases e2 : Spa.rangeB c.s e.fr e.to
    · exact hup
    rcases (Spa.partsS c.s e.fr e.to).any (other e.host)
    · have h0 := last0 h
      refine ⟨by have := hb.last; show c.t.last + 1 ≤ ((N + 1 : Nat) : Int); omega, by have := hb.len; show c.t.l.length ≤ N + 1; omega, by have := hb.wlen; show c.wt.length ≤ N + 1; omega, hb.now, ?_⟩
      show Spa.endF 0 (Spa.giveS c.s e.fr e.to e.host (c.t.last + 1)) ≤ 400000
      rw [(Spa.giveS_ok e2 (Spa.mayOwn_iff.2 (.inr (by have := hostB_iff.1 hh; omega)))).2]
      exact hb.blocks
    · exact hup
  · unfold electC
    rcases memB c e.host
    · exact hup
    · exact grant_bd h hb _ _
  · unfold tickC
    rcases decide (e.now < c.t.now)
    · exact (ends_bd (N := N) (t := tickT c e.now) (l := overL c e.now) h hb rfl (List.length_filter_le _ _) hn).mono (Nat.le_succ N)
    · exact hup
  · unfold renewC
    rcases Lea.heldB c.t.l e.key
    · exact hup
    rcases hasNot c e
    · exact ⟨hup.last, by show (Lea.setK _ _ _).length ≤ _; rw [setK_len]; exact hup.len, hup.wlen, hup.now, hup.blocks⟩
    · exact hup
  · unfold leaveC
    rcases Lea.heldB c.t.l e.key
    · exact hup
    rcases hasNot c e
    · exact (ends_bd (N := N) (t := ⟨c.t.last, c.t.now, Lea.butK c.t.l e.key⟩) (l := [⟨e.key, 0, 0, 0⟩]) h hb rfl (List.length_filter_le _ _) hb.now).mono (Nat.le_succ N)
    · exact hup
/-! ### What an error changes; the epochs -/
theorem err_same {c : Cv} {e : Ev} (he : (doC c e).2.e ≠ 0) : (doC c e).1 = c := by
  revert he
  refine do_cases c e (fun r => r.2.e ≠ 0 → r.1 = c) (fun _ _ => rfl) (fun _ _ => ?_) (fun _ _ => ?_) (fun _ _ => ?_) (fun _ _ => ?_) (fun _ _ => ?_) (fun _ => ?_) (fun _ _ => ?_) (fun _ _ => ?_)
  · unfold joinC grantC
    rcases Lea.heldB c.t.l _
    · exact fun h => absurd rfl h
    · exact fun _ => rfl
  · unfold askC
    rcases zoneB c e.zone
    · exact fun _ => rfl
    rcases memB c e.host
    · exact fun _ => rfl
    rcases awayB c e.zone
    · exact fun h => absurd rfl h
    · exact fun _ => rfl
  · unfold ackC
    rcases c.wt.findIdx? (isF e.zone e.epoch) with _ | i
    · exact fun _ => rfl
    · simp only
      rcases ((c.wt.getD i zF).host == e.host)
      · exact fun _ => rfl
      · exact fun h => absurd rfl h
  · unfold giveC
    rcases memB c e.host
    · exact fun _ => rfl
    rcases Spa.rangeB c.s e.fr e.to
    · exact fun _ => rfl
    rcases (Spa.partsS c.s e.fr e.to).any (other e.host)
    · exact fun h => absurd rfl h
    · exact fun _ => rfl
  · unfold electC grantC
    rcases memB c e.host
    · exact fun _ => rfl
    rcases Lea.heldB c.t.l _
    · exact fun h => absurd rfl h
    · exact fun _ => rfl
  · unfold tickC
    rcases decide (e.now < c.t.now)
    · exact fun h => absurd rfl h
    · exact fun _ => rfl
  · unfold renewC
    rcases Lea.heldB c.t.l e.key
    · exact fun _ => rfl
    rcases hasNot c e
    · exact fun h => absurd rfl h
    · exact fun _ => rfl
  · unfold leaveC
    rcases Lea.heldB c.t.l e.key
    · exact fun _ => rfl
    rcases hasNot c e
    · exact fun h => absurd rfl h
    · exact fun _ => rfl
def newB (d : Int) : Bool := d == 1 || d == 2 || d == 4 || d == 5
/-- Without an error the last epoch is one more, and told, or it is what it was. -/
theorem do_last {c : Cv} {e : Ev} (he : (doC c e).2.e = 0) : (newB e.d = true ∧ (doC c e).1.t.last = c.t.last + 1 ∧ (doC c e).2.epoch = c.t.last + 1) ∨ (newB e.d = false ∧ (doC c e).1.t.last = c.t.last) := by
  revert he
  refine do_cases c e (fun r => r.2.e = 0 → (newB e.d = true ∧ r.1.t.last = c.t.last + 1 ∧ r.2.epoch = c.t.last + 1) ∨ (newB e.d = false ∧ r.1.t.last = c.t.last)) (fun _ h => by cases h) (fun h _ => ?_) (fun h _ => ?_) (fun h _ => ?_) (fun h _ => ?_) (fun h _ => ?_) (fun h => ?_) (fun h _ => ?_) (fun h _ => ?_)
  all_goals rw [h]
  · unfold joinC grantC
    rcases Lea.heldB c.t.l _
    · exact fun _ => .inl ⟨rfl, rfl, rfl⟩
    · exact fun h => by cases h
  · unfold askC
    rcases zoneB c e.zone
    · exact fun h => by cases h
    rcases memB c e.host
    · exact fun h => by cases h
    rcases awayB c e.zone
    · exact fun _ => .inl ⟨rfl, rfl, rfl⟩
    · exact fun h => by cases h
  · unfold ackC
    rcases c.wt.findIdx? (isF e.zone e.epoch) with _ | i
    · exact fun h => by cases h
    · simp only
      rcases ((c.wt.getD i zF).host == e.host)
      · exact fun h => by cases h
      · exact fun _ => .inr ⟨rfl, rfl⟩
  · unfold giveC
    rcases memB c e.host
    · exact fun h => by cases h
    rcases Spa.rangeB c.s e.fr e.to
    · exact fun h => by cases h
    rcases (Spa.partsS c.s e.fr e.to).any (other e.host)
    · exact fun _ => .inl ⟨rfl, rfl, rfl⟩
    · exact fun h => by cases h
  · unfold electC grantC
    rcases memB c e.host
    · exact fun h => by cases h
    rcases Lea.heldB c.t.l _
    · exact fun _ => .inl ⟨rfl, rfl, rfl⟩
    · exact fun h => by cases h
  · unfold tickC
    rcases decide (e.now < c.t.now)
    · exact fun _ => .inr ⟨rfl, by show (endsC _ _).t.last = _; rw [(endsC_t _ _).1]; rfl⟩
    · exact fun h => by cases h
  · unfold renewC
    rcases Lea.heldB c.t.l e.key
    · exact fun h => by cases h
    rcases hasNot c e
    · exact fun _ => .inr ⟨rfl, rfl⟩
    · exact fun h => by cases h
  · unfold leaveC
    rcases Lea.heldB c.t.l e.key
    · exact fun h => by cases h
    rcases hasNot c e
    · exact fun _ => .inr ⟨rfl, by show (endC _ _).t.last = _; rw [(endC_t _ _).1]; rfl⟩
    · exact fun h => by cases h
theorem new_inv {zones blocks ttl : Int} (hz : 1 ≤ zones ∧ zones ≤ 64) (hb : 1 ≤ blocks ∧ blocks ≤ 1099511627776) (ht : 1 ≤ ttl ∧ ttl ≤ 1073741824) : Inv (newC zones blocks ttl) := by
  refine ⟨rfl, ?_, ht.1, ht.2, hz.1, hz.2, fun x hx => (by cases hx), fun k o p e => ?_, fun f hf => (by cases hf), List.Pairwise.nil⟩
  · refine Spa.okS_of (n := blocks) ⟨rfl, by show (0 : Int) < blocks; omega, rfl⟩ (fun s hs => ?_) (by omega) hb.2
    rw [List.mem_singleton.1 hs]; rfl
  · left
    have h2 : Spa.who [⟨0, blocks, -1, 0⟩] k = some (o, p) := e
    rw [Spa.who_cons] at h2
    split at h2
    · injection h2 with h2; injection h2 with h2; exact h2.symm
    · cases h2
theorem new_bd {zones blocks ttl : Int} (hb : blocks ≤ 400000) : Bd (newC zones blocks ttl) 0 := ⟨by show (0 : Int) ≤ _; omega, Nat.le_refl _, Nat.le_refl _, by show (0 : Int) ≤ _; omega, hb⟩
/-! ### One behind the other -/
theorem all_inv (l : List Ev) {c : Cv} (h : Inv c) : Inv (allC c l).1 := by
  induction l generalizing c with
  | nil => exact h
  | cons e r ih => exact ih (do_inv h e)
theorem all_snoc (l : List Ev) (c : Cv) (e : Ev) : allC c (l ++ [e]) = ((doC (allC c l).1 e).1, (allC c l).2 ++ [(doC (allC c l).1 e).2]) := by
  induction l generalizing c with
  | nil => rfl
  | cons x r ih => rw [List.cons_append]; show ((allC (doC c x).1 (r ++ [e])).1, _ :: (allC (doC c x).1 (r ++ [e])).2) = _; rw [ih]; rfl
theorem all_len (l : List Ev) (c : Cv) : (allC c l).2.length = l.length := by
  induction l generalizing c with
  | nil => rfl
  | cons x r ih => show (_ :: (allC _ r).2).length = _; rw [List.length_cons, ih, List.length_cons]
theorem all_bd (l : List Ev) {c : Cv} (h : Inv c) {N : Nat} (hb : Bd c N) (hn : ∀ e ∈ l, e.now ≤ 1152921504606846976) : Bd (allC c l).1 (N + l.length) := by
  induction l generalizing c N with
  | nil => exact hb
  | cons e r ih =>
    have := ih (do_inv h e) (do_bd h hb (hn e (by simp))) (fun x hx => hn x (by simp [hx]))
    rw [List.length_cons, show N + (r.length + 1) = N + 1 + r.length by omega]
    exact this
end Coo
end Go.Proofs.YtmflngclncidjaaGreat
/-
  WALKS: which owners may be, where spans end, whether spans may be: span's own tests.
-/
namespace Go.Proofs.YtmflngclncidjaaGreat
open Go.RowKit Mem
namespace Spa

theorem take_split {l : List Sp} {k : Nat} {x : Sp} (hx : l[k]? = some x) : l = l.take k ++ x :: l.drop (k + 1) := by
  obtain ⟨h, rfl⟩ := List.getElem?_eq_some_iff.1 hx
  rw [← List.drop_eq_getElem_cons h, List.take_append_drop]
theorem take_snoc {l : List Sp} {k : Nat} {x : Sp} (hx : l[k]? = some x) : l.take (k + 1) = l.take k ++ [x] := by
  rw [List.take_add_one, hx]; rfl
theorem okS_bad {l : List Sp} {k : Nat} {x : Sp} (hx : l[k]? = some x) (h : spB (endF 0 (l.take k)) x = false) : okS l = false := by
  unfold okS
  rw [take_split hx, goodF_app]
  simp only [goodF, h, Bool.false_and, Bool.and_false]
theorem good_step {l : List Sp} {k : Nat} {x : Sp} (hx : l[k]? = some x) (hg : goodF 0 (l.take k) = true) (h : spB (endF 0 (l.take k)) x = true) : endF 0 (l.take (k + 1)) = x.to ∧ goodF 0 (l.take (k + 1)) = true := by
  rw [take_snoc hx, goodF_app, endF_app]
  exact ⟨rfl, by simp only [goodF, hg, h, Bool.and_self]⟩

set_option maxRecDepth 100000 in
set_option maxHeartbeats 800000 in
theorem host_any (h : Int) (w : World) : Calls Tryz.prog 108 #[.int .i64 h] w fun e w' => e = .returned (.bool (hostB h)) ∧ w' = w := by
  unfold hostB
  rcases e1 : decide (0 ≤ h)
  · go_enter Tryz.func108, Tryz.ntmps108
    go_wp2
    go_ret
    exact ⟨rfl, rfl⟩
  · rcases e2 : decide (h < 8)
    · go_enter Tryz.func108, Tryz.ntmps108
      go_wp2
      go_ret
      exact ⟨rfl, rfl⟩
    · go_enter Tryz.func108, Tryz.ntmps108
      go_wp2
      go_ret
      exact ⟨rfl, rfl⟩

set_option maxRecDepth 100000 in
set_option maxHeartbeats 800000 in
theorem may_any (o p : Int) (w : World) : Calls Tryz.prog 90 #[.int .i64 o, .int .i64 p] w fun e w' => e = .returned (.bool (mayOwn o p)) ∧ w' = w := by
  have HH := fun w => Lib.hid (host_any o w)
  unfold mayOwn
  rcases e1 : (o == -1)
  · rcases e2 : hostB o
    · rw [e2] at HH
      go_enter Tryz.func90, Tryz.ntmps90
      go_wp2_with (go_at_call 108; refine (HH _).out.mono ?_; rintro e w2 ⟨rfl, rfl⟩)
      go_ret
      exact ⟨rfl, rfl⟩
    · rw [e2] at HH
      rcases e3 : decide (1 ≤ p)
      · go_enter Tryz.func90, Tryz.ntmps90
        go_wp2_with (go_at_call 108; refine (HH _).out.mono ?_; rintro e w2 ⟨rfl, rfl⟩)
        go_ret
        exact ⟨rfl, rfl⟩
      · go_enter Tryz.func90, Tryz.ntmps90
        go_wp2_with (go_at_call 108; refine (HH _).out.mono ?_; rintro e w2 ⟨rfl, rfl⟩)
        go_ret
        exact ⟨rfl, rfl⟩
  · go_enter Tryz.func90, Tryz.ntmps90
    go_wp2
    go_ret
    exact ⟨rfl, rfl⟩

set_option maxRecDepth 100000 in
set_option maxHeartbeats 800000 in
theorem end_any {A : Option Addr} {n c : Nat} {l : List Sp} {w : World} (h : RowL w A n c l) (h0 : 0 < n) :
    Calls Tryz.prog 87 #[.slice A n c] w fun e w' => e = .returned (.int .i64 (endF 0 l)) ∧ Below w.heap.size w w' := by
  have hbig := h.big
  have hlen := h.len
  obtain ⟨k, rfl⟩ : ∃ k, n = k + 1 := ⟨n - 1, by omega⟩
  obtain ⟨x, hx⟩ := h.get (i := k) (by omega)
  obtain ⟨b, o, hA, c0, c1, c2, c3⟩ := RowS.span_at h hx
  have he : Hid (endF 0 l = x.to) := endF_last (by rw [List.getLast?_eq_getElem?, hlen]; simpa using hx)
  subst hA
  have hs : ((k + 1 : Nat) : Int) - 1 = (k : Int) := by omega
  have hk0 : (0 : Int) ≤ (k : Int) := by omega
  have hkn : (k : Int) < ((k + 1 : Nat) : Int) := by omega
  have hwr : IntKind.i64.wrap (k : Int) = (k : Int) := by rw [IntKind.wrap_i64]; omega
  clear h hx h0
  go_enter Tryz.func87, Tryz.ntmps87
  go_wp2_with fail
  go_ret
  exact ⟨by rw [he.out]; rfl, Below.refl _ _⟩

set_option maxRecDepth 100000 in
set_option maxHeartbeats 3200000 in
theorem check_any {A : Option Addr} {n c : Nat} {l : List Sp} {w : World} (h : RowL w A n c l) :
    Calls Tryz.prog 86 #[.slice A n c] w fun e w' => e = .returned (.int .i64 (errOf (okS l))) ∧ Below w.heap.size w w' := by
  have HR := Lib.hid h
  have hbig := h.big
  have hlen := Lib.hid h.len
  have HM := fun o p w => Lib.hid (may_any o p w)
  clear h
  have HB := Lib.hid (fun k x (hx : l[k]? = some x) h => okS_bad (l := l) hx h)
  have HO : Hid (okS l = (goodF 0 l && (!l.isEmpty && decide (endF 0 l ≤ 1099511627776)))) := rfl
  generalize okS l = ok at *
  go_enter Tryz.func86, Tryz.ntmps86
  go_wp2_with fail
  go_loopw [3, 5, 8] (fun s _ i wr => ∃ (k : Nat) (u : Int), i = .int .i64 k ∧ s = .int .i64 u ∧ k ≤ n ∧ Hid (Below w.heap.size w wr ∧ endF 0 (l.take k) = u ∧ goodF 0 (l.take k) = true)) (fun _ _ i _ => n - (intOf i).toNat)
  case atStart => exact ⟨0, 0, rfl, rfl, by omega, Below.refl _ _, rfl, rfl⟩
  case round =>
    obtain ⟨k, u, rfl, rfl, hk, hH⟩ := hrel
    by_cases hlt : k < n
    · obtain ⟨x, hx⟩ := HR.out.get hlt
      obtain ⟨b, o, hA, d0, d1, d2, d3⟩ := RowS.span_at (HR.out.below hH.out.1) hx
      subst hA
      have HX := Lib.hid hx
      have hk0 : (0 : Int) ≤ (k : Int) := by omega
      have hkn : (k : Int) < (n : Int) := by omega
      clear hx
      have A1 : Hid (Below wr.heap.size wr (wr.alloc (.cells #[.int .i64 x.fr, .int .i64 x.to, .int .i64 x.own, .int .i64 x.ep] 48))) := (Below.refl _ wr).alloc (Nat.le_refl _) _
      have B1 : Hid (LBox (wr.alloc (.cells #[.int .i64 x.fr, .int .i64 x.to, .int .i64 x.own, .int .i64 x.ep] 48)) wr.heap.size x) := Cells.new _ _ _
      obtain ⟨n0, n1, n2, n3⟩ := LBox.cells B1.out
      go_upto_region 5 with fail
      generalize wr.alloc (.cells #[.int .i64 x.fr, .int .i64 x.to, .int .i64 x.own, .int .i64 x.ep] 48) = w1 at *
      have L1 := Lib.hid (hH.out.1.trans (A1.out.mono hH.out.1.size))
      have HBAD : Hid (spB u x = false → ok = false) := by
        show _ → _
        intro hf
        exact HB.out k x HX.out (by rw [hH.out.2.1]; exact hf)
      have HSP : Hid (spB u x = (!(x.fr != u) && (!decide (x.to ≤ x.fr) && mayOwn x.own x.ep))) := by
        show _ = _
        unfold spB
        rw [show (x.fr == u) = !(x.fr != u) by simp [bne], show decide (x.fr < x.to) = !decide (x.to ≤ x.fr) by rw [Bool.eq_iff_iff]; simp]
      have HM1 := fun w => Lib.hid ((HM x.own x.ep w).out)
      clear d0 d1 d2 d3
      rcases f1 : (x.fr != u)
      · rcases f2 : decide (x.to ≤ x.fr)
        · rcases f3 : mayOwn x.own x.ep
          · rw [f3] at HM1
            have HBB := Lib.hid (HBAD.out (by rw [HSP.out, f1, f2, f3]; rfl))
            clear HBAD HSP f3 HM
            go_wp2_with (go_at_call 90; refine (HM1 _).out.mono ?_; rintro e w2 ⟨rfl, rfl⟩)
            go_ret
            exact ⟨by rw [HBB.out]; rfl, L1.out⟩
          · rw [f3] at HM1
            have HSS := Lib.hid (good_step HX.out hH.out.2.2 (by rw [hH.out.2.1, HSP.out, f1, f2, f3]; rfl))
            clear HBAD HSP f3 HM
            go_wp2_with (go_at_call 90; refine (HM1 _).out.mono ?_; rintro e w2 ⟨rfl, rfl⟩)
            go_roundw
            case rel => exact ⟨k + 1, x.to, by go_num, rfl, by omega, L1.out, HSS.out.1, HSS.out.2⟩
            case measure => simp [intOf]; omega
        · have HBB := Lib.hid (HBAD.out (by rw [HSP.out, f1, f2]; rfl))
          clear HBAD HSP HM
          go_wp2_with fail
          go_ret
          exact ⟨by rw [HBB.out]; rfl, L1.out⟩
      · have HBB := Lib.hid (HBAD.out (by rw [HSP.out, f1]; rfl))
        clear HBAD HSP HM
        go_wp2_with fail
        go_ret
        exact ⟨by rw [HBB.out]; rfl, L1.out⟩
    · have hkn : l.take k = l := List.take_of_length_le (by have := hlen.out; omega)
      have HK := Lib.hid hkn
      have hke : k = n := by omega
      subst hke
      have HE : Hid (ok = (!l.isEmpty && decide (u ≤ 1099511627776))) := by
        show _ = _
        have h1 := hH.out.2
        rw [HK.out] at h1
        rw [HO.out, h1.2, h1.1, Bool.true_and]
      clear hkn HB HM
      rcases Nat.eq_zero_or_pos k with h0 | h0
      · have hok : Hid (ok = false) := by
          show _ = _
          rw [HE.out]
          have : l = [] := List.eq_nil_of_length_eq_zero (by rw [hlen.out, h0])
          subst this; rfl
        subst h0
        go_wp2_with fail
        go_ret
        exact ⟨by rw [hok.out]; rfl, hH.out.1⟩
      · have hok : Hid (ok = decide (u ≤ 1099511627776)) := by
          show _ = _
          rw [HE.out]
          have : l.isEmpty = false := by
            rcases l with _ | ⟨a, r⟩
            · have := hlen.out; simp at this; omega
            · rfl
          rw [this]; rfl
        have hn0 : (k == 0) = false := by simp; omega
        have hnz : ¬ (k : Int) = 0 := by omega
        rcases f1 : decide (1099511627776 < u)
        · have HT := Lib.hid (hok.out.trans (decide_eq_true (by have := of_decide_eq_false f1; omega)))
          go_wp2_with fail
          go_ret
          exact ⟨by rw [HT.out]; rfl, hH.out.1⟩
        · have HT := Lib.hid (hok.out.trans (decide_eq_false (by have := of_decide_eq_true f1; omega)))
          go_wp2_with fail
          go_ret
          exact ⟨by rw [HT.out]; rfl, hH.out.1⟩
end Spa
end Go.Proofs.YtmflngclncidjaaGreat
/-
  WALKS: which owners may be, where spans end, whether spans may be: the document's tests.
-/
namespace Go.Proofs.YtmflngclncidjaaGreat
open Go.RowKit Mem
namespace Spa

theorem okS_far {l : List Sp} {k : Nat} {x : Sp} (hx : l[k]? = some x) (h : 1099511627776 < x.to) : okS l = false := by
  rcases e : okS l
  · rfl
  · obtain ⟨h1, -, -, h2⟩ := okS_iff.1 e
    have := h1.mem (List.mem_of_getElem? hx)
    omega

set_option maxRecDepth 100000 in
set_option maxHeartbeats 1600000 in
theorem owner_any (o p : Int) (w : World) : Calls Tryz.prog 24 #[.int .i64 o, .int .i64 p] w fun e w' => e = .returned (.bool (mayOwn o p)) ∧ w' = w := by
  unfold mayOwn hostB
  rcases e1 : (o == -1)
  · rcases e2 : decide (0 ≤ o)
    · go_enter Tryz.func24, Tryz.ntmps24
      go_wp2
      go_ret
      exact ⟨rfl, rfl⟩
    · rcases e3 : decide (o < 8)
      · go_enter Tryz.func24, Tryz.ntmps24
        go_wp2
        go_ret
        exact ⟨rfl, rfl⟩
      · rcases e4 : decide (1 ≤ p)
        · go_enter Tryz.func24, Tryz.ntmps24
          go_wp2
          go_ret
          exact ⟨rfl, rfl⟩
        · go_enter Tryz.func24, Tryz.ntmps24
          go_wp2
          go_ret
          exact ⟨rfl, rfl⟩
  · have ho : o = -1 := by simpa using e1
    subst ho
    rcases e2 : (p == 0)
    · go_enter Tryz.func24, Tryz.ntmps24
      go_wp2
      go_ret
      exact ⟨rfl, rfl⟩
    · go_enter Tryz.func24, Tryz.ntmps24
      go_wp2
      go_ret
      exact ⟨rfl, rfl⟩


set_option maxRecDepth 100000 in
set_option maxHeartbeats 3200000 in
theorem refCheck_any {A : Option Addr} {n c : Nat} {l : List Sp} {w : World} (h : RowL w A n c l) :
    Calls Tryz.prog 13 #[.slice A n c] w fun e w' => e = .returned (.int .i64 (errOf (okS l))) ∧ Below w.heap.size w w' := by
  have HR := Lib.hid h
  have hbig := h.big
  have hlen := Lib.hid h.len
  have HM := fun o p w => Lib.hid (owner_any o p w)
  clear h
  rcases Nat.eq_zero_or_pos n with h0 | h0
  · subst h0
    have : l = [] := List.eq_nil_of_length_eq_zero hlen.out
    subst this
    go_enter Tryz.func13, Tryz.ntmps13
    go_wp2_with fail
    go_ret
    exact ⟨rfl, Below.refl _ _⟩
  have HB := Lib.hid (fun k x (hx : l[k]? = some x) h => okS_bad (l := l) hx h)
  have HF := Lib.hid (fun k x (hx : l[k]? = some x) h => okS_far (l := l) hx h)
  have hE : l.isEmpty = false := by
    rcases l with _ | ⟨a, r⟩
    · have := hlen.out; simp at this; omega
    · rfl
  have HO : Hid (okS l = (goodF 0 l && decide (endF 0 l ≤ 1099511627776))) := by show _ = _; unfold okS; rw [hE]; rfl
  have hn0 : ((n : Int) == 0) = false := by simp; omega
  have hnz : ¬ (n : Int) = 0 := by omega
  clear hE
  generalize okS l = ok at *
  go_enter Tryz.func13, Tryz.ntmps13
  go_wp2_with fail
  go_loopw [3, 5, 11] (fun s _ i wr => ∃ (k : Nat) (u : Int), i = .int .i64 k ∧ s = .int .i64 u ∧ k ≤ n ∧ Hid (Below w.heap.size w wr ∧ endF 0 (l.take k) = u ∧ goodF 0 (l.take k) = true ∧ u ≤ 1099511627776)) (fun _ _ i _ => n - (intOf i).toNat)
  case atStart => exact ⟨0, 0, rfl, rfl, by omega, Below.refl _ _, rfl, rfl, by omega⟩
  case round =>
    obtain ⟨k, u, rfl, rfl, hk, hH⟩ := hrel
    by_cases hlt : k < n
    · obtain ⟨x, hx⟩ := HR.out.get hlt
      obtain ⟨b, o, hA, d0, d1, d2, d3⟩ := RowS.span_at (HR.out.below hH.out.1) hx
      subst hA
      have HX := Lib.hid hx
      have hk0 : (0 : Int) ≤ (k : Int) := by omega
      have hkn : (k : Int) < (n : Int) := by omega
      clear hx
      have A1 : Hid (Below wr.heap.size wr (wr.alloc (.cells #[.int .i64 x.fr, .int .i64 x.to, .int .i64 x.own, .int .i64 x.ep] 48))) := (Below.refl _ wr).alloc (Nat.le_refl _) _
      have B1 : Hid (LBox (wr.alloc (.cells #[.int .i64 x.fr, .int .i64 x.to, .int .i64 x.own, .int .i64 x.ep] 48)) wr.heap.size x) := Cells.new _ _ _
      obtain ⟨n0, n1, n2, n3⟩ := LBox.cells B1.out
      go_upto_region 7 with fail
      generalize wr.alloc (.cells #[.int .i64 x.fr, .int .i64 x.to, .int .i64 x.own, .int .i64 x.ep] 48) = w1 at *
      have L1 := Lib.hid (hH.out.1.trans (A1.out.mono hH.out.1.size))
      have HBAD : Hid (spB u x = false → ok = false) := by
        show _ → _
        intro hf
        exact HB.out k x HX.out (by rw [hH.out.2.1]; exact hf)
      have HSP : Hid (spB u x = (!(x.fr != u) && (!decide (x.to ≤ x.fr) && mayOwn x.own x.ep))) := by
        show _ = _
        unfold spB
        rw [show (x.fr == u) = !(x.fr != u) by simp [bne], show decide (x.fr < x.to) = !decide (x.to ≤ x.fr) by rw [Bool.eq_iff_iff]; simp]
      have HM1 := fun w => Lib.hid ((HM x.own x.ep w).out)
      clear d0 d1 d2 d3
      rcases f1 : (x.fr != u)
      · rcases f2 : decide (x.to ≤ x.fr)
        · rcases f4 : decide (1099511627776 < x.to)
          · have HLE := Lib.hid (of_decide_eq_false f4)
            rcases f3 : mayOwn x.own x.ep
            · rw [f3] at HM1
              have HBB := Lib.hid (HBAD.out (by rw [HSP.out, f1, f2, f3]; rfl))
              clear HBAD HSP f3 HM
              go_wp2_with (go_at_call 24; refine (HM1 _).out.mono ?_; rintro e w2 ⟨rfl, rfl⟩)
              go_ret
              exact ⟨by rw [HBB.out]; rfl, L1.out⟩
            · rw [f3] at HM1
              have HSS := Lib.hid (good_step HX.out hH.out.2.2.1 (by rw [hH.out.2.1, HSP.out, f1, f2, f3]; rfl))
              clear HBAD HSP f3 HM
              go_wp2_with (go_at_call 24; refine (HM1 _).out.mono ?_; rintro e w2 ⟨rfl, rfl⟩)
              go_roundw
              case rel => exact ⟨k + 1, x.to, by go_num, rfl, by omega, L1.out, HSS.out.1, HSS.out.2, by have := HLE.out; omega⟩
              case measure => simp [intOf]; omega
          · have HBB := Lib.hid (HF.out k x HX.out (of_decide_eq_true f4))
            clear HBAD HSP HM
            go_wp2_with fail
            go_ret
            exact ⟨by rw [HBB.out]; rfl, L1.out⟩
        · have HBB := Lib.hid (HBAD.out (by rw [HSP.out, f1, f2]; rfl))
          clear HBAD HSP HM
          go_wp2_with fail
          go_ret
          exact ⟨by rw [HBB.out]; rfl, L1.out⟩
      · have HBB := Lib.hid (HBAD.out (by rw [HSP.out, f1]; rfl))
        clear HBAD HSP HM
        go_wp2_with fail
        go_ret
        exact ⟨by rw [HBB.out]; rfl, L1.out⟩
    · have hkn : l.take k = l := List.take_of_length_le (by have := hlen.out; omega)
      have HE : Hid (ok = true) := by
        show _ = _
        have h1 := hH.out.2
        rw [hkn] at h1
        rw [HO.out, h1.2.1, h1.1, decide_eq_true h1.2.2]; rfl
      clear hkn HB HM HF
      go_wp2_with fail
      go_ret
      exact ⟨by rw [HE.out]; rfl, hH.out.1⟩
end Spa
end Go.Proofs.YtmflngclncidjaaGreat
/-
  ROWS OF SPANS OF ONE'S OWN, WRITTEN; what a call gave.
-/
namespace Go.Proofs.YtmflngclncidjaaGreat
open Go.RowKit Mem
namespace Spa

/-- One number of one span of a row of one's own is written. -/
theorem OwnsL.put {base : Nat} {w : World} {A : Option Addr} {n c : Nat} {l : List Sp} (h : OwnsL base w (.slice A n c) n l) {k : Nat} {x : Sp} (hx : l[k]? = some x) :
    ∃ g, A = some ⟨g, 0, none⟩ ∧ base ≤ g ∧ g < w.heap.size ∧ (w.cell? ⟨g, k * 4, none⟩ = some (.int .i64 x.fr) ∧ w.cell? ⟨g, k * 4 + 1, none⟩ = some (.int .i64 x.to) ∧ w.cell? ⟨g, k * 4 + 2, none⟩ = some (.int .i64 x.own) ∧ w.cell? ⟨g, k * 4 + 3, none⟩ = some (.int .i64 x.ep)) ∧ (∀ i, w.frozen? ⟨g, i, none⟩ = false) ∧
      ∀ (j : Nat) (v : Value) (y : Sp), j < 4 → cellsL y = (cellsL x).set j v → OwnsL base (w.setCell ⟨g, k * 4 + j, none⟩ v) (.slice A n c) n (l.set k y) := by
  have hk := (List.getElem?_eq_some_iff.1 hx).1
  rcases h.1.2 with ⟨-, h1⟩ | ⟨g, cap, cur, e, hb, hg, hnc, hcm, hs, ht⟩
  · have := h.2; omega
  · injection e with e1 _ e3
    subst e1 e3
    have hcell : ∀ j u, (cellsL x)[j]? = some u → w.cell? ⟨g, k * 4 + j, none⟩ = some u := fun j u hu => by
      have := World.ownsRow.cells (g := g) h.1 rfl (k * 4 + j) u (flat_get l k j x u hx hu)
      rwa [Mem.add_none, Nat.zero_add] at this
    refine ⟨g, rfl, hb, (Array.getElem?_eq_some_iff.1 hg).1, ⟨hcell 0 _ rfl, hcell 1 _ rfl, hcell 2 _ rfl, hcell 3 _ rfl⟩, fun i => frozen_of hg i, fun j v y hj hy => ⟨?_, by rw [List.length_set]; exact h.2⟩⟩
    have hst := (World.ownsRow.stored h.1 (k * 4 + j) v).1
    have he : (l.flatMap cellsL).set (k * 4 + j) v = (l.set k y).flatMap cellsL := by
      apply List.ext_getElem?
      intro i
      rw [List.getElem?_set, flat_len]
      have hl4 : ((l.set k y).flatMap cellsL).length = l.length * 4 := by rw [flat_len, List.length_set]
      by_cases hi : k * 4 + j = i
      · subst hi
        rw [if_pos rfl, if_pos (by omega)]
        exact (flat_get _ k j y _ (by simp [hk]) (by rw [hy, List.getElem?_set, if_pos rfl, if_pos (by rw [span_len]; exact hj)])).symm
      · rw [if_neg hi]
        rcases Nat.lt_or_ge i (l.length * 4) with h1 | h1
        · obtain ⟨u, hu⟩ : ∃ u, (l.flatMap cellsL)[i]? = some u := ⟨_, List.getElem?_eq_getElem (by rw [flat_len]; exact h1)⟩
          obtain ⟨z, hz, hzu⟩ := flat_inv l i u hu
          rw [hu]
          by_cases hik : k = i / 4
          · subst hik
            have hxz := hx.symm.trans hz
            injection hxz with hxz
            subst hxz
            have := flat_get (l.set (i / 4) y) (i / 4) (i % 4) y u (by simp [hk]) (by
              rw [hy, List.getElem?_set, if_neg (by omega)]; exact hzu)
            rw [show i / 4 * 4 + i % 4 = i by omega] at this
            exact this.symm
          · have := flat_get (l.set k y) (i / 4) (i % 4) z u (by rw [List.getElem?_set, if_neg hik]; exact hz) hzu
            rw [show i / 4 * 4 + i % 4 = i by omega] at this
            exact this.symm
        · rw [List.getElem?_eq_none (by rw [flat_len]; exact h1), List.getElem?_eq_none (by rw [hl4]; exact h1)]
    rw [← he]
    exact hst
theorem set_at {l : List Sp} {k : Nat} (h : k < l.length) (y : Sp) : (l.set k y)[k]? = some y := by simp [h]
theorem OwnsL.put_ {base g : Nat} {w : World} {n c : Nat} {l : List Sp} (h : OwnsL base w (.slice (some ⟨g, 0, none⟩) n c) n l) {k : Nat} {x : Sp} (hx : l[k]? = some x) (j : Nat) (v : Value) (y : Sp) (hj : j < 4) (hy : cellsL y = (cellsL x).set j v) :
    OwnsL base (w.setCell ⟨g, k * 4 + j, none⟩ v) (.slice (some ⟨g, 0, none⟩) n c) n (l.set k y) := by
  obtain ⟨g', hA, -, -, -, -, h0⟩ := OwnsL.put h hx
  injection hA with hA
  injection hA with hA
  subst hA
  exact h0 j v y hj hy
def set4W (w : World) (g k : Nat) (y : Sp) : World := (((w.setCell ⟨g, k * 4, none⟩ (.int .i64 y.fr)).setCell ⟨g, k * 4 + 1, none⟩ (.int .i64 y.to)).setCell ⟨g, k * 4 + 2, none⟩ (.int .i64 y.own)).setCell ⟨g, k * 4 + 3, none⟩ (.int .i64 y.ep)
/-- A span of a row of one's own is written whole. -/
theorem OwnsL.put4 {base g : Nat} {w : World} {n c : Nat} {l : List Sp} (h : OwnsL base w (.slice (some ⟨g, 0, none⟩) n c) n l) {k : Nat} {x : Sp} (hx : l[k]? = some x) (y : Sp) : OwnsL base (set4W w g k y) (.slice (some ⟨g, 0, none⟩) n c) n (l.set k y) := by
  have hk := (List.getElem?_eq_some_iff.1 hx).1
  have e0 := OwnsL.put_ h hx 0 (.int .i64 y.fr) ⟨y.fr, x.to, x.own, x.ep⟩ (by omega) rfl
  rw [Nat.add_zero] at e0
  have e1 := OwnsL.put_ e0 (set_at hk _) 1 (.int .i64 y.to) ⟨y.fr, y.to, x.own, x.ep⟩ (by omega) rfl
  rw [List.set_set] at e1
  have e2 := OwnsL.put_ e1 (set_at hk _) 2 (.int .i64 y.own) ⟨y.fr, y.to, y.own, x.ep⟩ (by omega) rfl
  rw [List.set_set] at e2
  have e3 := OwnsL.put_ e2 (set_at hk _) 3 (.int .i64 y.ep) y (by omega) rfl
  rw [List.set_set] at e3
  exact e3
theorem belowk {B g : Nat} {a w : World} (h : Below B a w) (hg : B ≤ g) (i : Nat) (v : Value) : Below B a (w.setCell ⟨g, i, none⟩ v) := h.setCell (p := ⟨g, i, none⟩) hg v

/-- One span, laid as a row of one's own. -/
theorem OwnsL.built {base : Nat} {w : World} (x : Sp) (hb : base ≤ w.heap.size) : OwnsL base (w.alloc (.cells #[.int .i64 x.fr, .int .i64 x.to, .int .i64 x.own, .int .i64 x.ep] 48)) (.slice (some ⟨w.heap.size, 0, none⟩) 1 1) 1 [x] :=
  ⟨⟨by simp [cellsL], .inr ⟨w.heap.size, 1, _, rfl, hb, heap_alloc_new w _, Nat.le_refl _, by unfold maxLen; omega, rfl, by simp [cellsL]⟩⟩, rfl⟩
/-- Spans of its own and an error, as a call gave them. -/
def GaveS (w : World) (r : List Sp × Int) (en : Ending) (w' : World) : Prop :=
  ∃ B d, en = .returned (.tuple #[.slice B r.1.length d, .int .i64 r.2]) ∧ OwnsL w.heap.size w' (.slice B r.1.length d) r.1.length r.1 ∧ Below w.heap.size w w'
theorem GaveS.none_ {w w' : World} {e : Int} (hb : Below w.heap.size w w') : GaveS w ([], e) (.returned (.tuple #[.slice none 0 0, .int .i64 e])) w' := ⟨none, 0, rfl, OwnsL.nil _ _, hb⟩
theorem GaveS.of {w w' : World} {B : Option Addr} {m d : Nat} {l : List Sp} {e : Int} (h : OwnsL w.heap.size w' (.slice B m d) m l) (_hm : m ≤ 140737488351232) (hb : Below w.heap.size w w') : GaveS w (l, e) (.returned (.tuple #[.slice B m d, .int .i64 e])) w' := by
  have := h.2
  subst this
  exact ⟨B, d, rfl, h, hb⟩
/-! ### The tests, once it is known what they tell -/
theorem check_okT {A : Option Addr} {n c : Nat} {l : List Sp} {w : World} (h : RowL w A n c l) (hok : okS l = true) :
    Calls Tryz.prog 86 #[.slice A n c] w fun e w' => e = .returned (.int .i64 0) ∧ Below w.heap.size w w' := by
  have := check_any h
  rw [hok] at this
  exact this
theorem check_badT {A : Option Addr} {n c : Nat} {l : List Sp} {w : World} (h : RowL w A n c l) (hok : okS l = false) :
    Calls Tryz.prog 86 #[.slice A n c] w fun e w' => e = .returned (.int .i64 1) ∧ Below w.heap.size w w' := by
  have := check_any h
  rw [hok] at this
  exact this
theorem refCheck_okT {A : Option Addr} {n c : Nat} {l : List Sp} {w : World} (h : RowL w A n c l) (hok : okS l = true) :
    Calls Tryz.prog 13 #[.slice A n c] w fun e w' => e = .returned (.int .i64 0) ∧ Below w.heap.size w w' := by
  have := refCheck_any h
  rw [hok] at this
  exact this
theorem refCheck_badT {A : Option Addr} {n c : Nat} {l : List Sp} {w : World} (h : RowL w A n c l) (hok : okS l = false) :
    Calls Tryz.prog 13 #[.slice A n c] w fun e w' => e = .returned (.int .i64 1) ∧ Below w.heap.size w w' := by
  have := refCheck_any h
  rw [hok] at this
  exact this
def joinP (l : List Sp) : List Sp × Int := bif okS l then (joinS l, 0) else ([], 1)
end Spa
end Go.Proofs.YtmflngclncidjaaGreat
