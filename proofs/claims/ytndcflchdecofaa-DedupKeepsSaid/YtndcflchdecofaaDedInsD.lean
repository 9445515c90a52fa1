/-
  A WALK OVER slices.Insert: one into a row of one's own. (Written by gen_dedins.py.)
-/
import Derived.Test.YtndcflchdecofaaDedMem
import Derived.Test.YtndcflchdecofaaDedInsC
namespace Go.Proofs.Ytndcflchdecofaa
open Go.RowKit Mem Box
namespace Ded

theorem run_tailD (A : Option Addr) (n c k : Nat) (hk : k ≤ n) (w : World) : (Instr.slice 49 (.slice A n c) (some (.int .i64 (k : Int))) none none).run Try.prog w = .ok (.slice (if c = k then A else A.map (·.add (k * 7))) (n - k) (c - k)) w := by
  obtain ⟨i, hi, hz0, hz1, hz2⟩ := info_parts info_said
  have h1 : (k : Int) ≤ (n : Int) := by omega
  have h0 : (0 : Int) ≤ (k : Int) := by omega
  simp [Instr.slice, Instr.sliceBounds, run_sliceBound, h0, h1, run_underlying Try.underlying49, sizeOf, typeInfo, hi, hz1]
theorem run_headD (A : Option Addr) (n c k : Nat) (h : k ≤ c) (w : World) : (Instr.slice 49 (.slice A n c) none (some (.int .i64 (k : Int))) none).run Try.prog w = .ok (.slice A k c) w := by
  obtain ⟨i, hi, hz0, hz1, hz2⟩ := info_parts info_said
  have e : (if c = 0 then A else A.map (·.add 0)) = A := by
    split
    · rfl
    · cases A with
      | none => rfl
      | some x => simp [Addr.add]
  have h1 : (k : Int) ≤ (c : Int) := by omega
  have h0 : (0 : Int) ≤ (k : Int) := by omega
  simp [Instr.slice, Instr.sliceBounds, run_sliceBound, h0, h1, run_underlying Try.underlying49, sizeOf, typeInfo, hi, e]

/-- copy of m leases into a block of one's own. -/
theorem run_copyD (w : World) (ty : TypeId) (g o dLen dCap : Nat) (a : Addr) (sLen sCap : Nat) (cur : List Value) (t : TypeId) (cs : List Value) (m : Nat)
    (hg : Cells w g t cur.toArray) (hm : m = Nat.min sLen dLen) (hn : cs.length = m * 7)
    (hsrc : ∀ j v, cs[j]? = some v → w.cell? (a.add j) = some v) (hfit : o + cs.length ≤ cur.length) (h1 : ∀ v ∈ cs, v.oneCell' = true) :
    (Builtin.copy_ #[49, 49] ty #[.slice (some ⟨g, o, none⟩) dLen dCap, .slice (some a) sLen sCap]).run Try.prog w = .ok (goInt m) (w.setRow g (splice cur o cs).toArray) := by
  obtain ⟨i, hi, hz0, hz1, hz2⟩ := info_parts info_said
  have hl := run_loadCells_list (P := Try.prog) w a cs hsrc
  have hst := run_storeCells_at Try.prog g o t cs 0 cur.toArray w hg (by simpa using hfit) h1
  rw [hn] at hl
  simp [Builtin.copy_, run_underlying Try.underlying49, Builtin.lenOf, Builtin.firstCells, sizeOf, typeInfo, hi, hz1, ← hm, hl, hst, splice, List.append_assoc]

theorem wp_copyD {w : World} {o : Oper} {a : Act} {K : Act → World → Prop} {Q : Exit → Act → World → Prop} (d s : Operand)
    (ho : o.op = .call { callee := .builtin .copy, args := #[d, s], argTypes := #[49, 49] }) {v u : Value} (hd : a.eval d = v) (hs : a.eval s = u) {m : Value} {w' : World}
    (hr : (Builtin.copy_ #[49, 49] o.type #[v, u]).run Try.prog w = .ok m w') (h : K (a.put o.dst m) w') : o.wp Try.prog a w K Q := by
  unfold Oper.wp execOp
  simp only [ho, resolve, invoke, builtin, Sem.run_bind, Sem.run_pure, Result.andThen_ok, List.map_toArray, List.map_cons, List.map_nil, hd, hs, hr]
  exact h
theorem wpList_copyD {w : World} {ops : Array Oper} {rest : List Oper} {o : Oper} {a : Act} {Q : Exit → Act → World → Prop} (hgd : o.guard = none) (d s : Operand)
    (ho : o.op = .call { callee := .builtin .copy, args := #[d, s], argTypes := #[49, 49] }) {v u : Value} (hd : a.eval d = v) (hs : a.eval s = u) {m : Value} {w' : World}
    (hr : (Builtin.copy_ #[49, 49] o.type #[v, u]).run Try.prog w = .ok m w') (h : wpList Try.prog ops Q rest (a.put o.dst m) w') : wpList Try.prog ops Q (o :: rest) a w :=
  wpList_plain hgd fun _ hK => wp_copyD d s ho hd hs hr (hK _ _ h)

set_option maxRecDepth 100000 in
set_option maxHeartbeats 3200000 in
theorem insert_endD {base : Nat} {w : World} {A : Option Addr} {n c : Nat} {l : List Dx} {q : Nat} {x : Dx} (h : OwnS.Owns cellsD 7 56 base w (.slice A n c) n l) (hx : DBox w q x) (hbase : base ≤ w.heap.size) (hn : n ≤ 1000000) :
    Calls Try.prog 40 #[.slice A n c, .int .i64 n, .slice (some ⟨q, 0, none⟩) 1 1] w fun e w' => (∃ B d, e = .returned (.slice B (n + 1) d) ∧ OwnS.Owns cellsD 7 56 base w' (.slice B (n + 1) d) (n + 1) (l ++ [x]) ∧ OwnS.New w (Value.slice A n c) (Value.slice B (n + 1) d)) ∧ w.grownBy w' (Value.slice A n c).ownBlock := by
  have H := Lib.hid h
  have HX := Lib.hid hx
  have hsl := fun w => run_tailD A n c n (Nat.le_refl _) w
  obtain ⟨V, hV⟩ : ∃ V, (Value.slice (if c = n then A else A.map (·.add (n * 7))) (n - n) (c - n)) = V := ⟨_, rfl⟩
  rw [hV] at hsl
  clear h hx hV
  go_enter Try.func40, Try.ntmps40
  go_wp2_with (at_builtin
               refine OwnS.wpList_append fitD Try.underlying49 info_said rfl (by omega) rfl (.tmp 23) (.tmp 24) rfl rfl base (.slice A n c) n l rfl H.out _ 1 1 [x] rfl (OwnS.row_one fitD HX.out) (by omega) hbase ?_
               intro A' c' w' h1 h2 h3
               have O := Lib.hid h1
               have B := Lib.hid h2
               have NW : Hid (OwnS.New w (Value.slice A n c) (Value.slice A' (n + 1) c')) := h3.imp id (fun h k hk => by rw [h] at hk; injection hk with hk; omega)
               clear h1 h2 h3)
  go_ret
  exact ⟨⟨_, _, rfl, O.out, NW.out⟩, B.out⟩

set_option maxRecDepth 100000 in
set_option maxHeartbeats 6400000 in
theorem insert_roomD {base : Nat} {w : World} {g n c : Nat} {l : List Dx} {i q : Nat} {x : Dx} (h : OwnS.Owns cellsD 7 56 base w (.slice (some ⟨g, 0, none⟩) n c) n l) (hi : i < n) (hroom : n + 1 ≤ c) (hx : DBox w q x) (hq : q ≠ g) (_hbase : base ≤ w.heap.size) (hn : n ≤ 1000000) :
    Calls Try.prog 40 #[.slice (some ⟨g, 0, none⟩) n c, .int .i64 i, .slice (some ⟨q, 0, none⟩) 1 1] w fun e w' => (∃ B d, e = .returned (.slice B (n + 1) d) ∧ OwnS.Owns cellsD 7 56 base w' (.slice B (n + 1) d) (n + 1) (insP l i x) ∧ OwnS.New w (Value.slice (some ⟨g, 0, none⟩) n c) (Value.slice B (n + 1) d)) ∧ w.grownBy w' (Value.slice (some ⟨g, 0, none⟩) n c).ownBlock := by
  obtain ⟨g', cur0, hA, hbg, hcur, hnc, hcm, hsz, htk⟩ := h.place (by omega)
  injection hA with hA
  injection hA with hA
  subst hA
  have hll := h.2
  obtain ⟨cur, rfl⟩ : ∃ cur : List Value, cur0 = cur.toArray := ⟨cur0.toList, by simp⟩
  simp only [List.size_toArray] at hsz htk
  obtain ⟨X1, hX1⟩ : ∃ X1, X1 = (l.take i).flatMap cellsD := ⟨_, rfl⟩
  obtain ⟨X2, hX2⟩ : ∃ X2, X2 = (l.drop i).flatMap cellsD := ⟨_, rfl⟩
  obtain ⟨R, hR⟩ : ∃ R, R = cur.drop (n * 7) := ⟨_, rfl⟩
  obtain ⟨Y, hY⟩ : ∃ Y, Y = cellsD x := ⟨_, rfl⟩
  have h12 : l.flatMap cellsD = X1 ++ X2 := by rw [hX1, hX2, ← List.flatMap_append, List.take_append_drop]
  have hcurE : cur = X1 ++ X2 ++ R := by rw [← h12, ← htk, hR, List.take_append_drop]
  have l1 : X1.length = i * 7 := by rw [hX1, OwnS.flat_len fitD, List.length_take]; omega
  have l2 : X2.length = (n - i) * 7 := by rw [hX2, OwnS.flat_len fitD, List.length_drop, hll]
  have lR : 7 ≤ R.length := by rw [hR, List.length_drop, hsz]; omega
  have lY : Y.length = 7 := by rw [hY]; rfl
  have hgw := Cells.lt hcur
  have hqw := Cells.lt hx
  have C1 : ∀ W, Cells W g 56 cur.toArray → (Builtin.copy_ #[49, 49] 3 #[.slice (some ⟨g, (i + 1) * 7, none⟩) (n - i) (c - (i + 1)), .slice (some ⟨g, i * 7, none⟩) (n + 1 - i) (c - i)]).run Try.prog W = .ok (goInt (n - i : Nat)) (W.setRow g (splice cur ((i + 1) * 7) X2).toArray) := fun W hW =>
    run_copyD W _ g ((i + 1) * 7) _ _ ⟨g, i * 7, none⟩ _ _ cur _ X2 (n - i) hW (by simp only [Nat.min_def]; split <;> omega) l2
      (fun j v hj => by
        rw [Mem.add_none, Cells.cell hW, List.getElem?_toArray, hcurE, List.append_assoc, List.getElem?_append_right (by rw [l1]; omega), l1, List.getElem?_append_left (by rw [show i * 7 + j - i * 7 = j by omega]; exact (List.getElem?_eq_some_iff.1 hj).1), show i * 7 + j - i * 7 = j by omega]
        exact hj)
      (by rw [l2, hsz]; omega) (by rw [hX2]; exact OwnS.flat_one fitD _)
  obtain ⟨cur1, hc1⟩ : ∃ cur1, cur1 = splice cur ((i + 1) * 7) X2 := ⟨_, rfl⟩
  rw [← hc1] at C1
  have s1 : cur1.length = c * 7 := by rw [hc1, OwnS.len_splice _ _ _ (by rw [l2, hsz]; omega), hsz]
  have C2 : ∀ W, Cells W g 56 cur1.toArray → DBox W q x → (Builtin.copy_ #[49, 49] 3 #[.slice (some ⟨g, i * 7, none⟩) (n + 1 - i) (c - i), .slice (some ⟨q, 0, none⟩) 1 1]).run Try.prog W = .ok (goInt (1 : Nat)) (W.setRow g (splice cur1 (i * 7) Y).toArray) := fun W hW hq =>
    run_copyD W _ g (i * 7) _ _ ⟨q, 0, none⟩ _ _ cur1 _ Y 1 hW (by simp only [Nat.min_def]; split <;> omega) (by rw [lY])
      (fun j v hj => by rw [Mem.add_none, Nat.zero_add, Cells.cell hq]; rw [hY] at hj; simpa [cellsD, Net.cellsM] using hj)
      (by rw [lY, s1]; omega) (by rw [hY]; exact fitD.one x)
  obtain ⟨cur2, hc2⟩ : ∃ cur2, cur2 = splice cur1 (i * 7) Y := ⟨_, rfl⟩
  rw [← hc2] at C2
  have s2 : cur2.length = c * 7 := by rw [hc2, OwnS.len_splice _ _ _ (by rw [lY, s1]; omega), s1]
  have hfin : cur2 = X1 ++ Y ++ X2 ++ R.drop 7 := by
    rw [hc2, hc1, hcurE, show (i + 1) * 7 = i * 7 + 7 by omega]
    exact OwnS.splice_in X1 X2 R Y (i * 7) 7 l1 lY lR
  have FIN : Hid (∀ W, Cells W g 56 cur2.toArray → OwnS.Owns cellsD 7 56 base W (.slice (some ⟨g, 0, none⟩) (n + 1) c) (n + 1) (insP l i x)) := by
    show ∀ _, _
    intro W hW
    unfold insP
    refine OwnS.Owns.of_cells fitD hW hbg hroom hcm s2 ?_ (by simp; omega)
    rw [hfin, List.take_append_of_le_length (by simp only [List.length_append, l1, lY, l2]; omega), List.take_of_length_le (by simp only [List.length_append, l1, lY, l2]; omega), List.flatMap_append, List.flatMap_append, hX1, hY, hX2]
    simp
  have CU := Lib.hid hcur
  have BX := Lib.hid hx
  have HC1 := Lib.hid C1
  have HC2 := Lib.hid C2
  have hov : ∀ W, Cells W g 56 cur.toArray → DBox W q x → ∀ lb cb, (callFunc 49 #[.slice (some ⟨q, 0, none⟩) 1 1, .slice (some ⟨g, (i + 1) * 7, none⟩) lb cb]).run Try.prog W = .ok (.value (.bool false)) W := fun W hW hq' lb cb => by
    rw [run_callFunc_extern Try.func49 (by kernel_rfl) (by kernel_rfl) (by kernel_rfl) (e := Extern.SlicesOverlaps.overlaps #[49, 49] #[4]) (by kernel_rfl),
      Lib.run_overlaps_apart W 49 4 56 Try.underlying49 7 Try.sizeOf56 ⟨q, 0, none⟩ ⟨g, (i + 1) * 7, none⟩ 1 1 lb cb hq 56 56 7 cur.length (by have := hq'; unfold DBox Cells at this; simp [World.shape?, this]) (by have := hW; unfold Cells at this; simp [World.shape?, this]) (by omega) (Cells.frozen hq' _) (Cells.frozen hq' _)]
    rfl
  have HOV := Lib.hid hov
  have hsl := fun w => run_tailD (some ⟨g, 0, none⟩) n c i (by omega) w
  rw [if_neg (by omega)] at hsl
  simp only [Option.map_some, Mem.add_none] at hsl
  rw [Nat.zero_add] at hsl
  have hsl2 : ∀ w, (Instr.slice 49 (.slice (some ⟨g, 0, none⟩) (n + 1) c) (some (.int .i64 ((i : Int) + 1))) none none).run Try.prog w = .ok (.slice (some ⟨g, (i + 1) * 7, none⟩) (n - i) (c - (i + 1))) w := by
    intro w
    have := run_tailD (some ⟨g, 0, none⟩) (n + 1) c (i + 1) (by omega) w
    rw [if_neg (by omega), show n + 1 - (i + 1) = n - i by omega] at this
    simp only [Option.map_some, Mem.add_none, Nat.zero_add] at this
    exact this
  have hsl3 : ∀ w, (Instr.slice 49 (.slice (some ⟨g, 0, none⟩) (n + 1) c) (some (.int .i64 (i : Int))) none none).run Try.prog w = .ok (.slice (some ⟨g, i * 7, none⟩) (n + 1 - i) (c - i)) w := by
    intro w
    have := run_tailD (some ⟨g, 0, none⟩) (n + 1) c i (by omega) w
    rw [if_neg (by omega)] at this
    simp only [Option.map_some, Mem.add_none, Nat.zero_add] at this
    exact this
  have hgn0 : ¬ ((i : Int) = (n : Int)) := by omega
  have hle : ¬ ((c : Int) < (n : Int) + 1) := by omega
  have hw2 : IntKind.i64.wrap ((i : Int) + 1) = (i : Int) + 1 := by rw [IntKind.wrap_i64]; omega
  clear C1 C2 h hcur hx hov hfin hc1 hc2 hcurE h12 htk hX1 hX2 hR hY
  have OV1 := HOV.out w CU.out BX.out
  go_enter Try.func40, Try.ntmps40
  go_upto_region 15 with (simp only [OV1])
  clear OV1
  refine wp_region_held_drew (S := fun _ => True) (by kernel_rfl) trivial (fun hHeld => ?_)
  (first | (refine Reg.take 0 (v := ?_) rfl (by kernel_rfl) (by kernel_rfl) (by kernel_rfl) (fun _ _ _ h => h) (Or.inl ⟨by rfl, ?_⟩) (by assumption) ?_; rotate_left; (focus ((intro W hSW); (try dsimp only at hSW); (try go_split_ands); go_simp; (try (with_reducible rfl)); done))) | (refine Reg.take 0 (v := undef) rfl (by kernel_rfl) (by kernel_rfl) (by kernel_rfl) (fun _ _ _ h => h) (Or.inr ⟨by rfl, rfl⟩) (by assumption) ?_))
  (try simp only [Act.put, List.setIfInBounds_toArray, List.set_cons_zero, List.set_cons_succ])
  (first | (refine Reg.take 1 (v := ?_) rfl (by kernel_rfl) (by kernel_rfl) (by kernel_rfl) (fun _ _ _ h => h) (Or.inl ⟨by rfl, ?_⟩) (by assumption) ?_; rotate_left; (focus ((intro W hSW); (try dsimp only at hSW); (try go_split_ands); go_simp; (try (with_reducible rfl)); done))) | (refine Reg.take 1 (v := undef) rfl (by kernel_rfl) (by kernel_rfl) (by kernel_rfl) (fun _ _ _ h => h) (Or.inr ⟨by rfl, rfl⟩) (by assumption) ?_))
  (try simp only [Act.put, List.setIfInBounds_toArray, List.set_cons_zero, List.set_cons_succ])
  (first | (refine Reg.take 2 (v := ?_) rfl (by kernel_rfl) (by kernel_rfl) (by kernel_rfl) (fun _ _ _ h => h) (Or.inl ⟨by rfl, ?_⟩) (by assumption) ?_; rotate_left; (focus ((intro W hSW); (try dsimp only at hSW); (try go_split_ands); go_simp; (try (with_reducible rfl)); done))) | (refine Reg.take 2 (v := undef) rfl (by kernel_rfl) (by kernel_rfl) (by kernel_rfl) (fun _ _ _ h => h) (Or.inr ⟨by rfl, rfl⟩) (by assumption) ?_))
  (try simp only [Act.put, List.setIfInBounds_toArray, List.set_cons_zero, List.set_cons_succ])
  (first | (refine Reg.take 3 (v := ?_) rfl (by kernel_rfl) (by kernel_rfl) (by kernel_rfl) (fun _ _ _ h => h) (Or.inl ⟨by rfl, ?_⟩) (by assumption) ?_; rotate_left; (focus ((intro W hSW); (try dsimp only at hSW); (try go_split_ands); go_simp; (try (with_reducible rfl)); done))) | (refine Reg.take 3 (v := undef) rfl (by kernel_rfl) (by kernel_rfl) (by kernel_rfl) (fun _ _ _ h => h) (Or.inr ⟨by rfl, rfl⟩) (by assumption) ?_))
  (try simp only [Act.put, List.setIfInBounds_toArray, List.set_cons_zero, List.set_cons_succ])
  (first | (refine Reg.take 4 (v := ?_) rfl (by kernel_rfl) (by kernel_rfl) (by kernel_rfl) (fun _ _ _ h => h) (Or.inl ⟨by rfl, ?_⟩) (by assumption) ?_; rotate_left; (focus ((intro W hSW); (try dsimp only at hSW); (try go_split_ands); go_simp; (try (with_reducible rfl)); done))) | (refine Reg.take 4 (v := undef) rfl (by kernel_rfl) (by kernel_rfl) (by kernel_rfl) (fun _ _ _ h => h) (Or.inr ⟨by rfl, rfl⟩) (by assumption) ?_))
  (try simp only [Act.put, List.setIfInBounds_toArray, List.set_cons_zero, List.set_cons_succ])
  (first | (refine Reg.take 5 (v := ?_) rfl (by kernel_rfl) (by kernel_rfl) (by kernel_rfl) (fun _ _ _ h => h) (Or.inl ⟨by rfl, ?_⟩) (by assumption) ?_; rotate_left; (focus ((intro W hSW); (try dsimp only at hSW); (try go_split_ands); go_simp; (try (with_reducible rfl)); done))) | (refine Reg.take 5 (v := undef) rfl (by kernel_rfl) (by kernel_rfl) (by kernel_rfl) (fun _ _ _ h => h) (Or.inr ⟨by rfl, rfl⟩) (by assumption) ?_))
  (try simp only [Act.put, List.setIfInBounds_toArray, List.set_cons_zero, List.set_cons_succ])
  (first | (refine Reg.take 6 (v := ?_) rfl (by kernel_rfl) (by kernel_rfl) (by kernel_rfl) (fun _ _ _ h => h) (Or.inl ⟨by rfl, ?_⟩) (by assumption) ?_; rotate_left; (focus ((intro W hSW); (try dsimp only at hSW); (try go_split_ands); go_simp; (try (with_reducible rfl)); done))) | (refine Reg.take 6 (v := undef) rfl (by kernel_rfl) (by kernel_rfl) (by kernel_rfl) (fun _ _ _ h => h) (Or.inr ⟨by rfl, rfl⟩) (by assumption) ?_))
  (try simp only [Act.put, List.setIfInBounds_toArray, List.set_cons_zero, List.set_cons_succ])
  (first | (refine Reg.take 7 (v := ?_) rfl (by kernel_rfl) (by kernel_rfl) (by kernel_rfl) (fun _ _ _ h => h) (Or.inl ⟨by rfl, ?_⟩) (by assumption) ?_; rotate_left; (focus ((intro W hSW); (try dsimp only at hSW); (try go_split_ands); go_simp; (try (with_reducible rfl)); done))) | (refine Reg.take 7 (v := undef) rfl (by kernel_rfl) (by kernel_rfl) (by kernel_rfl) (fun _ _ _ h => h) (Or.inr ⟨by rfl, rfl⟩) (by assumption) ?_))
  (try simp only [Act.put, List.setIfInBounds_toArray, List.set_cons_zero, List.set_cons_succ])
  refine Reg.step 8 rfl (by kernel_rfl) (by rfl) (fun K hK => ?_)
  refine wp_copyD (.tmp 73) (.tmp 76) rfl rfl rfl (HC1.out w.drew CU.out) ?_
  have C3 : Hid (Cells (w.drew.setRow g cur1.toArray) g 56 cur1.toArray) := OwnS.cells_setRow (w := w.drew) CU.out
  have U3 : Hid (Mov [g] w (w.drew.setRow g cur1.toArray)) := (Mov.drew [g] w).trans (OwnS.mov_setRow _ _ _) (fun _ h => .inl h)
  have B3 : Hid (DBox (w.drew.setRow g cur1.toArray) q x) := Cells.mov BX.out U3.out (by simpa using hq)
  refine hK.out _ _ trivial (fun hHeld2 => ?_)
  clear hK K HOV HC1 hHeld hHeld2
  (try simp only [Act.put, List.setIfInBounds_toArray, List.set_cons_zero, List.set_cons_succ])
  refine wpAnyH_done (by kernel_rfl) ?_ _
  generalize w.drew.setRow g cur1.toArray = w3 at *
  have e2 := HC2.out w3 C3.out B3.out
  go_wp2_with (simp only [e2])
  go_ret
  exact ⟨⟨_, _, rfl, FIN.out _ (OwnS.cells_setRow C3.out), .inl rfl⟩, OwnS.grown_mov (U3.out.trans (OwnS.mov_setRow _ _ _) (fun _ h => .inl h))⟩

set_option maxRecDepth 100000 in
set_option maxHeartbeats 6400000 in
theorem insert_growD {base : Nat} {w : World} {g n c : Nat} {l : List Dx} {i q : Nat} {x : Dx} (h : OwnS.Owns cellsD 7 56 base w (.slice (some ⟨g, 0, none⟩) n c) n l) (hi : i < n) (hroom : c < n + 1) (hx : DBox w q x) (hbase : base ≤ w.heap.size) (hn : n ≤ 1000000) :
    Calls Try.prog 40 #[.slice (some ⟨g, 0, none⟩) n c, .int .i64 i, .slice (some ⟨q, 0, none⟩) 1 1] w fun e w' => (∃ B d, e = .returned (.slice B (n + 1) d) ∧ OwnS.Owns cellsD 7 56 base w' (.slice B (n + 1) d) (n + 1) (insP l i x) ∧ OwnS.New w (Value.slice (some ⟨g, 0, none⟩) n c) (Value.slice B (n + 1) d)) ∧ w.grownBy w' (Value.slice (some ⟨g, 0, none⟩) n c).ownBlock := by
  obtain ⟨g', cur0, hA, hbg, hcur, hnc, hcm, hsz, htk⟩ := h.place (by omega)
  injection hA with hA
  injection hA with hA
  subst hA
  have hll := h.2
  obtain ⟨cur, rfl⟩ : ∃ cur : List Value, cur0 = cur.toArray := ⟨cur0.toList, by simp⟩
  simp only [List.size_toArray] at hsz htk
  have hcn : c = n := by omega
  subst hcn
  obtain ⟨X1, hX1⟩ : ∃ X1, X1 = (l.take i).flatMap cellsD := ⟨_, rfl⟩
  obtain ⟨X2, hX2⟩ : ∃ X2, X2 = (l.drop i).flatMap cellsD := ⟨_, rfl⟩
  obtain ⟨Y, hY⟩ : ∃ Y, Y = cellsD x := ⟨_, rfl⟩
  have h12 : l.flatMap cellsD = X1 ++ X2 := by rw [hX1, hX2, ← List.flatMap_append, List.take_append_drop]
  have hcurE : cur = X1 ++ X2 := by rw [← h12, ← htk]; exact (List.take_of_length_le (by rw [hsz]; omega)).symm
  have l1 : X1.length = i * 7 := by rw [hX1, OwnS.flat_len fitD, List.length_take]; omega
  have l2 : X2.length = (c - i) * 7 := by rw [hX2, OwnS.flat_len fitD, List.length_drop, hll]
  have lY : Y.length = 7 := by rw [hY]; rfl
  have hgw := Cells.lt hcur
  have hqw := Cells.lt hx
  obtain ⟨i0, hi0, hz0, hz1, hz2⟩ := info_parts info_said
  have hold : (Builtin.firstCells i0.size i (.slice (some ⟨g, 0, none⟩) i c)).run Try.prog w.drew = .ok X1.toArray w.drew := by
    rw [hz1]
    exact run_firstCells_some w.drew 7 i ⟨g, 0, none⟩ i c X1 (by rw [l1]) (fun j v hj => by
      rw [Mem.add_none, Nat.zero_add]
      show w.cell? _ = _
      rw [Cells.cell hcur, List.getElem?_toArray, hcurE, List.getElem?_append_left (List.getElem?_eq_some_iff.1 hj).1]
      exact hj)
  have hik : i + (c + 1 - i) = c + 1 := by omega
  have hkk : (c : Int) + 1 - (i : Int) = ((c + 1 - i : Nat) : Int) := by omega
  obtain ⟨G, hG⟩ : ∃ G, G = grownCap w (c + 1) c 56 := ⟨_, rfl⟩
  have hG1 : c + 1 ≤ G := by rw [hG]; exact grownCap_ge w _ _ _
  have hG2 : G ≤ maxLen := by rw [hG]; exact grownCap_le_maxLen w _ _ _ (by unfold maxLen; omega)
  obtain ⟨Z, hZ⟩ : ∃ Z, Z = (Builtin.zeroCells (Value.cells (.agg #[.int .i64 0, .int .i64 0, .int .i64 0, .int .i64 0, .int .i64 0, .slice none 0 0, .slice none 0 0])) (c + 1 - i)).toList ++ (Builtin.zeroCells (Value.cells (.agg #[.int .i64 0, .int .i64 0, .int .i64 0, .int .i64 0, .int .i64 0, .slice none 0 0, .slice none 0 0])) (G - (c + 1))).toList := ⟨_, rfl⟩
  have lZ : Z.length = (G - i) * 7 := by
    rw [hZ, List.length_append, Array.length_toList, Array.length_toList, size_zeroCells, size_zeroCells]
    show (c + 1 - i) * 7 + (G - (c + 1)) * 7 = _
    omega
  have hrz : (Builtin.append_ #[49, 3] 49 #[.slice (some ⟨g, 0, none⟩) i c, .int .i64 ((c : Int) + 1 - (i : Int))]).run Try.prog w = .ok (.slice (some ⟨w.heap.size, 0, none⟩) (c + 1) G) (w.drew.alloc (.cells (X1 ++ Z).toArray 56)) := by
    have h := Lib.run_append_grow_zeros w 49 3 49 56 i0 _ .i64 .i64 Try.underlying49 Try.underlying3 hi0 hz0 (some ⟨g, 0, none⟩) i c X1 hold (c + 1 - i) (by omega) (by rw [hz1]; omega) (by omega) (by omega) (by rw [hz2]; omega) (by rw [hz2, hik]; exact growslice_fits hroom (by omega))
    rw [hik] at h
    rw [hkk, h, ← hG, hZ]
    refine congrArg (fun z => Result.ok _ (w.drew.alloc (.cells z _))) ?_
    exact Array.toList_inj.1 (by simp)
  obtain ⟨W1, hW1⟩ : ∃ W1, W1 = w.drew.alloc (.cells (X1 ++ Z).toArray 56) := ⟨_, rfl⟩
  rw [← hW1] at hrz
  have L1 : Below w.heap.size w W1 := by rw [hW1]; exact (Below.refl _ w).drew.alloc (Nat.le_refl _) _
  have N1 : Cells W1 w.heap.size 56 (X1 ++ Z).toArray := by rw [hW1]; exact Cells.new w.drew _ _
  obtain ⟨cur1, hc1⟩ : ∃ cur1, cur1 = splice (X1 ++ Z) (i * 7) Y := ⟨_, rfl⟩
  have s0 : (X1 ++ Z).length = G * 7 := by rw [List.length_append, l1, lZ]; omega
  have s1 : cur1.length = G * 7 := by rw [hc1, OwnS.len_splice _ _ _ (by rw [lY, s0]; omega), s0]
  obtain ⟨cur2, hc2⟩ : ∃ cur2, cur2 = splice cur1 ((i + 1) * 7) X2 := ⟨_, rfl⟩
  have s2 : cur2.length = G * 7 := by rw [hc2, OwnS.len_splice _ _ _ (by rw [l2, s1]; omega), s1]
  have C1 : (Builtin.copy_ #[49, 49] 3 #[.slice (some ⟨w.heap.size, i * 7, none⟩) (c + 1 - i) (G - i), .slice (some ⟨q, 0, none⟩) 1 1]).run Try.prog W1 = .ok (goInt (1 : Nat)) (W1.setRow w.heap.size cur1.toArray) := by
    rw [hc1]
    exact run_copyD W1 _ w.heap.size (i * 7) _ _ ⟨q, 0, none⟩ _ _ (X1 ++ Z) _ Y 1 N1 (by simp only [Nat.min_def]; split <;> omega) (by rw [lY])
      (fun j v hj => by rw [Mem.add_none, Nat.zero_add, Cells.cell (Cells.below hx L1)]; rw [hY] at hj; simpa [cellsD, Net.cellsM] using hj)
      (by rw [lY, s0]; omega) (by rw [hY]; exact fitD.one x)
  have C2 : ∀ W, Cells W w.heap.size 56 cur1.toArray → Cells W g 56 cur.toArray → (Builtin.copy_ #[49, 49] 3 #[.slice (some ⟨w.heap.size, (i + 1) * 7, none⟩) (c - i) (G - (i + 1)), .slice (some ⟨g, i * 7, none⟩) (c - i) (c - i)]).run Try.prog W = .ok (goInt (c - i : Nat)) (W.setRow w.heap.size cur2.toArray) := by
    intro W hW hWg
    rw [hc2]
    exact run_copyD W _ w.heap.size ((i + 1) * 7) _ _ ⟨g, i * 7, none⟩ _ _ cur1 _ X2 (c - i) hW (by simp only [Nat.min_def]; split <;> omega) l2
      (fun j v hj => by
        rw [Mem.add_none, Cells.cell hWg, List.getElem?_toArray, hcurE, List.getElem?_append_right (by rw [l1]; omega), l1, show i * 7 + j - i * 7 = j by omega]
        exact hj)
      (by rw [l2, s1]; omega) (by rw [hX2]; exact OwnS.flat_one fitD _)
  have hfin : cur2 = X1 ++ Y ++ X2 ++ Z.drop (7 + X2.length) := by
    rw [hc2, hc1, show (i + 1) * 7 = i * 7 + 7 by omega]
    exact OwnS.splice_new X1 Y X2 Z (i * 7) 7 l1 lY (by rw [l2, lZ]; omega)
  have FIN : Hid (∀ W, Cells W w.heap.size 56 cur2.toArray → OwnS.Owns cellsD 7 56 base W (.slice (some ⟨w.heap.size, 0, none⟩) (c + 1) G) (c + 1) (insP l i x)) := by
    show ∀ _, _
    intro W hW
    unfold insP
    refine OwnS.Owns.of_cells fitD hW hbase hG1 hG2 s2 ?_ (by simp; omega)
    rw [hfin, List.take_append_of_le_length (by simp only [List.length_append, l1, lY, l2]; omega), List.take_of_length_le (by simp only [List.length_append, l1, lY, l2]; omega), List.flatMap_append, List.flatMap_append, hX1, hY, hX2]
    simp
  have CU := Lib.hid hcur
  have LL1 := Lib.hid L1
  have NN1 := Lib.hid N1
  have HC1 := Lib.hid C1
  have HC2 := Lib.hid C2
  have HRZ := Lib.hid hrz
  have hsl : ∀ w, (Instr.slice 49 (.slice (some ⟨g, 0, none⟩) c c) (some (.int .i64 (i : Int))) none none).run Try.prog w = .ok (.slice (some ⟨g, i * 7, none⟩) (c - i) (c - i)) w := by
    intro w
    have := run_tailD (some ⟨g, 0, none⟩) c c i (by omega) w
    rw [if_neg (by omega)] at this
    simp only [Option.map_some, Mem.add_none, Nat.zero_add] at this
    exact this
  have hsl2 : ∀ W, (Instr.slice 49 (.slice (some ⟨w.heap.size, 0, none⟩) (c + 1) G) (some (.int .i64 (i : Int))) none none).run Try.prog W = .ok (.slice (some ⟨w.heap.size, i * 7, none⟩) (c + 1 - i) (G - i)) W := by
    intro W
    have := run_tailD (some ⟨w.heap.size, 0, none⟩) (c + 1) G i (by omega) W
    rw [if_neg (by omega)] at this
    simp only [Option.map_some, Mem.add_none, Nat.zero_add] at this
    exact this
  have hsl3 : ∀ W, (Instr.slice 49 (.slice (some ⟨w.heap.size, 0, none⟩) (c + 1) G) (some (.int .i64 ((i : Int) + 1))) none none).run Try.prog W = .ok (.slice (some ⟨w.heap.size, (i + 1) * 7, none⟩) (c - i) (G - (i + 1))) W := by
    intro W
    have := run_tailD (some ⟨w.heap.size, 0, none⟩) (c + 1) G (i + 1) (by omega) W
    rw [if_neg (by omega), show c + 1 - (i + 1) = c - i by omega] at this
    simp only [Option.map_some, Mem.add_none, Nat.zero_add] at this
    exact this
  have hsl4 : ∀ w, (Instr.slice 49 (.slice (some ⟨g, 0, none⟩) c c) none (some (.int .i64 (i : Int))) none).run Try.prog w = .ok (.slice (some ⟨g, 0, none⟩) i c) w := fun w => run_headD _ c c i (by omega) w
  have hgn0 : ¬ ((i : Int) = (c : Int)) := by omega
  have hle : (c : Int) < (c : Int) + 1 := by omega
  have hw2 : IntKind.i64.wrap ((i : Int) + 1) = (i : Int) + 1 := by rw [IntKind.wrap_i64]; omega
  have hw3 : IntKind.i64.wrap ((c : Int) + 1 - (i : Int)) = (c : Int) + 1 - (i : Int) := by rw [IntKind.wrap_i64]; omega
  clear hold hi0 hz0 hz1 hz2 hkk hik hrz L1 N1 hW1 hG hZ s0 s1 C1 C2 h hcur hx hfin hc1 hc2 hcurE h12 htk hX1 hX2 hY
  go_enter Try.func40, Try.ntmps40
  go_upto_region 10 with (at_builtin; refine Lib.wpList_append_run _ rfl (.tmp 34) (.tmp 39) _ _ rfl _ _ rfl rfl _ _ HRZ.out ?_)
  have e1 := HC1.out
  go_upto_region 11 with (simp only [e1])
  have C3 : Hid (Cells (W1.setRow w.heap.size cur1.toArray) w.heap.size 56 cur1.toArray) := OwnS.cells_setRow NN1.out
  have L3 : Hid (Below w.heap.size w (W1.setRow w.heap.size cur1.toArray)) := LL1.out.trans ((OwnS.mov_setRow W1 w.heap.size cur1.toArray).up LL1.out.size (Nat.le_refl _))
  clear e1 HC1 HRZ
  generalize W1.setRow w.heap.size cur1.toArray = w3 at *
  refine wp_region_held_drew (S := fun _ => True) (by kernel_rfl) trivial (fun hHeld => ?_)
  (first | (refine Reg.take 0 (v := ?_) rfl (by kernel_rfl) (by kernel_rfl) (by kernel_rfl) (fun _ _ _ h => h) (Or.inl ⟨by rfl, ?_⟩) (by assumption) ?_; rotate_left; (focus ((intro W hSW); (try dsimp only at hSW); (try go_split_ands); go_simp; (try (with_reducible rfl)); done))) | (refine Reg.take 0 (v := undef) rfl (by kernel_rfl) (by kernel_rfl) (by kernel_rfl) (fun _ _ _ h => h) (Or.inr ⟨by rfl, rfl⟩) (by assumption) ?_))
  (try simp only [Act.put, List.setIfInBounds_toArray, List.set_cons_zero, List.set_cons_succ])
  (first | (refine Reg.take 1 (v := ?_) rfl (by kernel_rfl) (by kernel_rfl) (by kernel_rfl) (fun _ _ _ h => h) (Or.inl ⟨by rfl, ?_⟩) (by assumption) ?_; rotate_left; (focus ((intro W hSW); (try dsimp only at hSW); (try go_split_ands); go_simp; (try (with_reducible rfl)); done))) | (refine Reg.take 1 (v := undef) rfl (by kernel_rfl) (by kernel_rfl) (by kernel_rfl) (fun _ _ _ h => h) (Or.inr ⟨by rfl, rfl⟩) (by assumption) ?_))
  (try simp only [Act.put, List.setIfInBounds_toArray, List.set_cons_zero, List.set_cons_succ])
  (first | (refine Reg.take 2 (v := ?_) rfl (by kernel_rfl) (by kernel_rfl) (by kernel_rfl) (fun _ _ _ h => h) (Or.inl ⟨by rfl, ?_⟩) (by assumption) ?_; rotate_left; (focus ((intro W hSW); (try dsimp only at hSW); (try go_split_ands); go_simp; (try (with_reducible rfl)); done))) | (refine Reg.take 2 (v := undef) rfl (by kernel_rfl) (by kernel_rfl) (by kernel_rfl) (fun _ _ _ h => h) (Or.inr ⟨by rfl, rfl⟩) (by assumption) ?_))
  (try simp only [Act.put, List.setIfInBounds_toArray, List.set_cons_zero, List.set_cons_succ])
  (first | (refine Reg.take 3 (v := ?_) rfl (by kernel_rfl) (by kernel_rfl) (by kernel_rfl) (fun _ _ _ h => h) (Or.inl ⟨by rfl, ?_⟩) (by assumption) ?_; rotate_left; (focus ((intro W hSW); (try dsimp only at hSW); (try go_split_ands); go_simp; (try (with_reducible rfl)); done))) | (refine Reg.take 3 (v := undef) rfl (by kernel_rfl) (by kernel_rfl) (by kernel_rfl) (fun _ _ _ h => h) (Or.inr ⟨by rfl, rfl⟩) (by assumption) ?_))
  (try simp only [Act.put, List.setIfInBounds_toArray, List.set_cons_zero, List.set_cons_succ])
  (first | (refine Reg.take 4 (v := ?_) rfl (by kernel_rfl) (by kernel_rfl) (by kernel_rfl) (fun _ _ _ h => h) (Or.inl ⟨by rfl, ?_⟩) (by assumption) ?_; rotate_left; (focus ((intro W hSW); (try dsimp only at hSW); (try go_split_ands); go_simp; (try (with_reducible rfl)); done))) | (refine Reg.take 4 (v := undef) rfl (by kernel_rfl) (by kernel_rfl) (by kernel_rfl) (fun _ _ _ h => h) (Or.inr ⟨by rfl, rfl⟩) (by assumption) ?_))
  (try simp only [Act.put, List.setIfInBounds_toArray, List.set_cons_zero, List.set_cons_succ])
  (first | (refine Reg.take 5 (v := ?_) rfl (by kernel_rfl) (by kernel_rfl) (by kernel_rfl) (fun _ _ _ h => h) (Or.inl ⟨by rfl, ?_⟩) (by assumption) ?_; rotate_left; (focus ((intro W hSW); (try dsimp only at hSW); (try go_split_ands); go_simp; (try (with_reducible rfl)); done))) | (refine Reg.take 5 (v := undef) rfl (by kernel_rfl) (by kernel_rfl) (by kernel_rfl) (fun _ _ _ h => h) (Or.inr ⟨by rfl, rfl⟩) (by assumption) ?_))
  (try simp only [Act.put, List.setIfInBounds_toArray, List.set_cons_zero, List.set_cons_succ])
  (first | (refine Reg.take 6 (v := ?_) rfl (by kernel_rfl) (by kernel_rfl) (by kernel_rfl) (fun _ _ _ h => h) (Or.inl ⟨by rfl, ?_⟩) (by assumption) ?_; rotate_left; (focus ((intro W hSW); (try dsimp only at hSW); (try go_split_ands); go_simp; (try (with_reducible rfl)); done))) | (refine Reg.take 6 (v := undef) rfl (by kernel_rfl) (by kernel_rfl) (by kernel_rfl) (fun _ _ _ h => h) (Or.inr ⟨by rfl, rfl⟩) (by assumption) ?_))
  (try simp only [Act.put, List.setIfInBounds_toArray, List.set_cons_zero, List.set_cons_succ])
  (first | (refine Reg.take 7 (v := ?_) rfl (by kernel_rfl) (by kernel_rfl) (by kernel_rfl) (fun _ _ _ h => h) (Or.inl ⟨by rfl, ?_⟩) (by assumption) ?_; rotate_left; (focus ((intro W hSW); (try dsimp only at hSW); (try go_split_ands); go_simp; (try (with_reducible rfl)); done))) | (refine Reg.take 7 (v := undef) rfl (by kernel_rfl) (by kernel_rfl) (by kernel_rfl) (fun _ _ _ h => h) (Or.inr ⟨by rfl, rfl⟩) (by assumption) ?_))
  (try simp only [Act.put, List.setIfInBounds_toArray, List.set_cons_zero, List.set_cons_succ])
  refine Reg.step 8 rfl (by kernel_rfl) (by rfl) (fun K hK => ?_)
  refine wp_copyD (.tmp 50) (.tmp 53) rfl rfl rfl (HC2.out w3.drew C3.out (Cells.below CU.out L3.out.drew)) ?_
  refine hK.out _ _ trivial (fun hHeld2 => ?_)
  clear hK K hHeld hHeld2
  (try simp only [Act.put, List.setIfInBounds_toArray, List.set_cons_zero, List.set_cons_succ])
  refine wpAnyH_done (by kernel_rfl) ?_ _
  go_wp2_with fail
  go_ret
  exact ⟨⟨_, _, rfl, FIN.out _ (OwnS.cells_setRow (w := w3.drew) C3.out), .inr fun k hk => by injection hk with hk; exact Nat.le_of_eq hk⟩, OwnS.grown_below (L3.out.drew.trans ((OwnS.mov_setRow w3.drew w.heap.size cur2.toArray).up L3.out.size (Nat.le_refl _))) _⟩

/-- slices.Insert of one lease, wherever it is to stand. -/
theorem insertD {base : Nat} {w : World} {A : Option Addr} {n c : Nat} {l : List Dx} {i q : Nat} {x : Dx} (h : OwnS.Owns cellsD 7 56 base w (.slice A n c) n l) (hi : i ≤ n) (hx : DBox w q x) (hq : ∀ k, (Value.slice A n c).ownBlock = some k → q ≠ k) (hbase : base ≤ w.heap.size) (hn : n ≤ 1000000) :
    Calls Try.prog 40 #[.slice A n c, .int .i64 i, .slice (some ⟨q, 0, none⟩) 1 1] w fun e w' => (∃ B d, e = .returned (.slice B (n + 1) d) ∧ OwnS.Owns cellsD 7 56 base w' (.slice B (n + 1) d) (n + 1) (insP l i x) ∧ OwnS.New w (Value.slice A n c) (Value.slice B (n + 1) d)) ∧ w.grownBy w' (Value.slice A n c).ownBlock := by
  rcases Nat.eq_or_lt_of_le hi with h1 | h1
  · subst h1
    have := insert_endD h hx hbase hn
    unfold insP
    rw [List.take_of_length_le (by rw [h.2]; omega), List.drop_eq_nil_of_le (by rw [h.2]; omega), List.append_nil]
    exact this
  · obtain ⟨g, cur, rfl, -, -, -, -, -, -⟩ := h.place (by omega)
    rcases Nat.lt_or_ge c (n + 1) with h2 | h2
    · exact insert_growD h h1 h2 hx hbase hn
    · exact insert_roomD h h1 h2 hx (hq g rfl) hbase hn
theorem insertAnyD {base : Nat} {w : World} {A : Option Addr} {n c : Nat} {l : List Dx} {i q : Nat} {x : Dx} (h : OwnS.Owns cellsD 7 56 base w (.slice A n c) n l) (hi : i ≤ n) (hx : DBox w q x) (hq : ∀ k, (Value.slice A n c).ownBlock = some k → q ≠ k) (hbase : base ≤ w.heap.size) (hn : n ≤ 1000000) :
    Calls Try.prog 40 #[.slice A n c, .int .i64 i, .slice (some ⟨q, 0, none⟩) 1 1] w fun e w' => (∃ B d, e = .returned (.slice B (n + 1) d) ∧ OwnS.Owns cellsD 7 56 base w' (.slice B (n + 1) d) (n + 1) (insP l i x)) ∧ Below base w w' := by
  refine (insertD h hi hx hq hbase hn).mono ?_
  rintro e w' ⟨⟨B, d, he, hO, -⟩, hg⟩
  exact ⟨⟨B, d, he, hO⟩, (Below.refl base w).grown hg hbase (fun k hk => (h.lt k hk).1)⟩
end Ded
end Go.Proofs.Ytndcflchdecofaa
