/-
  A WALK: slices.Delete of one answer, on a row of one's own. (Written by gen_deddel.py.)
-/
import Derived.Test.YtndcflchdecofaaDedInsD
import Derived.Test.YtndcflchdecofaaReg
namespace Go.Proofs.Ytndcflchdecofaa
open Go.RowKit Mem Box
namespace Ded

theorem flat_dropD (l : List Dx) (i : Nat) : (l.flatMap cellsD).drop (i * 7) = (l.drop i).flatMap cellsD := by
  induction l generalizing i with
  | nil => simp
  | cons x l ih =>
    rcases i with _ | i
    · simp
    · rw [List.flatMap_cons, List.drop_succ_cons, List.drop_append, List.drop_eq_nil_of_le (by rw [fitD.len]; omega), fitD.len, show (i + 1) * 7 - 7 = i * 7 by omega, ih, List.nil_append]
theorem zeros_len (n : Nat) : (Builtin.zeroCells #[.int .i64 0, .int .i64 0, .int .i64 0, .int .i64 0, .int .i64 0, .slice none 0 0, .slice none 0 0] n).toList.length = n * 7 := by simp [Builtin.zeroCells]
theorem zeros_one (n : Nat) : ∀ v ∈ (Builtin.zeroCells #[.int .i64 0, .int .i64 0, .int .i64 0, .int .i64 0, .int .i64 0, .slice none 0 0, .slice none 0 0] n).toList, v.oneCell' = true := by
  intro v hv
  unfold Builtin.zeroCells at hv
  rw [Array.mem_toList_iff, Array.mem_map] at hv
  obtain ⟨i, -, rfl⟩ := hv
  have h7 : i % 7 = 0 ∨ i % 7 = 1 ∨ i % 7 = 2 ∨ i % 7 = 3 ∨ i % 7 = 4 ∨ i % 7 = 5 ∨ i % 7 = 6 := by omega
  have : (#[Value.int .i64 0, .int .i64 0, .int .i64 0, .int .i64 0, .int .i64 0, .slice none 0 0, .slice none 0 0] : Array Value).size = 7 := rfl
  rw [this]
  rcases h7 with h | h | h | h | h | h | h <;> rw [h] <;> rfl
/-- clear of n > 0 fences in a row of one's own. -/
theorem run_clearD (w : World) (ty : TypeId) (g o n c : Nat) (cur : List Value) (hg : Cells w g 56 cur.toArray) (hn : 0 < n) (hfit : o + n * 7 ≤ cur.length) :
    (Builtin.clear_ #[49] ty #[.slice (some ⟨g, o, none⟩) n c]).run Try.prog w = .ok (.tuple #[]) (w.setRow g (splice cur o (Builtin.zeroCells #[.int .i64 0, .int .i64 0, .int .i64 0, .int .i64 0, .int .i64 0, .slice none 0 0, .slice none 0 0] n).toList).toArray) := by
  have hst := run_storeCells_at Try.prog g o 56 (Builtin.zeroCells #[.int .i64 0, .int .i64 0, .int .i64 0, .int .i64 0, .int .i64 0, .slice none 0 0, .slice none 0 0] n).toList 0 cur.toArray w hg (by rw [zeros_len]; simpa using hfit) (zeros_one n)
  have hz : (zeroValue 56).run Try.prog w = .ok (.agg #[.int .i64 0, .int .i64 0, .int .i64 0, .int .i64 0, .int .i64 0, .slice none 0 0, .slice none 0 0]) w := by
    obtain ⟨i, hi, hz0, -⟩ := info_parts info_said
    simp [zeroValue, typeInfo, hi, hz0]
  obtain ⟨m, rfl⟩ : ∃ m, n = m + 1 := ⟨n - 1, by omega⟩
  simp [Builtin.clear_, run_underlying Try.underlying49, hz, Value.cells, hst, splice, List.append_assoc]
theorem splice_take {α : Type} (L : List α) (o : Nat) (cs : List α) (k : Nat) (hk : k ≤ o) (ho : o ≤ L.length) : (splice L o cs).take k = L.take k := by
  unfold splice
  rw [List.take_append, List.take_take, Nat.min_eq_left hk]
  simp
  omega
theorem run_midD (g n c k j : Nat) (hk : k < j) (hj : j ≤ c) (w : World) : (Instr.slice 49 (.slice (some ⟨g, 0, none⟩) n c) (some (.int .i64 (k : Int))) (some (.int .i64 (j : Int))) none).run Try.prog w = .ok (.slice (some ⟨g, k * 7, none⟩) (j - k) (c - k)) w := by
  obtain ⟨i, hi, -, e, -⟩ := info_parts info_said
  have h0 : (0 : Int) ≤ (k : Int) := by omega
  have h1 : (k : Int) ≤ (j : Int) := by omega
  have h2 : (j : Int) ≤ (c : Int) := by omega
  have h3 : ¬ c = k := by omega
  simp [Instr.slice, Instr.sliceBounds, run_sliceBound, h0, h1, h2, h3, run_underlying Try.underlying49, sizeOf, typeInfo, hi, e, Mem.add_none]
/-- append, one operation of a region that draws, where there is room. -/
theorem wp_append_roomD {w : World} {o : Oper} {a : Act} {K : Act → World → Prop} {Q : Exit → Act → World → Prop} (s x : Operand)
    (ho : o.op = .call { callee := .builtin .append, args := #[s, x], argTypes := #[49, 49] }) {v u : Value} (hs : a.eval s = v) (hx : a.eval x = u) {m : Value} {w' : World}
    (hr : (Builtin.append_ #[49, 49] o.type #[v, u]).run Try.prog w = .ok m w') (h : K (a.put o.dst m) w') : o.wp Try.prog a w K Q := by
  unfold Oper.wp execOp
  simp only [ho, resolve, invoke, builtin, Sem.run_bind, Sem.run_pure, Result.andThen_ok, List.map_toArray, List.map_cons, List.map_nil, hs, hx, hr]
  exact h

set_option maxRecDepth 100000 in
set_option maxHeartbeats 6400000 in
/-- slices.Delete of the one at i. -/
theorem deleteD {base : Nat} {w : World} {A : Option Addr} {n c : Nat} {l : List Dx} {i j m : Nat} (hj : j = i + 1) (hm : m + 1 = n) (h : OwnS.Owns cellsD 7 56 base w (.slice A n c) n l) (hi : i < n) (hn : n ≤ 1000000) :
    Calls Try.prog 41 #[.slice A n c, .int .i64 i, .int .i64 (j : Int)] w fun e w' => e = .returned (.slice A m c) ∧ OwnS.Owns cellsD 7 56 base w' (.slice A m c) m (l.take i ++ l.drop j) ∧ w.grownBy w' (Value.slice A n c).ownBlock := by
  have hlen := h.2
  obtain ⟨g, cur, rfl, hbg, hC, hnc, hcm, hs, ht⟩ := OwnS.Owns.place h (by omega)
  have hne : ((i : Int) == (j : Int)) = false := beq_eq_false_iff_ne.2 (by omega)
  have hhead := fun w => run_headD (some ⟨g, 0, none⟩) n c i (by omega) w
  have htail := fun w => run_tailD (some ⟨g, 0, none⟩) n c j (by omega) w
  -- what is moved to the left
  obtain ⟨news, hnews⟩ : ∃ news, news = (l.drop j).flatMap cellsD := ⟨_, rfl⟩
  have hnl : news.length = (n - j) * 7 := by rw [hnews, OwnS.flat_len fitD, List.length_drop, hlen]
  have hcl : cur.toList.length = c * 7 := by simpa using hs
  have hdrop : (cur.toList.drop (j * 7)).take (n * 7 - j * 7) = news := by
    rw [← List.drop_take, ht, flat_dropD, hnews]
  obtain ⟨ad, hA, hsrc⟩ : ∃ ad : Addr, (if c = j then (some ⟨g, 0, none⟩ : Option Addr) else (some ⟨g, 0, none⟩ : Option Addr).map (·.add (j * 7))) = some ad ∧ ∀ j u, news[j]? = some u → w.cell? (ad.add j) = some u := by
    by_cases hc : c = j
    · refine ⟨⟨g, 0, none⟩, by simp [hc], fun j u hj => ?_⟩
      have := (List.getElem?_eq_some_iff.1 hj).1
      rw [hnl] at this; omega
    · refine ⟨⟨g, j * 7, none⟩, by simp [hc, Mem.add_none], fun j u hj => ?_⟩
      have hjl := (List.getElem?_eq_some_iff.1 hj).1
      rw [Mem.add_none, Cells.cell hC, ← Array.getElem?_toList, ← List.getElem?_drop]
      rw [← hdrop, List.getElem?_take] at hj
      split at hj
      · exact hj
      · cases hj
  rw [hA] at htail
  have hone : ∀ u ∈ news, u.oneCell' = true := by rw [hnews]; exact OwnS.flat_one fitD _
  obtain ⟨i0, hi0, -, hsz, -⟩ := info_parts info_said
  have HAP : Hid (∀ W ty, Cells W g 56 cur → (∀ j u, news[j]? = some u → W.cell? (ad.add j) = some u) → (Builtin.append_ #[49, 49] ty #[.slice (some ⟨g, 0, none⟩) i c, .slice (some ad) (n - j) (c - j)]).run Try.prog W = .ok (.slice (some ⟨g, 0, none⟩) m c) (W.setRow g (cur.toList.take (i * 7) ++ news ++ cur.toList.drop (i * 7 + news.length)).toArray)) := by
    show ∀ _, _
    intro W ty hW hc
    have := run_append_room (P := Try.prog) W 49 ty 56 i0 Try.underlying49 hi0 g i c cur hW ad (n - j) (c - j) news (by rw [hsz]; exact hnl) hc hone (by omega) (by rw [hsz, hnl]; have : cur.size = c * 7 := hs; omega)
    rw [hsz, show i + (n - j) = m by omega] at this
    exact this
  obtain ⟨cur1, hcur1⟩ : ∃ cur1, cur1 = cur.toList.take (i * 7) ++ news ++ cur.toList.drop (i * 7 + news.length) := ⟨_, rfl⟩
  have hl1 : cur1.length = c * 7 := by
    rw [hcur1]; simp only [List.length_append, List.length_take, List.length_drop, hcl, hnl]; omega
  have ht1 : cur1.take (m * 7) = (l.take i ++ l.drop j).flatMap cellsD := by
    have e1 : cur.toList.take (i * 7) = (l.take i).flatMap cellsD := by
      rw [← OwnS.flat_take fitD, ← ht, List.take_take, Nat.min_eq_left (by omega)]
    rw [hcur1, List.flatMap_append, ← hnews, ← e1]
    have e2 : (cur.toList.take (i * 7) ++ news).length = m * 7 := by
      rw [List.length_append, List.length_take, hcl, hnl]; omega
    rw [List.take_append, e2, Nat.sub_self, List.take_zero, List.append_nil, List.take_of_length_le (by omega)]
  rw [← hcur1] at HAP
  obtain ⟨cur2, hcur2⟩ : ∃ cur2, cur2 = splice cur1 (m * 7) (Builtin.zeroCells #[.int .i64 0, .int .i64 0, .int .i64 0, .int .i64 0, .int .i64 0, .slice none 0 0, .slice none 0 0] 1).toList := ⟨_, rfl⟩
  have hl2 : cur2.length = c * 7 := by
    rw [hcur2, length_splice _ _ _ (by rw [zeros_len]; omega)]; exact hl1
  have ht2 : cur2.take (m * 7) = (l.take i ++ l.drop j).flatMap cellsD := by
    rw [hcur2, splice_take _ _ _ _ (Nat.le_refl _) (by omega)]; exact ht1
  have HCL : Hid (∀ W ty, Cells W g 56 cur1.toArray → (Builtin.clear_ #[49] ty #[.slice (some ⟨g, m * 7, none⟩) 1 (c - m)]).run Try.prog W = .ok (.tuple #[]) (W.setRow g cur2.toArray)) := by
    show ∀ _, _
    intro W ty hW
    rw [hcur2]
    exact run_clearD W ty g (m * 7) 1 (c - m) cur1 hW (by omega) (by omega)
  have hmid := fun w => run_midD g m c m n (by omega) hnc w
  rw [show n - m = 1 by omega] at hmid
  have FIN : Hid (∀ W, Cells W g 56 cur2.toArray → OwnS.Owns cellsD 7 56 base W (.slice (some ⟨g, 0, none⟩) m c) m (l.take i ++ l.drop j)) := by
    show ∀ _, _
    intro W hW
    refine OwnS.Owns.of_cells fitD hW hbg (by omega) hcm hl2 ht2 ?_
    rw [List.length_append, List.length_take, List.length_drop, hlen]; omega
  have HCU := Lib.hid hC
  have HSR := Lib.hid hsrc
  have HJ := Lib.hid hj
  have HMM := Lib.hid hm
  have b1 : (0 : Int) ≤ (i : Int) := by omega
  have b2 : (i : Int) ≤ (j : Int) := by omega
  have b3 : (j : Int) ≤ (n : Int) := by omega
  have b4 : (n : Int) ≤ (c : Int) := by omega
  clear hj hm hcur1 hcur2 hl1 hl2 ht1 ht2 hone hi0 hsz hsrc hA hdrop hcl hnl hnews hC hs ht h hlen
  go_enter Try.func41, Try.ntmps41
  go_upto_region 5 with fail
  refine wp_region_held_drew (S := fun _ => True) (by kernel_rfl) trivial (fun hHeld => ?_)
  (first | (refine Reg.take 0 (v := ?_) rfl (by kernel_rfl) (by kernel_rfl) (by kernel_rfl) (fun _ _ _ h => h) (Or.inl ⟨by rfl, ?_⟩) (by assumption) ?_; rotate_left; (focus ((intro W hSW); (try dsimp only at hSW); (try go_split_ands); go_simp; (try (with_reducible rfl)); done))) | (refine Reg.take 0 (v := undef) rfl (by kernel_rfl) (by kernel_rfl) (by kernel_rfl) (fun _ _ _ h => h) (Or.inr ⟨by rfl, rfl⟩) (by assumption) ?_))
  (try simp only [Act.put, List.setIfInBounds_toArray, List.set_cons_zero, List.set_cons_succ])
  (first | (refine Reg.take 1 (v := ?_) rfl (by kernel_rfl) (by kernel_rfl) (by kernel_rfl) (fun _ _ _ h => h) (Or.inl ⟨by rfl, ?_⟩) (by assumption) ?_; rotate_left; (focus ((intro W hSW); (try dsimp only at hSW); (try go_split_ands); go_simp; (try (with_reducible rfl)); done))) | (refine Reg.take 1 (v := undef) rfl (by kernel_rfl) (by kernel_rfl) (by kernel_rfl) (fun _ _ _ h => h) (Or.inr ⟨by rfl, rfl⟩) (by assumption) ?_))
  (try simp only [Act.put, List.setIfInBounds_toArray, List.set_cons_zero, List.set_cons_succ])
  (first | (refine Reg.take 2 (v := ?_) rfl (by kernel_rfl) (by kernel_rfl) (by kernel_rfl) (fun _ _ _ h => h) (Or.inl ⟨by rfl, ?_⟩) (by assumption) ?_; rotate_left; (focus ((intro W hSW); (try dsimp only at hSW); (try go_split_ands); go_simp; (try (with_reducible rfl)); done))) | (refine Reg.take 2 (v := undef) rfl (by kernel_rfl) (by kernel_rfl) (by kernel_rfl) (fun _ _ _ h => h) (Or.inr ⟨by rfl, rfl⟩) (by assumption) ?_))
  (try simp only [Act.put, List.setIfInBounds_toArray, List.set_cons_zero, List.set_cons_succ])
  (first | (refine Reg.take 3 (v := ?_) rfl (by kernel_rfl) (by kernel_rfl) (by kernel_rfl) (fun _ _ _ h => h) (Or.inl ⟨by rfl, ?_⟩) (by assumption) ?_; rotate_left; (focus ((intro W hSW); (try dsimp only at hSW); (try go_split_ands); go_simp; (try (with_reducible rfl)); done))) | (refine Reg.take 3 (v := undef) rfl (by kernel_rfl) (by kernel_rfl) (by kernel_rfl) (fun _ _ _ h => h) (Or.inr ⟨by rfl, rfl⟩) (by assumption) ?_))
  (try simp only [Act.put, List.setIfInBounds_toArray, List.set_cons_zero, List.set_cons_succ])
  (first | (refine Reg.take 4 (v := ?_) rfl (by kernel_rfl) (by kernel_rfl) (by kernel_rfl) (fun _ _ _ h => h) (Or.inl ⟨by rfl, ?_⟩) (by assumption) ?_; rotate_left; (focus ((intro W hSW); (try dsimp only at hSW); (try go_split_ands); go_simp; (try (with_reducible rfl)); done))) | (refine Reg.take 4 (v := undef) rfl (by kernel_rfl) (by kernel_rfl) (by kernel_rfl) (fun _ _ _ h => h) (Or.inr ⟨by rfl, rfl⟩) (by assumption) ?_))
  (try simp only [Act.put, List.setIfInBounds_toArray, List.set_cons_zero, List.set_cons_succ])
  (first | (refine Reg.take 5 (v := ?_) rfl (by kernel_rfl) (by kernel_rfl) (by kernel_rfl) (fun _ _ _ h => h) (Or.inl ⟨by rfl, ?_⟩) (by assumption) ?_; rotate_left; (focus ((intro W hSW); (try dsimp only at hSW); (try go_split_ands); go_simp; (try (with_reducible rfl)); done))) | (refine Reg.take 5 (v := undef) rfl (by kernel_rfl) (by kernel_rfl) (by kernel_rfl) (fun _ _ _ h => h) (Or.inr ⟨by rfl, rfl⟩) (by assumption) ?_))
  (try simp only [Act.put, List.setIfInBounds_toArray, List.set_cons_zero, List.set_cons_succ])
  refine Reg.step 6 rfl (by kernel_rfl) (by rfl) (fun K hK => ?_)
  refine wp_append_roomD (.tmp 22) (.tmp 25) rfl rfl rfl (HAP.out w.drew _ HCU.out HSR.out) ?_
  have C3 : Hid (Cells (w.drew.setRow g cur1.toArray) g 56 cur1.toArray) := setRow_heap w.drew g _ _ _ _ HCU.out
  have U3 : Hid (Mov [g] w (w.drew.setRow g cur1.toArray)) := (Mov.drew [g] w).trans (OwnS.mov_setRow _ _ _) (fun _ h => .inl h)
  refine hK.out _ _ trivial (fun hHeld2 => ?_)
  clear hK K
  (try simp only [Act.put, List.setIfInBounds_toArray, List.set_cons_zero, List.set_cons_succ])
  (first | (refine Reg.take 7 (v := ?_) rfl (by kernel_rfl) (by kernel_rfl) (by kernel_rfl) (fun _ _ _ h => h) (Or.inl ⟨by rfl, ?_⟩) (by assumption) ?_; rotate_left; (focus ((intro W hSW); (try dsimp only at hSW); (try go_split_ands); go_simp; (try (with_reducible rfl)); done))) | (refine Reg.take 7 (v := undef) rfl (by kernel_rfl) (by kernel_rfl) (by kernel_rfl) (fun _ _ _ h => h) (Or.inr ⟨by rfl, rfl⟩) (by assumption) ?_))
  (try simp only [Act.put, List.setIfInBounds_toArray, List.set_cons_zero])
  refine wpAnyH_done (by kernel_rfl) ?_ _
  generalize w.drew.setRow g cur1.toArray = w3 at *
  have hcl := fun ty => HCL.out w3 ty C3.out
  clear HCL HAP htail hhead
  go_wp2_with fail
  go_ret
  exact ⟨rfl, FIN.out _ (setRow_heap w3 g _ _ _ _ C3.out), OwnS.grown_mov (U3.out.trans (OwnS.mov_setRow w3 g cur2.toArray) (fun _ h => .inl h))⟩
end Ded
end Go.Proofs.Ytndcflchdecofaa
