/-
  WALKS: whether a device may be: zns's own test, the document's. (Written by gen_check.py.)
-/
import Derived.Test.YtnnphpfobdcmbaaZnsMem
namespace Go.Proofs.Ytnnphpfobdcmbaa
open Go.RowKit Mem Zon
namespace Zns

/-- A device in a block of its own. -/
def DBox (w : World) (g : Nat) (d : Dx) : Prop := Cells w g 38 #[.int .i64 d.cap, .int .i64 d.op, .int .i64 d.ac, .slice d.A d.n d.c]
theorem DBox.below {w w' : World} {g : Nat} {d : Dx} (h : DBox w g d) (hb : Below w.heap.size w w') : DBox w' g d := Cells.below h hb
theorem DBox.lt {w : World} {g : Nat} {d : Dx} (h : DBox w g d) : g < w.heap.size := Cells.lt h
theorem DBox.cells {w : World} {g : Nat} {d : Dx} (h : DBox w g d) : w.cell? ⟨g, 0, none⟩ = some (.int .i64 d.cap) ∧ w.cell? ⟨g, 1, none⟩ = some (.int .i64 d.op) ∧ w.cell? ⟨g, 2, none⟩ = some (.int .i64 d.ac) ∧ w.cell? ⟨g, 3, none⟩ = some (.slice d.A d.n d.c) :=
  ⟨Cells.cell h 0, Cells.cell h 1, Cells.cell h 2, Cells.cell h 3⟩
theorem DBox.frozen {w : World} {g : Nat} {d : Dx} (h : DBox w g d) : w.frozen? ⟨g, 0, none⟩ = false ∧ w.frozen? ⟨g, 1, none⟩ = false ∧ w.frozen? ⟨g, 2, none⟩ = false ∧ w.frozen? ⟨g, 3, none⟩ = false :=
  ⟨Cells.frozen h 0, Cells.frozen h 1, Cells.frozen h 2, Cells.frozen h 3⟩
theorem DBox.new (w : World) (d : Dx) : DBox (w.alloc (.cells #[.int .i64 d.cap, .int .i64 d.op, .int .i64 d.ac, .slice d.A d.n d.c] 38)) w.heap.size d := Cells.new w _ _

set_option maxRecDepth 100000 in
set_option maxHeartbeats 1600000 in
theorem bounds_any (n most op ac : Int) (w : World) :
    Calls Try.prog 51 #[.int .i64 n, .int .i64 most, .int .i64 op, .int .i64 ac] w fun e w' => e = .returned (.bool (boundsB n most op ac)) ∧ w' = w := by
  unfold boundsB
  rcases e1 : decide (1 ≤ n)
  · go_enter Try.func51, Try.ntmps51
    go_wp2
    go_ret
    exact ⟨rfl, rfl⟩
  · rcases e2 : decide (n ≤ 64)
    · go_enter Try.func51, Try.ntmps51
      go_wp2
      go_ret
      exact ⟨rfl, rfl⟩
    · rcases e3 : decide (1 ≤ most)
      · go_enter Try.func51, Try.ntmps51
        go_wp2
        go_ret
        exact ⟨rfl, rfl⟩
      · rcases e4 : decide (most ≤ 65536)
        · go_enter Try.func51, Try.ntmps51
          go_wp2
          go_ret
          exact ⟨rfl, rfl⟩
        · rcases e5 : decide (1 ≤ op)
          · go_enter Try.func51, Try.ntmps51
            go_wp2
            go_ret
            exact ⟨rfl, rfl⟩
          · rcases e6 : decide (op ≤ ac)
            · go_enter Try.func51, Try.ntmps51
              go_wp2
              go_ret
              exact ⟨rfl, rfl⟩
            · rcases e7 : decide (ac ≤ n)
              · go_enter Try.func51, Try.ntmps51
                go_wp2
                go_ret
                exact ⟨rfl, rfl⟩
              · go_enter Try.func51, Try.ntmps51
                go_wp2
                go_ret
                exact ⟨rfl, rfl⟩

theorem okD_parts {d : Dv} : okD d = true ↔ boundsB d.zs.length d.cap d.op d.ac = true ∧ (∀ z ∈ d.zs, okB z d.cap = true) ∧ (cO d.zs : Int) ≤ d.op ∧ (cA d.zs : Int) ≤ d.ac := by
  unfold okD
  simp only [Bool.and_eq_true, List.all_eq_true, Bool.not_eq_true', decide_eq_false_iff_not, Int.not_lt]
theorem bounds_parts {n most op ac : Int} : boundsB n most op ac = true ↔ 1 ≤ n ∧ n ≤ 64 ∧ 1 ≤ most ∧ most ≤ 65536 ∧ 1 ≤ op ∧ op ≤ ac ∧ ac ≤ n := by
  unfold boundsB
  simp only [Bool.and_eq_true, decide_eq_true_eq]
theorem okD_dx {d : Dx} {w : World} (h : DevAt w d) : okD d.p = true ↔ boundsB d.n d.cap d.op d.ac = true ∧ (∀ x ∈ d.xs, okB x.z d.cap = true) ∧ (cntO d.xs : Int) ≤ d.op ∧ (cntA d.xs : Int) ≤ d.ac := by
  rw [okD_parts, h.plen, cntO_map, cntA_map]
  unfold Dx.p
  simp only [List.mem_map, forall_exists_index, and_imp, forall_apply_eq_imp_iff₂]
theorem okD_false {d : Dx} {w : World} (h : DevAt w d) (hn : ¬ (boundsB d.n d.cap d.op d.ac = true ∧ (∀ x ∈ d.xs, okB x.z d.cap = true) ∧ (cntO d.xs : Int) ≤ d.op ∧ (cntA d.xs : Int) ≤ d.ac)) : okD d.p = false := by
  rcases e : okD d.p
  · rfl
  · exact absurd ((okD_dx h).1 e) hn

set_option maxRecDepth 100000 in
set_option maxHeartbeats 3200000 in
theorem check_dev {d : Dx} {w : World} (h : DevAt w d) :
    Calls Try.prog 38 #[dxv d] w fun e w' => e = .returned (.int .i64 (errOf (okD d.p))) ∧ Below w.heap.size w w' := by
  obtain ⟨cap, op, ac, A, n, c, xs⟩ := d
  have HR := Lib.hid h
  have L1 := Lib.hid ((Below.refl w.heap.size w).alloc (Nat.le_refl _) (.cells #[.int .i64 cap, .int .i64 op, .int .i64 ac, .slice A n c] 38))
  have B1 := Lib.hid (DBox.new w ⟨cap, op, ac, A, n, c, xs⟩)
  have hbig := h.row.big
  have HZ := fun (z : Zn) D c w => Lib.hid (check_any z D c cap w)
  have HO := fun w (h : RowS cellsZ 3 w A n c xs) => Lib.hid (opened_any h)
  have HA := fun w (h : RowS cellsZ 3 w A n c xs) => Lib.hid (active_any h)
  have HN := Lib.hid (okD_false h)
  have HLN := Lib.hid (show xs.length = n from h.row.len)
  have HY := Lib.hid (okD_dx h).2
  clear h
  unfold zv at HZ
  unfold dxv
  generalize okD (Dx.p ⟨cap, op, ac, A, n, c, xs⟩) = ok at *
  rcases hb : boundsB n cap op ac
  · have HB := fun w => bounds_any n cap op ac w
    rw [hb] at HB
    go_enter Try.func38, Try.ntmps38
    go_upto_region 1 with fail
    generalize w.alloc (.cells #[.int .i64 cap, .int .i64 op, .int .i64 ac, .slice A n c] 38) = w1 at *
    obtain ⟨m0, m1, m2, m3⟩ := B1.out.cells
    go_wp2_with fail
    refine (HB w1).mono ?_
    rintro e w2 ⟨rfl, rfl⟩
    go_wp2_with fail
    go_ret
    exact ⟨by rw [HN.out (fun h => by have := h.1; rw [hb] at this; cases this)]; rfl, L1.out⟩
  · have HB := fun w => bounds_any n cap op ac w
    rw [hb] at HB
    go_enter Try.func38, Try.ntmps38
    go_upto_region 1 with fail
    generalize w.alloc (.cells #[.int .i64 cap, .int .i64 op, .int .i64 ac, .slice A n c] 38) = w1 at *
    obtain ⟨m0, m1, m2, m3⟩ := B1.out.cells
    go_wp2_with fail
    refine (HB w1).mono ?_
    rintro e w2 ⟨rfl, rfl⟩
    have L2 := L1
    have B2 := B1
    clear L1 B1 HB
    go_wp2_with fail
    clear m0 m1 m2 m3
    have HBT := Lib.hid hb
    clear hb
    go_loopw [19] (fun i wr => ∃ k : Nat, i = .int .i64 k ∧ k ≤ n ∧ Hid ((∀ j, j < k → ∀ x, xs[j]? = some x → okB x.z cap = true) ∧ Below w.heap.size w wr ∧ DBox wr w.heap.size ⟨cap, op, ac, A, n, c, xs⟩)) (fun i _ => n - (intOf i).toNat)
    case atStart => exact ⟨0, rfl, by omega, fun j hj => by omega, L2.out, B2.out⟩
    case round =>
      obtain ⟨k, rfl, hk, hH⟩ := hrel
      by_cases hlt : k < n
      · obtain ⟨x, hx⟩ := HR.out.row.get hlt
        obtain ⟨b, o, rfl, hb, hc⟩ := HR.out.row.elem hx
        have c0 : wr.cell? ⟨b, o + k * 3, none⟩ = some (.int .i64 x.z.st) := hc wr (hH.out.2.1.block b hb) 0 _ rfl
        have c1 : wr.cell? ⟨b, o + k * 3 + 1, none⟩ = some (.int .i64 x.z.fc) := hc wr (hH.out.2.1.block b hb) 1 _ rfl
        have c2 : wr.cell? ⟨b, o + k * 3 + 2, none⟩ = some (.slice x.D x.z.data.length x.c) := hc wr (hH.out.2.1.block b hb) 2 _ rfl
        have hk0 : (0 : Int) ≤ (k : Int) := by omega
        have hk1 : (k : Int) < (n : Int) := by omega
        have b1 : Below wr.heap.size wr (wr.alloc (.cells #[.int .i64 x.z.st, .int .i64 x.z.fc, .slice x.D x.z.data.length x.c] 46)) := (Below.refl _ wr).alloc (Nat.le_refl _) _
        have LN := Lib.hid (hH.out.2.1.trans (b1.mono hH.out.2.1.size))
        have BN := Lib.hid (hH.out.2.2.below b1)
        have HE := Lib.hid hx
        have HX := fun w => HZ x.z x.D x.c w
        clear hc hx b1
        obtain ⟨m0, m1, m2, m3⟩ := BN.out.cells
        rcases hof : okB x.z cap
        · rw [hof] at HX
          unfold errOf at HX
          simp only [cond_false] at HX
          go_wp2_with fail
          refine (HX _).out.mono ?_
          rintro e w2 ⟨rfl, hb2⟩
          have L3 := Lib.hid (LN.out.trans (hb2.mono LN.out.size))
          clear hb2
          go_wp2_with fail
          go_ret
          exact ⟨by rw [HN.out (fun h => by have := h.2.1 x (List.mem_of_getElem? HE.out); rw [hof] at this; cases this)]; rfl, L3.out⟩
        · rw [hof] at HX
          unfold errOf at HX
          simp only [cond_true] at HX
          go_wp2_with fail
          refine (HX _).out.mono ?_
          rintro e w2 ⟨rfl, hb2⟩
          have L3 := Lib.hid (LN.out.trans (hb2.mono LN.out.size))
          have B3 := Lib.hid (BN.out.below hb2)
          clear hb2
          go_wp2_with fail
          go_roundw
          case rel =>
            refine ⟨k + 1, by go_num, by omega, fun j hj y hy => ?_, L3.out, B3.out⟩
            rcases Nat.lt_succ_iff_lt_or_eq.1 hj with h | rfl
            · exact hH.out.1 j h y hy
            · have := HE.out.symm.trans hy; injection this with this; subst this; exact hof
          case measure => simp [intOf]; omega
      · have hall : Hid (∀ x ∈ xs, okB x.z cap = true) := by
          show ∀ _, _
          intro x hx
          obtain ⟨j, hj, rfl⟩ := List.mem_iff_getElem.1 hx
          exact hH.out.1 j (by have := HLN.out; omega) _ (List.getElem?_eq_getElem hj)
        have hkn : n = k := by omega
        subst hkn
        go_upto_region 9 with fail
        have RW : Hid (RowS cellsZ 3 wr.drew A n c xs) := RowS.drew (HR.out.row.below hH.out.2.1)
        have BW : Hid (DBox wr.drew w.heap.size ⟨cap, op, ac, A, n, c, xs⟩) := hH.out.2.2
        have LW : Hid (Below w.heap.size w wr.drew) := hH.out.2.1.drew
        clear hH hk hlt HZ
        refine wp_region_held_drew (S := fun W => W.cell? ⟨w.heap.size, 0, none⟩ = some (.int .i64 cap) ∧ W.cell? ⟨w.heap.size, 1, none⟩ = some (.int .i64 op) ∧ W.cell? ⟨w.heap.size, 2, none⟩ = some (.int .i64 ac) ∧ W.cell? ⟨w.heap.size, 3, none⟩ = some (.slice A n c))
          (by kernel_rfl) BW.out.cells (fun hHeld => ?_)
        generalize wr.drew = w2 at *
        (first | (refine Reg.take 0 (v := ?_) rfl (by kernel_rfl) (by kernel_rfl) (by kernel_rfl) (fun _ _ _ h => h) (Or.inl ⟨by rfl, ?_⟩) (by assumption) ?_; rotate_left; (focus ((intro W hSW); (try dsimp only at hSW); (try go_split_ands); go_simp; (try (with_reducible rfl)); done))) | (refine Reg.take 0 (v := undef) rfl (by kernel_rfl) (by kernel_rfl) (by kernel_rfl) (fun _ _ _ h => h) (Or.inr ⟨by rfl, rfl⟩) (by assumption) ?_))
        (try simp only [Act.put, List.setIfInBounds_toArray, List.set_cons_zero, List.set_cons_succ])
        (first | (refine Reg.take 1 (v := ?_) rfl (by kernel_rfl) (by kernel_rfl) (by kernel_rfl) (fun _ _ _ h => h) (Or.inl ⟨by rfl, ?_⟩) (by assumption) ?_; rotate_left; (focus ((intro W hSW); (try dsimp only at hSW); (try go_split_ands); go_simp; (try (with_reducible rfl)); done))) | (refine Reg.take 1 (v := undef) rfl (by kernel_rfl) (by kernel_rfl) (by kernel_rfl) (fun _ _ _ h => h) (Or.inr ⟨by rfl, rfl⟩) (by assumption) ?_))
        (try simp only [Act.put, List.setIfInBounds_toArray, List.set_cons_zero, List.set_cons_succ])
        (first | (refine Reg.take 3 (v := ?_) rfl (by kernel_rfl) (by kernel_rfl) (by kernel_rfl) (fun _ _ _ h => h) (Or.inl ⟨by rfl, ?_⟩) (by assumption) ?_; rotate_left; (focus ((intro W hSW); (try dsimp only at hSW); (try go_split_ands); go_simp; (try (with_reducible rfl)); done))) | (refine Reg.take 3 (v := undef) rfl (by kernel_rfl) (by kernel_rfl) (by kernel_rfl) (fun _ _ _ h => h) (Or.inr ⟨by rfl, rfl⟩) (by assumption) ?_))
        (try simp only [Act.put, List.setIfInBounds_toArray, List.set_cons_zero, List.set_cons_succ])
        (first | (refine Reg.take 4 (v := ?_) rfl (by kernel_rfl) (by kernel_rfl) (by kernel_rfl) (fun _ _ _ h => h) (Or.inl ⟨by rfl, ?_⟩) (by assumption) ?_; rotate_left; (focus ((intro W hSW); (try dsimp only at hSW); (try go_split_ands); go_simp; (try (with_reducible rfl)); done))) | (refine Reg.take 4 (v := undef) rfl (by kernel_rfl) (by kernel_rfl) (by kernel_rfl) (fun _ _ _ h => h) (Or.inr ⟨by rfl, rfl⟩) (by assumption) ?_))
        (try simp only [Act.put, List.setIfInBounds_toArray, List.set_cons_zero, List.set_cons_succ])
        refine Reg.step 2 rfl (by kernel_rfl) (by rfl) (fun K hK => ?_)
        go_simp
        refine (HO w2 RW.out).out.mono ?_
        rintro e w3 ⟨rfl, hb⟩
        have R3 := Lib.hid (RW.out.below hb)
        have B3 := Lib.hid (BW.out.below hb)
        have L3 := Lib.hid (LW.out.trans (hb.mono LW.out.size))
        clear hb RW BW LW
        refine hK.out _ _ B3.out.cells (fun hHeld2 => ?_)
        clear hK K
        (try simp only [Act.put, List.setIfInBounds_toArray, List.set_cons_zero, List.set_cons_succ])
        rcases e5 : decide (op < (cntO xs : Int))
        · (first | (refine Reg.take 5 (v := ?_) rfl (by kernel_rfl) (by kernel_rfl) (by kernel_rfl) (fun _ _ _ h => h) (Or.inl ⟨by rfl, ?_⟩) (by assumption) ?_; rotate_left; (focus ((intro W hSW); (try dsimp only at hSW); (try go_split_ands); go_simp; (try (with_reducible rfl)); done))) | (refine Reg.take 5 (v := undef) rfl (by kernel_rfl) (by kernel_rfl) (by kernel_rfl) (fun _ _ _ h => h) (Or.inr ⟨by rfl, rfl⟩) (by assumption) ?_))
          (try simp only [Act.put, List.setIfInBounds_toArray, List.set_cons_zero, List.set_cons_succ])
          (first | (refine Reg.take 6 (v := ?_) rfl (by kernel_rfl) (by kernel_rfl) (by kernel_rfl) (fun _ _ _ h => h) (Or.inl ⟨by rfl, ?_⟩) (by assumption) ?_; rotate_left; (focus ((intro W hSW); (try dsimp only at hSW); (try go_split_ands); go_simp; (try (with_reducible rfl)); done))) | (refine Reg.take 6 (v := undef) rfl (by kernel_rfl) (by kernel_rfl) (by kernel_rfl) (fun _ _ _ h => h) (Or.inr ⟨by rfl, rfl⟩) (by assumption) ?_))
          (try simp only [Act.put, List.setIfInBounds_toArray, List.set_cons_zero, List.set_cons_succ])
          (first | (refine Reg.take 7 (v := ?_) rfl (by kernel_rfl) (by kernel_rfl) (by kernel_rfl) (fun _ _ _ h => h) (Or.inl ⟨by rfl, ?_⟩) (by assumption) ?_; rotate_left; (focus ((intro W hSW); (try dsimp only at hSW); (try go_split_ands); go_simp; (try (with_reducible rfl)); done))) | (refine Reg.take 7 (v := undef) rfl (by kernel_rfl) (by kernel_rfl) (by kernel_rfl) (fun _ _ _ h => h) (Or.inr ⟨by rfl, rfl⟩) (by assumption) ?_))
          (try simp only [Act.put, List.setIfInBounds_toArray, List.set_cons_zero, List.set_cons_succ])
          (first | (refine Reg.take 8 (v := ?_) rfl (by kernel_rfl) (by kernel_rfl) (by kernel_rfl) (fun _ _ _ h => h) (Or.inl ⟨by rfl, ?_⟩) (by assumption) ?_; rotate_left; (focus ((intro W hSW); (try dsimp only at hSW); (try go_split_ands); go_simp; (try (with_reducible rfl)); done))) | (refine Reg.take 8 (v := undef) rfl (by kernel_rfl) (by kernel_rfl) (by kernel_rfl) (fun _ _ _ h => h) (Or.inr ⟨by rfl, rfl⟩) (by assumption) ?_))
          (try simp only [Act.put, List.setIfInBounds_toArray, List.set_cons_zero, List.set_cons_succ])
          (first | (refine Reg.take 10 (v := ?_) rfl (by kernel_rfl) (by kernel_rfl) (by kernel_rfl) (fun _ _ _ h => h) (Or.inl ⟨by rfl, ?_⟩) (by assumption) ?_; rotate_left; (focus ((intro W hSW); (try dsimp only at hSW); (try go_split_ands); go_simp; (try (with_reducible rfl)); done))) | (refine Reg.take 10 (v := undef) rfl (by kernel_rfl) (by kernel_rfl) (by kernel_rfl) (fun _ _ _ h => h) (Or.inr ⟨by rfl, rfl⟩) (by assumption) ?_))
          (try simp only [Act.put, List.setIfInBounds_toArray, List.set_cons_zero, List.set_cons_succ])
          (first | (refine Reg.take 11 (v := ?_) rfl (by kernel_rfl) (by kernel_rfl) (by kernel_rfl) (fun _ _ _ h => h) (Or.inl ⟨by rfl, ?_⟩) (by assumption) ?_; rotate_left; (focus ((intro W hSW); (try dsimp only at hSW); (try go_split_ands); go_simp; (try (with_reducible rfl)); done))) | (refine Reg.take 11 (v := undef) rfl (by kernel_rfl) (by kernel_rfl) (by kernel_rfl) (fun _ _ _ h => h) (Or.inr ⟨by rfl, rfl⟩) (by assumption) ?_))
          (try simp only [Act.put, List.setIfInBounds_toArray, List.set_cons_zero, List.set_cons_succ])
          refine Reg.step 9 rfl (by kernel_rfl) (by rfl) (fun K hK => ?_)
          go_simp
          refine (HA w3 R3.out).out.mono ?_
          rintro e w4 ⟨rfl, hb⟩
          have B4 := Lib.hid (B3.out.below hb)
          have L4 := Lib.hid (L3.out.trans (hb.mono L3.out.size))
          clear hb R3 B3 L3
          refine hK.out _ _ B4.out.cells (fun hHeld3 => ?_)
          clear hK K
          (try simp only [Act.put, List.setIfInBounds_toArray, List.set_cons_zero, List.set_cons_succ])
          rcases e6 : decide (ac < (cntA xs : Int))
          · (first | (refine Reg.take 12 (v := ?_) rfl (by kernel_rfl) (by kernel_rfl) (by kernel_rfl) (fun _ _ _ h => h) (Or.inl ⟨by rfl, ?_⟩) (by assumption) ?_; rotate_left; (focus ((intro W hSW); (try dsimp only at hSW); (try go_split_ands); go_simp; (try (with_reducible rfl)); done))) | (refine Reg.take 12 (v := undef) rfl (by kernel_rfl) (by kernel_rfl) (by kernel_rfl) (fun _ _ _ h => h) (Or.inr ⟨by rfl, rfl⟩) (by assumption) ?_))
            (try simp only [Act.put, List.setIfInBounds_toArray, List.set_cons_zero, List.set_cons_succ])
            (first | (refine Reg.take 13 (v := ?_) rfl (by kernel_rfl) (by kernel_rfl) (by kernel_rfl) (fun _ _ _ h => h) (Or.inl ⟨by rfl, ?_⟩) (by assumption) ?_; rotate_left; (focus ((intro W hSW); (try dsimp only at hSW); (try go_split_ands); go_simp; (try (with_reducible rfl)); done))) | (refine Reg.take 13 (v := undef) rfl (by kernel_rfl) (by kernel_rfl) (by kernel_rfl) (fun _ _ _ h => h) (Or.inr ⟨by rfl, rfl⟩) (by assumption) ?_))
            (try simp only [Act.put, List.setIfInBounds_toArray, List.set_cons_zero, List.set_cons_succ])
            refine wpAnyH_done (by kernel_rfl) ?_ _
            go_wp2_with fail
            go_ret
            have hok := HY.out ⟨HBT.out, hall.out, by have := of_decide_eq_false e5; omega, by have := of_decide_eq_false e6; omega⟩
            exact ⟨by rw [hok]; rfl, L4.out⟩
          · (first | (refine Reg.take 12 (v := ?_) rfl (by kernel_rfl) (by kernel_rfl) (by kernel_rfl) (fun _ _ _ h => h) (Or.inl ⟨by rfl, ?_⟩) (by assumption) ?_; rotate_left; (focus ((intro W hSW); (try dsimp only at hSW); (try go_split_ands); go_simp; (try (with_reducible rfl)); done))) | (refine Reg.take 12 (v := undef) rfl (by kernel_rfl) (by kernel_rfl) (by kernel_rfl) (fun _ _ _ h => h) (Or.inr ⟨by rfl, rfl⟩) (by assumption) ?_))
            (try simp only [Act.put, List.setIfInBounds_toArray, List.set_cons_zero, List.set_cons_succ])
            (first | (refine Reg.take 13 (v := ?_) rfl (by kernel_rfl) (by kernel_rfl) (by kernel_rfl) (fun _ _ _ h => h) (Or.inl ⟨by rfl, ?_⟩) (by assumption) ?_; rotate_left; (focus ((intro W hSW); (try dsimp only at hSW); (try go_split_ands); go_simp; (try (with_reducible rfl)); done))) | (refine Reg.take 13 (v := undef) rfl (by kernel_rfl) (by kernel_rfl) (by kernel_rfl) (fun _ _ _ h => h) (Or.inr ⟨by rfl, rfl⟩) (by assumption) ?_))
            (try simp only [Act.put, List.setIfInBounds_toArray, List.set_cons_zero, List.set_cons_succ])
            refine wpAnyH_done (by kernel_rfl) ?_ _
            go_wp2_with fail
            go_ret
            have hok := HN.out (fun h => by have := h.2.2.2; have := of_decide_eq_true e6; omega)
            exact ⟨by rw [hok]; rfl, L4.out⟩
        · (first | (refine Reg.take 5 (v := ?_) rfl (by kernel_rfl) (by kernel_rfl) (by kernel_rfl) (fun _ _ _ h => h) (Or.inl ⟨by rfl, ?_⟩) (by assumption) ?_; rotate_left; (focus ((intro W hSW); (try dsimp only at hSW); (try go_split_ands); go_simp; (try (with_reducible rfl)); done))) | (refine Reg.take 5 (v := undef) rfl (by kernel_rfl) (by kernel_rfl) (by kernel_rfl) (fun _ _ _ h => h) (Or.inr ⟨by rfl, rfl⟩) (by assumption) ?_))
          (try simp only [Act.put, List.setIfInBounds_toArray, List.set_cons_zero, List.set_cons_succ])
          (first | (refine Reg.take 6 (v := ?_) rfl (by kernel_rfl) (by kernel_rfl) (by kernel_rfl) (fun _ _ _ h => h) (Or.inl ⟨by rfl, ?_⟩) (by assumption) ?_; rotate_left; (focus ((intro W hSW); (try dsimp only at hSW); (try go_split_ands); go_simp; (try (with_reducible rfl)); done))) | (refine Reg.take 6 (v := undef) rfl (by kernel_rfl) (by kernel_rfl) (by kernel_rfl) (fun _ _ _ h => h) (Or.inr ⟨by rfl, rfl⟩) (by assumption) ?_))
          (try simp only [Act.put, List.setIfInBounds_toArray, List.set_cons_zero, List.set_cons_succ])
          (first | (refine Reg.take 7 (v := ?_) rfl (by kernel_rfl) (by kernel_rfl) (by kernel_rfl) (fun _ _ _ h => h) (Or.inl ⟨by rfl, ?_⟩) (by assumption) ?_; rotate_left; (focus ((intro W hSW); (try dsimp only at hSW); (try go_split_ands); go_simp; (try (with_reducible rfl)); done))) | (refine Reg.take 7 (v := undef) rfl (by kernel_rfl) (by kernel_rfl) (by kernel_rfl) (fun _ _ _ h => h) (Or.inr ⟨by rfl, rfl⟩) (by assumption) ?_))
          (try simp only [Act.put, List.setIfInBounds_toArray, List.set_cons_zero, List.set_cons_succ])
          (first | (refine Reg.take 8 (v := ?_) rfl (by kernel_rfl) (by kernel_rfl) (by kernel_rfl) (fun _ _ _ h => h) (Or.inl ⟨by rfl, ?_⟩) (by assumption) ?_; rotate_left; (focus ((intro W hSW); (try dsimp only at hSW); (try go_split_ands); go_simp; (try (with_reducible rfl)); done))) | (refine Reg.take 8 (v := undef) rfl (by kernel_rfl) (by kernel_rfl) (by kernel_rfl) (fun _ _ _ h => h) (Or.inr ⟨by rfl, rfl⟩) (by assumption) ?_))
          (try simp only [Act.put, List.setIfInBounds_toArray, List.set_cons_zero, List.set_cons_succ])
          (first | (refine Reg.take 9 (v := ?_) rfl (by kernel_rfl) (by kernel_rfl) (by kernel_rfl) (fun _ _ _ h => h) (Or.inl ⟨by rfl, ?_⟩) (by assumption) ?_; rotate_left; (focus ((intro W hSW); (try dsimp only at hSW); (try go_split_ands); go_simp; (try (with_reducible rfl)); done))) | (refine Reg.take 9 (v := undef) rfl (by kernel_rfl) (by kernel_rfl) (by kernel_rfl) (fun _ _ _ h => h) (Or.inr ⟨by rfl, rfl⟩) (by assumption) ?_))
          (try simp only [Act.put, List.setIfInBounds_toArray, List.set_cons_zero, List.set_cons_succ])
          (first | (refine Reg.take 10 (v := ?_) rfl (by kernel_rfl) (by kernel_rfl) (by kernel_rfl) (fun _ _ _ h => h) (Or.inl ⟨by rfl, ?_⟩) (by assumption) ?_; rotate_left; (focus ((intro W hSW); (try dsimp only at hSW); (try go_split_ands); go_simp; (try (with_reducible rfl)); done))) | (refine Reg.take 10 (v := undef) rfl (by kernel_rfl) (by kernel_rfl) (by kernel_rfl) (fun _ _ _ h => h) (Or.inr ⟨by rfl, rfl⟩) (by assumption) ?_))
          (try simp only [Act.put, List.setIfInBounds_toArray, List.set_cons_zero, List.set_cons_succ])
          (first | (refine Reg.take 11 (v := ?_) rfl (by kernel_rfl) (by kernel_rfl) (by kernel_rfl) (fun _ _ _ h => h) (Or.inl ⟨by rfl, ?_⟩) (by assumption) ?_; rotate_left; (focus ((intro W hSW); (try dsimp only at hSW); (try go_split_ands); go_simp; (try (with_reducible rfl)); done))) | (refine Reg.take 11 (v := undef) rfl (by kernel_rfl) (by kernel_rfl) (by kernel_rfl) (fun _ _ _ h => h) (Or.inr ⟨by rfl, rfl⟩) (by assumption) ?_))
          (try simp only [Act.put, List.setIfInBounds_toArray, List.set_cons_zero, List.set_cons_succ])
          (first | (refine Reg.take 12 (v := ?_) rfl (by kernel_rfl) (by kernel_rfl) (by kernel_rfl) (fun _ _ _ h => h) (Or.inl ⟨by rfl, ?_⟩) (by assumption) ?_; rotate_left; (focus ((intro W hSW); (try dsimp only at hSW); (try go_split_ands); go_simp; (try (with_reducible rfl)); done))) | (refine Reg.take 12 (v := undef) rfl (by kernel_rfl) (by kernel_rfl) (by kernel_rfl) (fun _ _ _ h => h) (Or.inr ⟨by rfl, rfl⟩) (by assumption) ?_))
          (try simp only [Act.put, List.setIfInBounds_toArray, List.set_cons_zero, List.set_cons_succ])
          (first | (refine Reg.take 13 (v := ?_) rfl (by kernel_rfl) (by kernel_rfl) (by kernel_rfl) (fun _ _ _ h => h) (Or.inl ⟨by rfl, ?_⟩) (by assumption) ?_; rotate_left; (focus ((intro W hSW); (try dsimp only at hSW); (try go_split_ands); go_simp; (try (with_reducible rfl)); done))) | (refine Reg.take 13 (v := undef) rfl (by kernel_rfl) (by kernel_rfl) (by kernel_rfl) (fun _ _ _ h => h) (Or.inr ⟨by rfl, rfl⟩) (by assumption) ?_))
          (try simp only [Act.put, List.setIfInBounds_toArray, List.set_cons_zero, List.set_cons_succ])
          refine wpAnyH_done (by kernel_rfl) ?_ _
          go_wp2_with fail
          go_ret
          have hok := HN.out (fun h => by have := h.2.2.1; have := of_decide_eq_true e5; omega)
          exact ⟨by rw [hok]; rfl, L3.out⟩
set_option maxRecDepth 100000 in
set_option maxHeartbeats 3200000 in
theorem refCheck_dev {d : Dx} {w : World} (h : DevAt w d) :
    Calls Try.prog 14 #[dxv d] w fun e w' => e = .returned (.int .i64 (errOf (okD d.p))) ∧ Below w.heap.size w w' := by
  obtain ⟨cap, op, ac, A, n, c, xs⟩ := d
  have HR := Lib.hid h
  have L1 := Lib.hid ((Below.refl w.heap.size w).alloc (Nat.le_refl _) (.cells #[.int .i64 cap, .int .i64 op, .int .i64 ac, .slice A n c] 38))
  have B1 := Lib.hid (DBox.new w ⟨cap, op, ac, A, n, c, xs⟩)
  have hbig := h.row.big
  have HZ := fun (z : Zn) D c w => Lib.hid (refCheck_any z D c cap w)
  have HO := fun w (h : RowS cellsZ 3 w A n c xs) => Lib.hid (refOpened_any h)
  have HA := fun w (h : RowS cellsZ 3 w A n c xs) => Lib.hid (refActive_any h)
  have HN := Lib.hid (okD_false h)
  have HLN := Lib.hid (show xs.length = n from h.row.len)
  have HY := Lib.hid (okD_dx h).2
  clear h
  unfold zv at HZ
  unfold dxv
  generalize okD (Dx.p ⟨cap, op, ac, A, n, c, xs⟩) = ok at *
  rcases e1 : decide ((n : Int) < 1)
  · rcases e2 : decide ((64 : Int) < (n : Int))
    · rcases e3 : decide (cap < 1)
      · rcases e4 : decide (65536 < cap)
        · rcases e5 : decide (op < 1)
          · rcases e6 : decide (ac < op)
            · rcases e7 : decide ((n : Int) < ac)
              · have HBT : Hid (boundsB n cap op ac = true) := by
                  show _ = _
                  rw [bounds_parts]
                  have := of_decide_eq_false e1; have := of_decide_eq_false e2; have := of_decide_eq_false e3; have := of_decide_eq_false e4; have := of_decide_eq_false e5; have := of_decide_eq_false e6; have := of_decide_eq_false e7
                  omega
                go_enter Try.func14, Try.ntmps14
                go_upto_region 1 with fail
                generalize w.alloc (.cells #[.int .i64 cap, .int .i64 op, .int .i64 ac, .slice A n c] 38) = w1 at *
                obtain ⟨m0, m1, m2, m3⟩ := B1.out.cells
                have L2 := L1
                have B2 := B1
                clear L1 B1
                go_wp2_with fail
                clear m0 m1 m2 m3 e1 e2 e3 e4 e5 e6 e7
                go_loopw [46] (fun i wr => ∃ k : Nat, i = .int .i64 k ∧ k ≤ n ∧ Hid ((∀ j, j < k → ∀ x, xs[j]? = some x → okB x.z cap = true) ∧ Below w.heap.size w wr ∧ DBox wr w.heap.size ⟨cap, op, ac, A, n, c, xs⟩)) (fun i _ => n - (intOf i).toNat)
                case atStart => exact ⟨0, rfl, by omega, fun j hj => by omega, L2.out, B2.out⟩
                case round =>
                  obtain ⟨k, rfl, hk, hH⟩ := hrel
                  by_cases hlt : k < n
                  · obtain ⟨x, hx⟩ := HR.out.row.get hlt
                    obtain ⟨b, o, rfl, hb, hc⟩ := HR.out.row.elem hx
                    have c0 : wr.cell? ⟨b, o + k * 3, none⟩ = some (.int .i64 x.z.st) := hc wr (hH.out.2.1.block b hb) 0 _ rfl
                    have c1 : wr.cell? ⟨b, o + k * 3 + 1, none⟩ = some (.int .i64 x.z.fc) := hc wr (hH.out.2.1.block b hb) 1 _ rfl
                    have c2 : wr.cell? ⟨b, o + k * 3 + 2, none⟩ = some (.slice x.D x.z.data.length x.c) := hc wr (hH.out.2.1.block b hb) 2 _ rfl
                    have hk0 : (0 : Int) ≤ (k : Int) := by omega
                    have hk1 : (k : Int) < (n : Int) := by omega
                    have b1 : Below wr.heap.size wr (wr.alloc (.cells #[.int .i64 x.z.st, .int .i64 x.z.fc, .slice x.D x.z.data.length x.c] 46)) := (Below.refl _ wr).alloc (Nat.le_refl _) _
                    have LN := Lib.hid (hH.out.2.1.trans (b1.mono hH.out.2.1.size))
                    have BN := Lib.hid (hH.out.2.2.below b1)
                    have HE := Lib.hid hx
                    have HX := fun w => HZ x.z x.D x.c w
                    clear hc hx b1
                    obtain ⟨m0, m1, m2, m3⟩ := BN.out.cells
                    rcases hof : okB x.z cap
                    · rw [hof] at HX
                      unfold errOf at HX
                      simp only [cond_false] at HX
                      go_wp2_with fail
                      refine (HX _).out.mono ?_
                      rintro e w2 ⟨rfl, hb2⟩
                      have L3 := Lib.hid (LN.out.trans (hb2.mono LN.out.size))
                      clear hb2
                      go_wp2_with fail
                      go_ret
                      exact ⟨by rw [HN.out (fun h => by have := h.2.1 x (List.mem_of_getElem? HE.out); rw [hof] at this; cases this)]; rfl, L3.out⟩
                    · rw [hof] at HX
                      unfold errOf at HX
                      simp only [cond_true] at HX
                      go_wp2_with fail
                      refine (HX _).out.mono ?_
                      rintro e w2 ⟨rfl, hb2⟩
                      have L3 := Lib.hid (LN.out.trans (hb2.mono LN.out.size))
                      have B3 := Lib.hid (BN.out.below hb2)
                      clear hb2
                      go_wp2_with fail
                      go_roundw
                      case rel =>
                        refine ⟨k + 1, by go_num, by omega, fun j hj y hy => ?_, L3.out, B3.out⟩
                        rcases Nat.lt_succ_iff_lt_or_eq.1 hj with h | rfl
                        · exact hH.out.1 j h y hy
                        · have := HE.out.symm.trans hy; injection this with this; subst this; exact hof
                      case measure => simp [intOf]; omega
                  · have hall : Hid (∀ x ∈ xs, okB x.z cap = true) := by
                      show ∀ _, _
                      intro x hx
                      obtain ⟨j, hj, rfl⟩ := List.mem_iff_getElem.1 hx
                      exact hH.out.1 j (by have := HLN.out; omega) _ (List.getElem?_eq_getElem hj)
                    have hkn : n = k := by omega
                    subst hkn
                    go_upto_region 10 with fail
                    have RW : Hid (RowS cellsZ 3 wr.drew A n c xs) := RowS.drew (HR.out.row.below hH.out.2.1)
                    have BW : Hid (DBox wr.drew w.heap.size ⟨cap, op, ac, A, n, c, xs⟩) := hH.out.2.2
                    have LW : Hid (Below w.heap.size w wr.drew) := hH.out.2.1.drew
                    clear hH hk hlt HZ
                    refine wp_region_held_drew (S := fun W => W.cell? ⟨w.heap.size, 0, none⟩ = some (.int .i64 cap) ∧ W.cell? ⟨w.heap.size, 1, none⟩ = some (.int .i64 op) ∧ W.cell? ⟨w.heap.size, 2, none⟩ = some (.int .i64 ac) ∧ W.cell? ⟨w.heap.size, 3, none⟩ = some (.slice A n c))
                      (by kernel_rfl) BW.out.cells (fun hHeld => ?_)
                    generalize wr.drew = w2 at *
                    (first | (refine Reg.take 0 (v := ?_) rfl (by kernel_rfl) (by kernel_rfl) (by kernel_rfl) (fun _ _ _ h => h) (Or.inl ⟨by rfl, ?_⟩) (by assumption) ?_; rotate_left; (focus ((intro W hSW); (try dsimp only at hSW); (try go_split_ands); go_simp; (try (with_reducible rfl)); done))) | (refine Reg.take 0 (v := undef) rfl (by kernel_rfl) (by kernel_rfl) (by kernel_rfl) (fun _ _ _ h => h) (Or.inr ⟨by rfl, rfl⟩) (by assumption) ?_))
                    (try simp only [Act.put, List.setIfInBounds_toArray, List.set_cons_zero, List.set_cons_succ])
                    (first | (refine Reg.take 1 (v := ?_) rfl (by kernel_rfl) (by kernel_rfl) (by kernel_rfl) (fun _ _ _ h => h) (Or.inl ⟨by rfl, ?_⟩) (by assumption) ?_; rotate_left; (focus ((intro W hSW); (try dsimp only at hSW); (try go_split_ands); go_simp; (try (with_reducible rfl)); done))) | (refine Reg.take 1 (v := undef) rfl (by kernel_rfl) (by kernel_rfl) (by kernel_rfl) (fun _ _ _ h => h) (Or.inr ⟨by rfl, rfl⟩) (by assumption) ?_))
                    (try simp only [Act.put, List.setIfInBounds_toArray, List.set_cons_zero, List.set_cons_succ])
                    (first | (refine Reg.take 3 (v := ?_) rfl (by kernel_rfl) (by kernel_rfl) (by kernel_rfl) (fun _ _ _ h => h) (Or.inl ⟨by rfl, ?_⟩) (by assumption) ?_; rotate_left; (focus ((intro W hSW); (try dsimp only at hSW); (try go_split_ands); go_simp; (try (with_reducible rfl)); done))) | (refine Reg.take 3 (v := undef) rfl (by kernel_rfl) (by kernel_rfl) (by kernel_rfl) (fun _ _ _ h => h) (Or.inr ⟨by rfl, rfl⟩) (by assumption) ?_))
                    (try simp only [Act.put, List.setIfInBounds_toArray, List.set_cons_zero, List.set_cons_succ])
                    (first | (refine Reg.take 4 (v := ?_) rfl (by kernel_rfl) (by kernel_rfl) (by kernel_rfl) (fun _ _ _ h => h) (Or.inl ⟨by rfl, ?_⟩) (by assumption) ?_; rotate_left; (focus ((intro W hSW); (try dsimp only at hSW); (try go_split_ands); go_simp; (try (with_reducible rfl)); done))) | (refine Reg.take 4 (v := undef) rfl (by kernel_rfl) (by kernel_rfl) (by kernel_rfl) (fun _ _ _ h => h) (Or.inr ⟨by rfl, rfl⟩) (by assumption) ?_))
                    (try simp only [Act.put, List.setIfInBounds_toArray, List.set_cons_zero, List.set_cons_succ])
                    refine Reg.step 2 rfl (by kernel_rfl) (by rfl) (fun K hK => ?_)
                    go_simp
                    refine (HO w2 RW.out).out.mono ?_
                    rintro e w3 ⟨rfl, hb⟩
                    have R3 := Lib.hid (RW.out.below hb)
                    have B3 := Lib.hid (BW.out.below hb)
                    have L3 := Lib.hid (LW.out.trans (hb.mono LW.out.size))
                    clear hb RW BW LW
                    refine hK.out _ _ B3.out.cells (fun hHeld2 => ?_)
                    clear hK K
                    (try simp only [Act.put, List.setIfInBounds_toArray, List.set_cons_zero, List.set_cons_succ])
                    rcases e5 : decide (op < (cntO xs : Int))
                    · (first | (refine Reg.take 5 (v := ?_) rfl (by kernel_rfl) (by kernel_rfl) (by kernel_rfl) (fun _ _ _ h => h) (Or.inl ⟨by rfl, ?_⟩) (by assumption) ?_; rotate_left; (focus ((intro W hSW); (try dsimp only at hSW); (try go_split_ands); go_simp; (try (with_reducible rfl)); done))) | (refine Reg.take 5 (v := undef) rfl (by kernel_rfl) (by kernel_rfl) (by kernel_rfl) (fun _ _ _ h => h) (Or.inr ⟨by rfl, rfl⟩) (by assumption) ?_))
                      (try simp only [Act.put, List.setIfInBounds_toArray, List.set_cons_zero, List.set_cons_succ])
                      (first | (refine Reg.take 6 (v := ?_) rfl (by kernel_rfl) (by kernel_rfl) (by kernel_rfl) (fun _ _ _ h => h) (Or.inl ⟨by rfl, ?_⟩) (by assumption) ?_; rotate_left; (focus ((intro W hSW); (try dsimp only at hSW); (try go_split_ands); go_simp; (try (with_reducible rfl)); done))) | (refine Reg.take 6 (v := undef) rfl (by kernel_rfl) (by kernel_rfl) (by kernel_rfl) (fun _ _ _ h => h) (Or.inr ⟨by rfl, rfl⟩) (by assumption) ?_))
                      (try simp only [Act.put, List.setIfInBounds_toArray, List.set_cons_zero, List.set_cons_succ])
                      (first | (refine Reg.take 7 (v := ?_) rfl (by kernel_rfl) (by kernel_rfl) (by kernel_rfl) (fun _ _ _ h => h) (Or.inl ⟨by rfl, ?_⟩) (by assumption) ?_; rotate_left; (focus ((intro W hSW); (try dsimp only at hSW); (try go_split_ands); go_simp; (try (with_reducible rfl)); done))) | (refine Reg.take 7 (v := undef) rfl (by kernel_rfl) (by kernel_rfl) (by kernel_rfl) (fun _ _ _ h => h) (Or.inr ⟨by rfl, rfl⟩) (by assumption) ?_))
                      (try simp only [Act.put, List.setIfInBounds_toArray, List.set_cons_zero, List.set_cons_succ])
                      (first | (refine Reg.take 8 (v := ?_) rfl (by kernel_rfl) (by kernel_rfl) (by kernel_rfl) (fun _ _ _ h => h) (Or.inl ⟨by rfl, ?_⟩) (by assumption) ?_; rotate_left; (focus ((intro W hSW); (try dsimp only at hSW); (try go_split_ands); go_simp; (try (with_reducible rfl)); done))) | (refine Reg.take 8 (v := undef) rfl (by kernel_rfl) (by kernel_rfl) (by kernel_rfl) (fun _ _ _ h => h) (Or.inr ⟨by rfl, rfl⟩) (by assumption) ?_))
                      (try simp only [Act.put, List.setIfInBounds_toArray, List.set_cons_zero, List.set_cons_succ])
                      (first | (refine Reg.take 10 (v := ?_) rfl (by kernel_rfl) (by kernel_rfl) (by kernel_rfl) (fun _ _ _ h => h) (Or.inl ⟨by rfl, ?_⟩) (by assumption) ?_; rotate_left; (focus ((intro W hSW); (try dsimp only at hSW); (try go_split_ands); go_simp; (try (with_reducible rfl)); done))) | (refine Reg.take 10 (v := undef) rfl (by kernel_rfl) (by kernel_rfl) (by kernel_rfl) (fun _ _ _ h => h) (Or.inr ⟨by rfl, rfl⟩) (by assumption) ?_))
                      (try simp only [Act.put, List.setIfInBounds_toArray, List.set_cons_zero, List.set_cons_succ])
                      (first | (refine Reg.take 11 (v := ?_) rfl (by kernel_rfl) (by kernel_rfl) (by kernel_rfl) (fun _ _ _ h => h) (Or.inl ⟨by rfl, ?_⟩) (by assumption) ?_; rotate_left; (focus ((intro W hSW); (try dsimp only at hSW); (try go_split_ands); go_simp; (try (with_reducible rfl)); done))) | (refine Reg.take 11 (v := undef) rfl (by kernel_rfl) (by kernel_rfl) (by kernel_rfl) (fun _ _ _ h => h) (Or.inr ⟨by rfl, rfl⟩) (by assumption) ?_))
                      (try simp only [Act.put, List.setIfInBounds_toArray, List.set_cons_zero, List.set_cons_succ])
                      refine Reg.step 9 rfl (by kernel_rfl) (by rfl) (fun K hK => ?_)
                      go_simp
                      refine (HA w3 R3.out).out.mono ?_
                      rintro e w4 ⟨rfl, hb⟩
                      have B4 := Lib.hid (B3.out.below hb)
                      have L4 := Lib.hid (L3.out.trans (hb.mono L3.out.size))
                      clear hb R3 B3 L3
                      refine hK.out _ _ B4.out.cells (fun hHeld3 => ?_)
                      clear hK K
                      (try simp only [Act.put, List.setIfInBounds_toArray, List.set_cons_zero, List.set_cons_succ])
                      rcases e6 : decide (ac < (cntA xs : Int))
                      · (first | (refine Reg.take 12 (v := ?_) rfl (by kernel_rfl) (by kernel_rfl) (by kernel_rfl) (fun _ _ _ h => h) (Or.inl ⟨by rfl, ?_⟩) (by assumption) ?_; rotate_left; (focus ((intro W hSW); (try dsimp only at hSW); (try go_split_ands); go_simp; (try (with_reducible rfl)); done))) | (refine Reg.take 12 (v := undef) rfl (by kernel_rfl) (by kernel_rfl) (by kernel_rfl) (fun _ _ _ h => h) (Or.inr ⟨by rfl, rfl⟩) (by assumption) ?_))
                        (try simp only [Act.put, List.setIfInBounds_toArray, List.set_cons_zero, List.set_cons_succ])
                        (first | (refine Reg.take 13 (v := ?_) rfl (by kernel_rfl) (by kernel_rfl) (by kernel_rfl) (fun _ _ _ h => h) (Or.inl ⟨by rfl, ?_⟩) (by assumption) ?_; rotate_left; (focus ((intro W hSW); (try dsimp only at hSW); (try go_split_ands); go_simp; (try (with_reducible rfl)); done))) | (refine Reg.take 13 (v := undef) rfl (by kernel_rfl) (by kernel_rfl) (by kernel_rfl) (fun _ _ _ h => h) (Or.inr ⟨by rfl, rfl⟩) (by assumption) ?_))
                        (try simp only [Act.put, List.setIfInBounds_toArray, List.set_cons_zero, List.set_cons_succ])
                        refine wpAnyH_done (by kernel_rfl) ?_ _
                        go_wp2_with fail
                        go_ret
                        have hok := HY.out ⟨HBT.out, hall.out, by have := of_decide_eq_false e5; omega, by have := of_decide_eq_false e6; omega⟩
                        exact ⟨by rw [hok]; rfl, L4.out⟩
                      · (first | (refine Reg.take 12 (v := ?_) rfl (by kernel_rfl) (by kernel_rfl) (by kernel_rfl) (fun _ _ _ h => h) (Or.inl ⟨by rfl, ?_⟩) (by assumption) ?_; rotate_left; (focus ((intro W hSW); (try dsimp only at hSW); (try go_split_ands); go_simp; (try (with_reducible rfl)); done))) | (refine Reg.take 12 (v := undef) rfl (by kernel_rfl) (by kernel_rfl) (by kernel_rfl) (fun _ _ _ h => h) (Or.inr ⟨by rfl, rfl⟩) (by assumption) ?_))
                        (try simp only [Act.put, List.setIfInBounds_toArray, List.set_cons_zero, List.set_cons_succ])
                        (first | (refine Reg.take 13 (v := ?_) rfl (by kernel_rfl) (by kernel_rfl) (by kernel_rfl) (fun _ _ _ h => h) (Or.inl ⟨by rfl, ?_⟩) (by assumption) ?_; rotate_left; (focus ((intro W hSW); (try dsimp only at hSW); (try go_split_ands); go_simp; (try (with_reducible rfl)); done))) | (refine Reg.take 13 (v := undef) rfl (by kernel_rfl) (by kernel_rfl) (by kernel_rfl) (fun _ _ _ h => h) (Or.inr ⟨by rfl, rfl⟩) (by assumption) ?_))
                        (try simp only [Act.put, List.setIfInBounds_toArray, List.set_cons_zero, List.set_cons_succ])
                        refine wpAnyH_done (by kernel_rfl) ?_ _
                        go_wp2_with fail
                        go_ret
                        have hok := HN.out (fun h => by have := h.2.2.2; have := of_decide_eq_true e6; omega)
                        exact ⟨by rw [hok]; rfl, L4.out⟩
                    · (first | (refine Reg.take 5 (v := ?_) rfl (by kernel_rfl) (by kernel_rfl) (by kernel_rfl) (fun _ _ _ h => h) (Or.inl ⟨by rfl, ?_⟩) (by assumption) ?_; rotate_left; (focus ((intro W hSW); (try dsimp only at hSW); (try go_split_ands); go_simp; (try (with_reducible rfl)); done))) | (refine Reg.take 5 (v := undef) rfl (by kernel_rfl) (by kernel_rfl) (by kernel_rfl) (fun _ _ _ h => h) (Or.inr ⟨by rfl, rfl⟩) (by assumption) ?_))
                      (try simp only [Act.put, List.setIfInBounds_toArray, List.set_cons_zero, List.set_cons_succ])
                      (first | (refine Reg.take 6 (v := ?_) rfl (by kernel_rfl) (by kernel_rfl) (by kernel_rfl) (fun _ _ _ h => h) (Or.inl ⟨by rfl, ?_⟩) (by assumption) ?_; rotate_left; (focus ((intro W hSW); (try dsimp only at hSW); (try go_split_ands); go_simp; (try (with_reducible rfl)); done))) | (refine Reg.take 6 (v := undef) rfl (by kernel_rfl) (by kernel_rfl) (by kernel_rfl) (fun _ _ _ h => h) (Or.inr ⟨by rfl, rfl⟩) (by assumption) ?_))
                      (try simp only [Act.put, List.setIfInBounds_toArray, List.set_cons_zero, List.set_cons_succ])
                      (first | (refine Reg.take 7 (v := ?_) rfl (by kernel_rfl) (by kernel_rfl) (by kernel_rfl) (fun _ _ _ h => h) (Or.inl ⟨by rfl, ?_⟩) (by assumption) ?_; rotate_left; (focus ((intro W hSW); (try dsimp only at hSW); (try go_split_ands); go_simp; (try (with_reducible rfl)); done))) | (refine Reg.take 7 (v := undef) rfl (by kernel_rfl) (by kernel_rfl) (by kernel_rfl) (fun _ _ _ h => h) (Or.inr ⟨by rfl, rfl⟩) (by assumption) ?_))
                      (try simp only [Act.put, List.setIfInBounds_toArray, List.set_cons_zero, List.set_cons_succ])
                      (first | (refine Reg.take 8 (v := ?_) rfl (by kernel_rfl) (by kernel_rfl) (by kernel_rfl) (fun _ _ _ h => h) (Or.inl ⟨by rfl, ?_⟩) (by assumption) ?_; rotate_left; (focus ((intro W hSW); (try dsimp only at hSW); (try go_split_ands); go_simp; (try (with_reducible rfl)); done))) | (refine Reg.take 8 (v := undef) rfl (by kernel_rfl) (by kernel_rfl) (by kernel_rfl) (fun _ _ _ h => h) (Or.inr ⟨by rfl, rfl⟩) (by assumption) ?_))
                      (try simp only [Act.put, List.setIfInBounds_toArray, List.set_cons_zero, List.set_cons_succ])
                      (first | (refine Reg.take 9 (v := ?_) rfl (by kernel_rfl) (by kernel_rfl) (by kernel_rfl) (fun _ _ _ h => h) (Or.inl ⟨by rfl, ?_⟩) (by assumption) ?_; rotate_left; (focus ((intro W hSW); (try dsimp only at hSW); (try go_split_ands); go_simp; (try (with_reducible rfl)); done))) | (refine Reg.take 9 (v := undef) rfl (by kernel_rfl) (by kernel_rfl) (by kernel_rfl) (fun _ _ _ h => h) (Or.inr ⟨by rfl, rfl⟩) (by assumption) ?_))
                      (try simp only [Act.put, List.setIfInBounds_toArray, List.set_cons_zero, List.set_cons_succ])
                      (first | (refine Reg.take 10 (v := ?_) rfl (by kernel_rfl) (by kernel_rfl) (by kernel_rfl) (fun _ _ _ h => h) (Or.inl ⟨by rfl, ?_⟩) (by assumption) ?_; rotate_left; (focus ((intro W hSW); (try dsimp only at hSW); (try go_split_ands); go_simp; (try (with_reducible rfl)); done))) | (refine Reg.take 10 (v := undef) rfl (by kernel_rfl) (by kernel_rfl) (by kernel_rfl) (fun _ _ _ h => h) (Or.inr ⟨by rfl, rfl⟩) (by assumption) ?_))
                      (try simp only [Act.put, List.setIfInBounds_toArray, List.set_cons_zero, List.set_cons_succ])
                      (first | (refine Reg.take 11 (v := ?_) rfl (by kernel_rfl) (by kernel_rfl) (by kernel_rfl) (fun _ _ _ h => h) (Or.inl ⟨by rfl, ?_⟩) (by assumption) ?_; rotate_left; (focus ((intro W hSW); (try dsimp only at hSW); (try go_split_ands); go_simp; (try (with_reducible rfl)); done))) | (refine Reg.take 11 (v := undef) rfl (by kernel_rfl) (by kernel_rfl) (by kernel_rfl) (fun _ _ _ h => h) (Or.inr ⟨by rfl, rfl⟩) (by assumption) ?_))
                      (try simp only [Act.put, List.setIfInBounds_toArray, List.set_cons_zero, List.set_cons_succ])
                      (first | (refine Reg.take 12 (v := ?_) rfl (by kernel_rfl) (by kernel_rfl) (by kernel_rfl) (fun _ _ _ h => h) (Or.inl ⟨by rfl, ?_⟩) (by assumption) ?_; rotate_left; (focus ((intro W hSW); (try dsimp only at hSW); (try go_split_ands); go_simp; (try (with_reducible rfl)); done))) | (refine Reg.take 12 (v := undef) rfl (by kernel_rfl) (by kernel_rfl) (by kernel_rfl) (fun _ _ _ h => h) (Or.inr ⟨by rfl, rfl⟩) (by assumption) ?_))
                      (try simp only [Act.put, List.setIfInBounds_toArray, List.set_cons_zero, List.set_cons_succ])
                      (first | (refine Reg.take 13 (v := ?_) rfl (by kernel_rfl) (by kernel_rfl) (by kernel_rfl) (fun _ _ _ h => h) (Or.inl ⟨by rfl, ?_⟩) (by assumption) ?_; rotate_left; (focus ((intro W hSW); (try dsimp only at hSW); (try go_split_ands); go_simp; (try (with_reducible rfl)); done))) | (refine Reg.take 13 (v := undef) rfl (by kernel_rfl) (by kernel_rfl) (by kernel_rfl) (fun _ _ _ h => h) (Or.inr ⟨by rfl, rfl⟩) (by assumption) ?_))
                      (try simp only [Act.put, List.setIfInBounds_toArray, List.set_cons_zero, List.set_cons_succ])
                      refine wpAnyH_done (by kernel_rfl) ?_ _
                      go_wp2_with fail
                      go_ret
                      have hok := HN.out (fun h => by have := h.2.2.1; have := of_decide_eq_true e5; omega)
                      exact ⟨by rw [hok]; rfl, L3.out⟩
              · go_enter Try.func14, Try.ntmps14
                go_upto_region 1 with fail
                generalize w.alloc (.cells #[.int .i64 cap, .int .i64 op, .int .i64 ac, .slice A n c] 38) = w1 at *
                obtain ⟨m0, m1, m2, m3⟩ := B1.out.cells
                go_wp2_with fail
                go_ret
                have hok := HN.out (fun h => by have := bounds_parts.1 h.1; have := of_decide_eq_true e7; omega)
                exact ⟨by rw [hok]; rfl, L1.out⟩
            · go_enter Try.func14, Try.ntmps14
              go_upto_region 1 with fail
              generalize w.alloc (.cells #[.int .i64 cap, .int .i64 op, .int .i64 ac, .slice A n c] 38) = w1 at *
              obtain ⟨m0, m1, m2, m3⟩ := B1.out.cells
              go_wp2_with fail
              go_ret
              have hok := HN.out (fun h => by have := bounds_parts.1 h.1; have := of_decide_eq_true e6; omega)
              exact ⟨by rw [hok]; rfl, L1.out⟩
          · go_enter Try.func14, Try.ntmps14
            go_upto_region 1 with fail
            generalize w.alloc (.cells #[.int .i64 cap, .int .i64 op, .int .i64 ac, .slice A n c] 38) = w1 at *
            obtain ⟨m0, m1, m2, m3⟩ := B1.out.cells
            go_wp2_with fail
            go_ret
            have hok := HN.out (fun h => by have := bounds_parts.1 h.1; have := of_decide_eq_true e5; omega)
            exact ⟨by rw [hok]; rfl, L1.out⟩
        · go_enter Try.func14, Try.ntmps14
          go_upto_region 1 with fail
          generalize w.alloc (.cells #[.int .i64 cap, .int .i64 op, .int .i64 ac, .slice A n c] 38) = w1 at *
          obtain ⟨m0, m1, m2, m3⟩ := B1.out.cells
          go_wp2_with fail
          go_ret
          have hok := HN.out (fun h => by have := bounds_parts.1 h.1; have := of_decide_eq_true e4; omega)
          exact ⟨by rw [hok]; rfl, L1.out⟩
      · go_enter Try.func14, Try.ntmps14
        go_upto_region 1 with fail
        generalize w.alloc (.cells #[.int .i64 cap, .int .i64 op, .int .i64 ac, .slice A n c] 38) = w1 at *
        obtain ⟨m0, m1, m2, m3⟩ := B1.out.cells
        go_wp2_with fail
        go_ret
        have hok := HN.out (fun h => by have := bounds_parts.1 h.1; have := of_decide_eq_true e3; omega)
        exact ⟨by rw [hok]; rfl, L1.out⟩
    · go_enter Try.func14, Try.ntmps14
      go_upto_region 1 with fail
      generalize w.alloc (.cells #[.int .i64 cap, .int .i64 op, .int .i64 ac, .slice A n c] 38) = w1 at *
      obtain ⟨m0, m1, m2, m3⟩ := B1.out.cells
      go_wp2_with fail
      go_ret
      have hok := HN.out (fun h => by have := bounds_parts.1 h.1; have := of_decide_eq_true e2; omega)
      exact ⟨by rw [hok]; rfl, L1.out⟩
  · go_enter Try.func14, Try.ntmps14
    go_upto_region 1 with fail
    generalize w.alloc (.cells #[.int .i64 cap, .int .i64 op, .int .i64 ac, .slice A n c] 38) = w1 at *
    obtain ⟨m0, m1, m2, m3⟩ := B1.out.cells
    go_wp2_with fail
    go_ret
    have hok := HN.out (fun h => by have := bounds_parts.1 h.1; have := of_decide_eq_true e1; omega)
    exact ⟨by rw [hok]; rfl, L1.out⟩
end Zns
end Go.Proofs.Ytnnphpfobdcmbaa
