/-
  SEVERAL TEXTS IN ONE FILE: ZnsCheck, ZnsClone, ZnsDesk, ZnsDone.
-/
import Derived.Test.YtedandbkdjmfhaaGreatJ04
import Derived.Test.YtedandbkdjmfhaaGreatJ06
import Derived.Laws.MakeOwn
set_option linter.unusedSimpArgs false
set_option linter.unusedVariables false
/-
  WALKS: whether a device may be: zns's own test, the document's. (Written by gen_check.py.)
-/
namespace Go.Proofs.YtedandbkdjmfhaaGreat
open Go.RowKit Mem Zon
namespace Zns

/-- A device in a block of its own. -/
def DBox (w : World) (g : Nat) (d : Dx) : Prop := Cells w g 28 #[.int .i64 d.cap, .int .i64 d.op, .int .i64 d.ac, .slice d.A d.n d.c]
theorem DBox.below {w w' : World} {g : Nat} {d : Dx} (h : DBox w g d) (hb : Below w.heap.size w w') : DBox w' g d := Cells.below h hb
theorem DBox.lt {w : World} {g : Nat} {d : Dx} (h : DBox w g d) : g < w.heap.size := Cells.lt h
theorem DBox.cells {w : World} {g : Nat} {d : Dx} (h : DBox w g d) : w.cell? ⟨g, 0, none⟩ = some (.int .i64 d.cap) ∧ w.cell? ⟨g, 1, none⟩ = some (.int .i64 d.op) ∧ w.cell? ⟨g, 2, none⟩ = some (.int .i64 d.ac) ∧ w.cell? ⟨g, 3, none⟩ = some (.slice d.A d.n d.c) :=
  ⟨Cells.cell h 0, Cells.cell h 1, Cells.cell h 2, Cells.cell h 3⟩
theorem DBox.frozen {w : World} {g : Nat} {d : Dx} (h : DBox w g d) : w.frozen? ⟨g, 0, none⟩ = false ∧ w.frozen? ⟨g, 1, none⟩ = false ∧ w.frozen? ⟨g, 2, none⟩ = false ∧ w.frozen? ⟨g, 3, none⟩ = false :=
  ⟨Cells.frozen h 0, Cells.frozen h 1, Cells.frozen h 2, Cells.frozen h 3⟩
theorem DBox.new (w : World) (d : Dx) : DBox (w.alloc (.cells #[.int .i64 d.cap, .int .i64 d.op, .int .i64 d.ac, .slice d.A d.n d.c] 28)) w.heap.size d := Cells.new w _ _

set_option maxRecDepth 100000 in
set_option maxHeartbeats 1600000 in
theorem bounds_any (n most op ac : Int) (w : World) :
    Calls Tryz.prog 13 #[.int .i64 n, .int .i64 most, .int .i64 op, .int .i64 ac] w fun e w' => e = .returned (.bool (boundsB n most op ac)) ∧ w' = w := by
  unfold boundsB
  rcases e1 : decide (1 ≤ n)
  · go_enter Tryz.func13, Tryz.ntmps13
    go_wp2
    go_ret
    exact ⟨rfl, rfl⟩
  · rcases e2 : decide (n ≤ 64)
    · go_enter Tryz.func13, Tryz.ntmps13
      go_wp2
      go_ret
      exact ⟨rfl, rfl⟩
    · rcases e3 : decide (1 ≤ most)
      · go_enter Tryz.func13, Tryz.ntmps13
        go_wp2
        go_ret
        exact ⟨rfl, rfl⟩
      · rcases e4 : decide (most ≤ 65536)
        · go_enter Tryz.func13, Tryz.ntmps13
          go_wp2
          go_ret
          exact ⟨rfl, rfl⟩
        · rcases e5 : decide (1 ≤ op)
          · go_enter Tryz.func13, Tryz.ntmps13
            go_wp2
            go_ret
            exact ⟨rfl, rfl⟩
          · rcases e6 : decide (op ≤ ac)
            · go_enter Tryz.func13, Tryz.ntmps13
              go_wp2
              go_ret
              exact ⟨rfl, rfl⟩
            · rcases e7 : decide (ac ≤ n)
              · go_enter Tryz.func13, Tryz.ntmps13
                go_wp2
                go_ret
                exact ⟨rfl, rfl⟩
              · go_enter Tryz.func13, Tryz.ntmps13
                go_wp2
                go_ret
                exact ⟨rfl, rfl⟩

theorem okD_parts {d : Dv} : okD d = true ↔ boundsB d.zs.length d.cap d.op d.ac = true ∧ (∀ z ∈ d.zs, okB z d.cap = true) ∧ (cO d.zs : Int) ≤ d.op ∧ (cA d.zs : Int) ≤ d.ac := by
  unfold okD
  simp only [Bool.and_eq_true, List.all_eq_true, Bool.not_eq_true', decide_eq_false_iff_not, Int.not_lt]
theorem bounds_parts {n most op ac : Int} : boundsB n most op ac = true ↔ 1 ≤ n ∧ n ≤ 64 ∧ 1 ≤ most ∧ most ≤ 65536 ∧ 1 ≤ op ∧ op ≤ ac ∧ ac ≤ n := by
  unfold boundsB
  simp only [Bool.and_eq_true, decide_eq_true_eq]
theorem okD_dx {d : Dx} {w : World} (h : DevAt w d) : okD d.p = true ↔ boundsB d.n d.cap d.op d.ac = true ∧ (∀ x ∈ d.xs, okB x.z d.cap = true) ∧ (cntO d.xs : Int) ≤ d.op ∧ (cntA d.xs : Int) ≤ d.ac := by
  rw [okD_parts, h.plen, cntO_map, cntA_map]
  unfold Dx.p
  simp only [List.mem_map, forall_exists_index, and_imp, forall_apply_eq_imp_iff₂]
theorem okD_false {d : Dx} {w : World} (h : DevAt w d) (hn : ¬ (boundsB d.n d.cap d.op d.ac = true ∧ (∀ x ∈ d.xs, okB x.z d.cap = true) ∧ (cntO d.xs : Int) ≤ d.op ∧ (cntA d.xs : Int) ≤ d.ac)) : okD d.p = false := by
  rcases e : okD d.p
  · rfl
  · exact absurd ((okD_dx h).1 e) hn

set_option maxRecDepth 100000 in
set_option maxHeartbeats 3200000 in
theorem check_dev {d : Dx} {w : World} (h : DevAt w d) :
    Calls Tryz.prog 44 #[dxv d] w fun e w' => e = .returned (.int .i64 (errOf (okD d.p))) ∧ Below w.heap.size w w' := by
  obtain ⟨cap, op, ac, A, n, c, xs⟩ := d
  have HR := Lib.hid h
  have L1 := Lib.hid ((Below.refl w.heap.size w).alloc (Nat.le_refl _) (.cells #[.int .i64 cap, .int .i64 op, .int .i64 ac, .slice A n c] 28))
  have B1 := Lib.hid (DBox.new w ⟨cap, op, ac, A, n, c, xs⟩)
  have hbig := h.row.big
  have HZ := fun (z : Zn) D c w => Lib.hid (check_any z D c cap w)
  have HO := fun w (h : RowS cellsZ 3 w A n c xs) => Lib.hid (opened_any h)
  have HA := fun w (h : RowS cellsZ 3 w A n c xs) => Lib.hid (active_any h)
  have HN := Lib.hid (okD_false h)
  have HLN := Lib.hid (show xs.length = n from h.row.len)
  have HY := Lib.hid (okD_dx h).2
  clear h
  unfold zv at HZ
  unfold dxv
  generalize okD (Dx.p ⟨cap, op, ac, A, n, c, xs⟩) = ok at *
  rcases hb : boundsB n cap op ac
  · have HB := fun w => bounds_any n cap op ac w
    rw [hb] at HB
    go_enter Tryz.func44, Tryz.ntmps44
    go_upto_region 1 with fail
    generalize w.alloc (.cells #[.int .i64 cap, .int .i64 op, .int .i64 ac, .slice A n c] 28) = w1 at *
    obtain ⟨m0, m1, m2, m3⟩ := B1.out.cells
    go_wp2_with fail
    refine (HB w1).mono ?_
    rintro e w2 ⟨rfl, rfl⟩
    go_wp2_with fail
    go_ret
    exact ⟨by rw [HN.out (fun h => by have := h.1; rw [hb] at this; cases this)]; rfl, L1.out⟩
  · have HB := fun w => bounds_any n cap op ac w
    rw [hb] at HB
    go_enter Tryz.func44, Tryz.ntmps44
    go_upto_region 1 with fail
    generalize w.alloc (.cells #[.int .i64 cap, .int .i64 op, .int .i64 ac, .slice A n c] 28) = w1 at *
    obtain ⟨m0, m1, m2, m3⟩ := B1.out.cells
    go_wp2_with fail
    refine (HB w1).mono ?_
    rintro e w2 ⟨rfl, rfl⟩
    have L2 := L1
    have B2 := B1
    clear L1 B1 HB
    go_wp2_with fail
    clear m0 m1 m2 m3
    have HBT := Lib.hid hb
    clear hb
    go_loopw [19] (fun i wr => ∃ k : Nat, i = .int .i64 k ∧ k ≤ n ∧ Hid ((∀ j, j < k → ∀ x, xs[j]? = some x → okB x.z cap = true) ∧ Below w.heap.size w wr ∧ DBox wr w.heap.size ⟨cap, op, ac, A, n, c, xs⟩)) (fun i _ => n - (intOf i).toNat)
    case atStart => exact ⟨0, rfl, by omega, fun j hj => by omega, L2.out, B2.out⟩
    case round =>
      obtain ⟨k, rfl, hk, hH⟩ := hrel
      by_cases hlt : k < n
      · obtain ⟨x, hx⟩ := HR.out.row.get hlt
        obtain ⟨b, o, rfl, hb, hc⟩ := HR.out.row.elem hx
        have c0 : wr.cell? ⟨b, o + k * 3, none⟩ = some (.int .i64 x.z.st) := hc wr (hH.out.2.1.block b hb) 0 _ rfl
        have c1 : wr.cell? ⟨b, o + k * 3 + 1, none⟩ = some (.int .i64 x.z.fc) := hc wr (hH.out.2.1.block b hb) 1 _ rfl
        have c2 : wr.cell? ⟨b, o + k * 3 + 2, none⟩ = some (.slice x.D x.z.data.length x.c) := hc wr (hH.out.2.1.block b hb) 2 _ rfl
        have hk0 : (0 : Int) ≤ (k : Int) := by omega
        have hk1 : (k : Int) < (n : Int) := by omega
        have b1 : Below wr.heap.size wr (wr.alloc (.cells #[.int .i64 x.z.st, .int .i64 x.z.fc, .slice x.D x.z.data.length x.c] 54)) := (Below.refl _ wr).alloc (Nat.le_refl _) _
        have LN := Lib.hid (hH.out.2.1.trans (b1.mono hH.out.2.1.size))
        have BN := Lib.hid (hH.out.2.2.below b1)
        have HE := Lib.hid hx
        have HX := fun w => HZ x.z x.D x.c w
        clear hc hx b1
        obtain ⟨m0, m1, m2, m3⟩ := BN.out.cells
        rcases hof : okB x.z cap
        · rw [hof] at HX
          unfold errOf at HX
          simp only [cond_false] at HX
          go_wp2_with fail
          refine (HX _).out.mono ?_
          rintro e w2 ⟨rfl, hb2⟩
          have L3 := Lib.hid (LN.out.trans (hb2.mono LN.out.size))
          clear hb2
          go_wp2_with fail
          go_ret
          exact ⟨by rw [HN.out (fun h => by have := h.2.1 x (List.mem_of_getElem? HE.out); rw [hof] at this; cases this)]; rfl, L3.out⟩
        · rw [hof] at HX
          unfold errOf at HX
          simp only [cond_true] at HX
          go_wp2_with fail
          refine (HX _).out.mono ?_
          rintro e w2 ⟨rfl, hb2⟩
          have L3 := Lib.hid (LN.out.trans (hb2.mono LN.out.size))
          have B3 := Lib.hid (BN.out.below hb2)
          clear hb2
          go_wp2_with fail
          go_roundw
          case rel =>
            refine ⟨k + 1, by go_num, by omega, fun j hj y hy => ?_, L3.out, B3.out⟩
            rcases Nat.lt_succ_iff_lt_or_eq.1 hj with h | rfl
            · exact hH.out.1 j h y hy
            · have := HE.out.symm.trans hy; injection this with this; subst this; exact hof
          case measure => simp [intOf]; omega
      · have hall : Hid (∀ x ∈ xs, okB x.z cap = true) := by
          show ∀ _, _
          intro x hx
          obtain ⟨j, hj, rfl⟩ := List.mem_iff_getElem.1 hx
          exact hH.out.1 j (by have := HLN.out; omega) _ (List.getElem?_eq_getElem hj)
        have hkn : n = k := by omega
        subst hkn
        go_upto_region 9 with fail
        have RW : Hid (RowS cellsZ 3 wr.drew A n c xs) := RowS.drew (HR.out.row.below hH.out.2.1)
        have BW : Hid (DBox wr.drew w.heap.size ⟨cap, op, ac, A, n, c, xs⟩) := hH.out.2.2
        have LW : Hid (Below w.heap.size w wr.drew) := hH.out.2.1.drew
        clear hH hk hlt HZ
        refine wp_region_held_drew (S := fun W => W.cell? ⟨w.heap.size, 0, none⟩ = some (.int .i64 cap) ∧ W.cell? ⟨w.heap.size, 1, none⟩ = some (.int .i64 op) ∧ W.cell? ⟨w.heap.size, 2, none⟩ = some (.int .i64 ac) ∧ W.cell? ⟨w.heap.size, 3, none⟩ = some (.slice A n c))
          (by kernel_rfl) BW.out.cells (fun hHeld => ?_)
        generalize wr.drew = w2 at *
        refine Reg.tk 0 rfl ?_
        refine Reg.tk 1 rfl ?_
        refine Reg.tk 3 rfl ?_
        refine Reg.tk 4 rfl ?_
        refine Reg.step 2 rfl (by kernel_rfl) (by rfl) (fun K hK => ?_)
        go_simp
        refine (HO w2 RW.out).out.mono ?_
        rintro e w3 ⟨rfl, hb⟩
        have R3 := Lib.hid (RW.out.below hb)
        have B3 := Lib.hid (BW.out.below hb)
        have L3 := Lib.hid (LW.out.trans (hb.mono LW.out.size))
        clear hb RW BW LW
        refine hK.out _ _ B3.out.cells (fun hHeld2 => ?_)
        clear hK K
        (try simp only [Act.put, List.setIfInBounds_toArray, List.set_cons_zero, List.set_cons_succ])
        rcases e5 : decide (op < (cntO xs : Int))
        · refine Reg.tk 5 rfl ?_
          refine Reg.tk 6 rfl ?_
          refine Reg.tk 7 rfl ?_
          refine Reg.tk 8 rfl ?_
          refine Reg.tk 10 rfl ?_
          refine Reg.tk 11 rfl ?_
          refine Reg.step 9 rfl (by kernel_rfl) (by rfl) (fun K hK => ?_)
          go_simp
          refine (HA w3 R3.out).out.mono ?_
          rintro e w4 ⟨rfl, hb⟩
          have B4 := Lib.hid (B3.out.below hb)
          have L4 := Lib.hid (L3.out.trans (hb.mono L3.out.size))
          clear hb R3 B3 L3
          refine hK.out _ _ B4.out.cells (fun hHeld3 => ?_)
          clear hK K
          (try simp only [Act.put, List.setIfInBounds_toArray, List.set_cons_zero, List.set_cons_succ])
          rcases e6 : decide (ac < (cntA xs : Int))
          · refine Reg.tk 12 rfl ?_
            refine Reg.tk 13 rfl ?_
            refine wpAnyH_done (by kernel_rfl) ?_ _
            go_wp2_with fail
            go_ret
            have hok := HY.out ⟨HBT.out, hall.out, by have := of_decide_eq_false e5; omega, by have := of_decide_eq_false e6; omega⟩
            exact ⟨by rw [hok]; rfl, L4.out⟩
          · refine Reg.tk 12 rfl ?_
            refine Reg.tk 13 rfl ?_
            refine wpAnyH_done (by kernel_rfl) ?_ _
            go_wp2_with fail
            go_ret
            have hok := HN.out (fun h => by have := h.2.2.2; have := of_decide_eq_true e6; omega)
            exact ⟨by rw [hok]; rfl, L4.out⟩
        · refine Reg.tk 5 rfl ?_
          refine Reg.tk 6 rfl ?_
          refine Reg.tk 7 rfl ?_
          refine Reg.tk 8 rfl ?_
          refine Reg.tk 9 rfl ?_
          refine Reg.tk 10 rfl ?_
          refine Reg.tk 11 rfl ?_
          refine Reg.tk 12 rfl ?_
          refine Reg.tk 13 rfl ?_
          refine wpAnyH_done (by kernel_rfl) ?_ _
          go_wp2_with fail
          go_ret
          have hok := HN.out (fun h => by have := h.2.2.1; have := of_decide_eq_true e5; omega)
          exact ⟨by rw [hok]; rfl, L3.out⟩
end Zns
end Go.Proofs.YtedandbkdjmfhaaGreat
/-
  A WALK: slices.Clone OVER ZONES.
-/
namespace Go.Proofs.YtedandbkdjmfhaaGreat
open Go.RowKit Mem Zon
namespace Zns

theorem flat_len (xs : List Zv) : (xs.flatMap cellsZ).length = xs.length * 3 := by
  induction xs with
  | nil => rfl
  | cons x xs ih => rw [List.flatMap_cons, List.length_append, ih, List.length_cons]; show 3 + _ = _; omega
theorem flat_get : ∀ (xs : List Zv) (i r : Nat), r < 3 → (xs.flatMap cellsZ)[i * 3 + r]? = (xs[i]?).bind fun x => (cellsZ x)[r]?
  | [], i, r, _ => by simp
  | x :: xs, 0, r, hr => by
    rw [List.flatMap_cons, List.getElem?_append_left (by show _ < 3; omega)]
    simp
  | x :: xs, i + 1, r, hr => by
    rw [List.flatMap_cons, List.getElem?_append_right (by show 3 ≤ _; omega)]
    have : (i + 1) * 3 + r - (cellsZ x).length = i * 3 + r := by show _ - 3 = _; omega
    rw [this, flat_get xs i r hr]
    simp
theorem info_zone : (Tryz.prog.info? 54).map (fun i => (i.zero, i.size, i.bytes)) = some (some (.agg #[.int .i64 0, .int .i64 0, .slice none 0 0]), 3, 40) := by kernel_rfl
theorem run_eql_nilZ (w : World) (A : Option Addr) (n c : Nat) : (binOp .eql 26 (.slice A n c) (.slice none 0 0)).run Tryz.prog w = .ok (.bool A.isNone) w :=
  Go.run_eql_slice_nil w _ _ A n c Tryz.underlying26

/-- Zones that a call gave, in a block of its own. -/
def GaveL (w : World) (n : Nat) (xs : List Zv) (en : Ending) (w' : World) : Prop :=
  ∃ A c, en = .returned (.slice A n c) ∧ RowS cellsZ 3 w' A n c xs ∧ Below w.heap.size w w' ∧ (0 < n → ∃ q, A = some ⟨q, 0, none⟩ ∧ w.heap.size ≤ q ∧ OwnZ w' q 0 xs)
theorem gaveL_of {w w' : World} {n : Nat} {xs : List Zv} {A : Option Addr} {c : Nat} (hl : xs.length = n) (hn : n ≤ 1000) (h : w'.ownsRow w.heap.size 54 3 (.slice A n c) n (xs.flatMap cellsZ)) (hb : Below w.heap.size w w') : GaveL w n xs (.returned (.slice A n c)) w' := by
  rcases h.2 with ⟨e1, e2⟩ | ⟨q, cap, cur, e1, hq, hh, hnc, hcm, hs, ht⟩
  · injection e1 with e1 e3 e4
    subst e1 e4 e2
    obtain rfl : xs = [] := List.eq_nil_of_length_eq_zero hl
    exact ⟨none, 0, rfl, RowS.nil _ _ _, hb, fun h => by omega⟩
  · injection e1 with e1 e3 e4
    subst e1 e4
    have hcs : ∀ i x, xs[i]? = some x → ∀ j u, (cellsZ x)[j]? = some u → cur[0 + i * 3 + j]? = some u := by
      intro i x hx j u hu
      have hj : j < 3 := by have := (List.getElem?_eq_some_iff.1 hu).1; simpa [cellsZ] using this
      have hil : i < xs.length := (List.getElem?_eq_some_iff.1 hx).1
      have h1 := flat_get xs i j hj
      rw [hx] at h1
      simp only [Option.bind_some] at h1
      rw [hu, ← ht, List.getElem?_take] at h1
      split at h1
      · rw [Nat.zero_add]; simpa using h1
      · cases h1
    have ho : OwnZ w' q 0 xs := ⟨cur, hh, hcs⟩
    refine ⟨_, c, rfl, ⟨hl, hnc, by omega, fun _ => ⟨q, 0, rfl, ho.lt, fun i x hx j u hu => ho.cell hx hu⟩⟩, hb, fun _ => ⟨q, rfl, hq, ho⟩⟩

set_option maxRecDepth 100000 in
set_option maxHeartbeats 1600000 in
theorem cloneZ_any {A : Option Addr} {n c : Nat} {xs : List Zv} {w : World} (h : RowS cellsZ 3 w A n c xs) (hn : n ≤ 1000) :
    Calls Tryz.prog 45 #[.slice A n c] w (GaveL w n xs) := by
  have HR := Lib.hid h
  have hl := h.len
  have hq := fun w => run_eql_nilZ w A n c
  have hat := h.at_
  clear h
  rcases A with _ | a
  · have hn0 : n = 0 := by
      rcases Nat.eq_zero_or_pos n with h0 | h0
      · exact h0
      · obtain ⟨b, o, e, -⟩ := hat h0
        cases e
    subst hn0
    obtain rfl : xs = [] := List.eq_nil_of_length_eq_zero hl
    have hd : (none : Option Addr).isNone = true := rfl
    rw [hd] at hq
    clear hat
    go_enter Tryz.func45, Tryz.ntmps45
    go_wp2
    go_ret
    exact ⟨none, 0, rfl, RowS.nil _ _ _, Below.refl _ _, fun h => by omega⟩
  · have hd : (some a).isNone = false := rfl
    rw [hd] at hq
    have HC : Hid (∀ W : World, Below w.heap.size w W → ∀ j u, (xs.flatMap cellsZ)[j]? = some u → W.cell? (a.add j) = some u) := by
      show ∀ _, _
      intro W hW j u hu
      have hjl : j < xs.length * 3 := by have := (List.getElem?_eq_some_iff.1 hu).1; rwa [flat_len] at this
      have hj : j = (j / 3) * 3 + j % 3 := by omega
      rw [hj, flat_get xs (j / 3) (j % 3) (by omega)] at hu
      obtain ⟨x, hx, hu⟩ := Option.bind_eq_some_iff.1 hu
      obtain ⟨b, o, e, hb, hc⟩ := HR.out.elem hx
      injection e with e
      subst e
      rw [add_none]
      have := hc W (hW.block b hb) (j % 3) u hu
      rwa [Nat.add_assoc, ← hj] at this
    have HM : Hid ((w.alloc (.cells #[] 54)).ownsRow w.heap.size 54 3 (.slice (some ⟨w.heap.size, 0, none⟩) 0 0) 0 []) :=
      ⟨rfl, .inr ⟨w.heap.size, 0, #[], rfl, Nat.le_refl _, heap_alloc_new w _, Nat.le_refl _, by decide, rfl, rfl⟩⟩
    have H1 : Hid (∀ u ∈ xs.flatMap cellsZ, u.oneCell' = true) := by
      show ∀ _, _
      intro u hu
      obtain ⟨x, -, hu⟩ := List.mem_flatMap.1 hu
      simp only [cellsZ, List.mem_cons, List.not_mem_nil, or_false] at hu
      rcases hu with rfl | rfl | rfl <;> rfl
    have HFL : Hid ((xs.flatMap cellsZ).length = n * 3) := by show _ = _; rw [flat_len, hl]
    have HL := Lib.hid hl
    clear hat hl
    go_enter Tryz.func45, Tryz.ntmps45
    go_wp2_with (at_builtin
                 refine wpList_append_wide Tryz.underlying26 info_zone rfl (by omega) rfl (.tmp 5) (.tmp 6) rfl rfl w.heap.size _ 0 [] rfl HM.out a n c (xs.flatMap cellsZ) rfl HFL.out (HC.out _ ((Below.refl _ w).alloc (Nat.le_refl _) _)) H1.out (by omega) (by omega) (by simp) ?_
                 intro A' c' w' hown' hb' _
                 have O := Lib.hid (show w'.ownsRow w.heap.size 54 3 (.slice A' n c') n (xs.flatMap cellsZ) by simpa using hown')
                 have B := Lib.hid hb'
                 clear hown' hb')
    go_ret
    exact gaveL_of HL.out hn O.out (((Below.refl _ w).alloc (Nat.le_refl _) _).trans B.out)
end Zns
end Go.Proofs.YtedandbkdjmfhaaGreat
/-
  A WALK OVER newDesk: a device laid on a desk of its own. (Written by gen_new.py.)
-/
namespace Go.Proofs.YtedandbkdjmfhaaGreat
open Go.RowKit Mem Zon
namespace Zns

/-- The desk's own block. -/
def KBox (w : World) (g : Nat) (cap op ac : Int) (A : Option Addr) (n c : Nat) (m : Bool) : Prop := Cells w g 91 #[.int .i64 cap, .int .i64 op, .int .i64 ac, .slice A n c, .bool m]
/-- The desk while it is made: zones in block q, of which some have bytes of their own already. -/
structure Pre (w : World) (g q o : Nat) (cap op ac : Int) (n c : Nat) (m : Bool) (xs : List Zv) : Prop where
  box : KBox w g cap op ac (some ⟨q, o, none⟩) n c m
  own : OwnZ w q o xs
  len : xs.length = n
  data : ∀ x ∈ xs, Row cb w x.D x.z.data.length x.c x.z.data
  ne : g ≠ q
section
variable {w w' : World} {g q o : Nat} {cap op ac : Int} {n c : Nat} {m : Bool} {xs : List Zv}
theorem Pre.below (h : Pre w g q o cap op ac n c m xs) (hb : Below w.heap.size w w') : Pre w' g q o cap op ac n c m xs :=
  ⟨Cells.below h.box hb, h.own.below hb, h.len, fun x hx => (h.data x hx).below hb, h.ne⟩
theorem Pre.slice (h : Pre w g q o cap op ac n c m xs) : w.cell? ⟨g, 3, none⟩ = some (.slice (some ⟨q, o, none⟩) n c) := Cells.cell h.box 3
theorem Pre.set1 (h : Pre w g q o cap op ac n c m xs) {i j : Nat} {x x' : Zv} {u v : Value} (hx : xs[i]? = some x) (hj : j < 3) (hu : (cellsZ x)[j]? = some u) (hn : ∀ y, u ≠ cb y) (hc : cellsZ x' = (cellsZ x).set j v)
    (hr : Row cb (w.setCell ⟨q, o + i * 3 + j, none⟩ v) x'.D x'.z.data.length x'.c x'.z.data) : Pre (w.setCell ⟨q, o + i * 3 + j, none⟩ v) g q o cap op ac n c m (xs.set i x') := by
  refine ⟨Cells.set_other h.box (fun e => h.ne e.symm) _ _, h.own.set1 hx hj hc, by rw [List.length_set]; exact h.len, fun y hy => ?_, h.ne⟩
  rcases set_mem hy with hy | rfl
  · exact Row.setNot (h.data y hy) (h.own.cell hx hu) hn v
  · exact hr
end
theorem set_same {l : List Zn} {i : Nat} {z : Zn} (h : l[i]? = some z) : l.set i z = l := by
  apply List.ext_getElem?
  intro j
  rw [List.getElem?_set]
  split
  · rename_i e; subst e; split
    · exact h.symm
    · rename_i hl; have := (List.getElem?_eq_some_iff.1 h).1; omega
  · rfl

/-- What newDesk gave. -/
def Made (w : World) (d : Dx) (en : Ending) (w' : World) : Prop :=
  ∃ g A c xs', en = .returned (.pointer (some ⟨g, 0, none⟩)) ∧ w.heap.size ≤ g ∧ KBox w' g d.cap d.op d.ac A d.n c (okD d.p) ∧ RowS cellsZ 3 w' A d.n c xs' ∧ (∀ x ∈ xs', Row cb w' x.D x.z.data.length x.c x.z.data) ∧ xs'.map Zv.z = d.xs.map Zv.z ∧
    Below w.heap.size w w' ∧ (0 < d.n → ∃ q o, A = some ⟨q, o, none⟩ ∧ w.heap.size ≤ q ∧ g ≠ q ∧ OwnZ w' q o xs') ∧ (∀ x ∈ xs', Lo g x.D)

set_option maxRecDepth 100000 in
set_option maxHeartbeats 6400000 in
theorem newDesk_any {d : Dx} {w : World} (h : DevAt w d) (hn : d.n ≤ 1000) :
    Calls Tryz.prog 30 #[dxv d] w (Made w d) := by
  obtain ⟨cap, op, ac, A, n, c, xs⟩ := d
  have HR := Lib.hid h
  have hn : n ≤ 1000 := hn
  have L1 := Lib.hid ((Below.refl w.heap.size w).alloc (Nat.le_refl _) (.cells #[.int .i64 cap, .int .i64 op, .int .i64 ac, .slice A n c] 28))
  have B1 := Lib.hid (DBox.new w ⟨cap, op, ac, A, n, c, xs⟩)
  have HC := fun w (h : DevAt w ⟨cap, op, ac, A, n, c, xs⟩) => Lib.hid (check_dev h)
  have HCl := fun w (h : RowS cellsZ 3 w A n c xs) => Lib.hid (cloneZ_any h hn)
  have HB := fun (X : Option Addr) (m d : Nat) (l : List B8) w (h : Row cb w X m d l) => Lib.hid (clone_any h)
  have HLN := Lib.hid (show xs.length = n from h.row.len)
  clear h
  unfold Made
  unfold dxv GaveL Gave at *
  generalize okD (Dx.p ⟨cap, op, ac, A, n, c, xs⟩) = ok at *
  dsimp only at *
  go_enter Tryz.func30, Tryz.ntmps30
  go_upto_region 1 with fail
  generalize w.alloc (.cells #[.int .i64 cap, .int .i64 op, .int .i64 ac, .slice A n c] 28) = w1 at *
  have L2 : Hid (Below w.heap.size w w1.drew) := L1.out.drew
  have B2 : Hid (DBox w1.drew w.heap.size ⟨cap, op, ac, A, n, c, xs⟩) := B1
  have hcell := fun W (h : DBox W w.heap.size ⟨cap, op, ac, A, n, c, xs⟩) => h.cells
  clear L1 B1
  refine wp_region_held_drew (S := fun W => W.cell? ⟨w.heap.size, 0, none⟩ = some (.int .i64 cap) ∧ W.cell? ⟨w.heap.size, 1, none⟩ = some (.int .i64 op) ∧ W.cell? ⟨w.heap.size, 2, none⟩ = some (.int .i64 ac) ∧ W.cell? ⟨w.heap.size, 3, none⟩ = some (.slice A n c))
    (by kernel_rfl) (hcell _ B2.out) (fun hHeld => ?_)
  generalize w1.drew = w2 at *
  refine Reg.tk 0 rfl ?_
  refine Reg.tk 1 rfl ?_
  refine Reg.step 2 rfl (by kernel_rfl) (by rfl) (fun K hK => ?_)
  go_simp
  refine (HC w2 (HR.out.below L2.out)).out.mono ?_
  rintro e w3 ⟨rfl, hb⟩
  have B3 := Lib.hid (B2.out.below hb)
  have L3 := Lib.hid (L2.out.trans (hb.mono L2.out.size))
  clear hb B2 L2 HC
  refine hK.out _ _ (hcell _ B3.out) (fun hHeld2 => ?_)
  clear hK K
  (try simp only [Act.put, List.setIfInBounds_toArray, List.set_cons_zero, List.set_cons_succ])
  have hok : (errOf ok == 0) = ok := by cases ok <;> rfl
  refine Reg.tk 3 rfl ?_
  refine Reg.tk 4 rfl ?_
  refine Reg.step 5 rfl (by kernel_rfl) (by rfl) (fun K hK => ?_)
  go_simp
  have b4 : Below w3.heap.size w3 (w3.alloc (.cells #[.int .i64 cap, .int .i64 op, .int .i64 ac, .slice A n c, .bool ok] 91)) := (Below.refl _ w3).alloc (Nat.le_refl _) _
  have K4 : Hid (KBox (w3.alloc (.cells #[.int .i64 cap, .int .i64 op, .int .i64 ac, .slice A n c, .bool ok] 91)) w3.heap.size cap op ac A n c ok) := Cells.new w3 _ _
  have B4 := Lib.hid (B3.out.below b4)
  have L4 := Lib.hid (L3.out.trans (b4.mono L3.out.size))
  have G4 : Hid (w.heap.size ≤ w3.heap.size) := L3.out.size
  have U4 : Hid (w3.heap.size < (w3.alloc (.cells #[.int .i64 cap, .int .i64 op, .int .i64 ac, .slice A n c, .bool ok] 91)).heap.size) := by show _ < _; simp
  clear b4 B3 L3
  refine hK.out _ _ (hcell _ B4.out) (fun hHeld3 => ?_)
  clear hK K
  (try simp only [Act.put, List.setIfInBounds_toArray, List.set_cons_zero, List.set_cons_succ])
  refine Reg.tk 6 rfl ?_
  refine wpAnyH_done (by kernel_rfl) ?_ _
  clear hHeld hHeld2 hHeld3 hok hcell
  generalize w3.alloc (.cells #[.int .i64 cap, .int .i64 op, .int .i64 ac, .slice A n c, .bool ok] 91) = w4 at *
  generalize w3.heap.size = g at *
  obtain ⟨m0, m1, m2, m3⟩ := B4.out.cells
  go_wp2_with fail
  refine (HCl w4 (HR.out.row.below L4.out)).out.mono ?_
  rintro e w5 ⟨A', c', rfl, hrow, hb, hown⟩
  have K5 := Lib.hid (Cells.below K4.out hb)
  have L5 := Lib.hid (L4.out.trans (hb.mono L4.out.size))
  have HCP := Lib.hid hrow.cap
  have k3 : w5.cell? ⟨g, 3, none⟩ = some (.slice A n c) := Cells.cell K5.out 3
  have f3 : w5.frozen? ⟨g, 3, none⟩ = false := Cells.frozen K5.out 3
  have HO5 : Hid (0 < n → ∃ q, A' = some ⟨q, 0, none⟩ ∧ w.heap.size ≤ q ∧ g ≠ q ∧ OwnZ (w5.setCell ⟨g, 3, none⟩ (.slice A' n c')) q 0 xs) := by
    show _ → _
    intro h0
    obtain ⟨q, e, hq, ho⟩ := hown h0
    have h1 := U4.out
    have h2 := G4.out
    exact ⟨q, e, by omega, by omega, ho.heap (Below.heap_setCell _ _ _ _ (by show q ≠ g; omega))⟩
  clear hown hrow hb m0 m1 m2 m3 HCl B4 L4 K4
  go_upto_region 3 with fail
  have K6 : Hid (KBox (w5.setCell ⟨g, 3, none⟩ (.slice A' n c')) g cap op ac A' n c' ok) := Cells.set_ K5.out 3 (.slice A' n c')
  have L6 := Lib.hid (L5.out.setCell (p := ⟨g, 3, none⟩) G4.out (.slice A' n c'))
  clear k3 f3 K5 L5
  generalize w5.setCell ⟨g, 3, none⟩ (.slice A' n c') = w6 at *
  have k3 : w6.cell? ⟨g, 3, none⟩ = some (.slice A' n c') := Cells.cell K6.out 3
  go_wp2_with fail
  clear k3
  go_loopw [24] (fun i wr => ∃ j : Nat, i = .int .i64 j ∧ j ≤ n ∧ Hid (∃ xs', KBox wr g cap op ac A' n c' ok ∧ xs'.length = n ∧ (∀ x ∈ xs', Row cb wr x.D x.z.data.length x.c x.z.data) ∧ xs'.map Zv.z = xs.map Zv.z ∧ Below w.heap.size w wr ∧ (0 < n → ∃ q o, A' = some ⟨q, o, none⟩ ∧ w.heap.size ≤ q ∧ g ≠ q ∧ OwnZ wr q o xs') ∧ (∀ i x, i < j → xs'[i]? = some x → Lo g x.D))) (fun i _ => n - (intOf i).toNat)
  case atStart => exact ⟨0, rfl, by omega, xs, K6.out, HLN.out, fun x hx => (HR.out.data x hx).below L6.out, rfl, L6.out, fun h0 => by obtain ⟨q, e1, e2, e3, e4⟩ := HO5.out h0; exact ⟨q, 0, e1, e2, e3, e4⟩, fun i x hi _ => absurd hi (by omega)⟩
  case round =>
    obtain ⟨j, rfl, hj, hI⟩ := hrel
    by_cases hlt : j < n
    · obtain ⟨xs', i1, i2, i3, i4, i5, i6, i7⟩ := hI.out
      have LW1 := Lib.hid i7
      obtain ⟨q, o, rfl, q1, q2, q3⟩ := i6 (by omega)
      have P1 : Hid (Pre wr g q o cap op ac n c' ok xs') := ⟨i1, q3, i2, i3, q2⟩
      have L1 := Lib.hid i5
      have M1 := Lib.hid i4
      have Q1 := Lib.hid q1
      obtain ⟨x, hx⟩ : ∃ x, xs'[j]? = some x := ⟨_, List.getElem?_eq_getElem (by omega)⟩
      have HX := Lib.hid hx
      clear hI i1 i2 i3 i4 i5 i6 i7 q1 q2 q3 hx HO5 K6 L6
      have hk0 : (0 : Int) ≤ (j : Int) := by omega
      have hk1 : (j : Int) < (n : Int) := by omega
      go_upto_region 6 with fail
      have P2 : Hid (Pre wr.drew g q o cap op ac n c' ok xs') := P1.out.below (Below.refl _ wr).drew
      have L2 : Hid (Below w.heap.size w wr.drew) := L1.out.drew
      clear P1 L1
      refine wp_region_held_drew (S := fun W => W.cell? ⟨g, 3, none⟩ = some (.slice (some ⟨q, o, none⟩) n c'))
        (by kernel_rfl) P2.out.slice (fun hHeld => ?_)
      generalize wr.drew = w7 at *
      refine Reg.tk 0 rfl ?_
      refine Reg.tk 1 rfl ?_
      refine Reg.tk 2 rfl ?_
      refine Reg.tk 3 rfl ?_
      refine Reg.tk 4 rfl ?_
      refine Reg.tk 5 rfl ?_
      refine Reg.tk 6 rfl ?_
      refine Reg.tk 7 rfl ?_
      refine Reg.tk 8 rfl ?_
      refine Reg.tk 9 rfl ?_
      refine Reg.tk 10 rfl ?_
      refine Reg.tk 11 rfl ?_
      refine Reg.tk 12 rfl ?_
      refine Reg.tk 13 rfl ?_
      refine Reg.step 14 rfl (by kernel_rfl) (by rfl) (fun K hK => ?_)
      have z2 := P2.out.own.cell HX.out (j := 2) rfl
      go_simp
      clear z2
      refine hK.out _ _ P2.out.slice (fun hHeld2 => ?_)
      clear hK K
      (try simp only [Act.put, List.setIfInBounds_toArray, List.set_cons_zero, List.set_cons_succ])
      refine Reg.step 15 rfl (by kernel_rfl) (by rfl) (fun K hK => ?_)
      go_simp
      refine (HB _ _ _ _ w7 (P2.out.data x (List.mem_of_getElem? HX.out))).out.mono ?_
      rintro e w8 ⟨X, m, b, rfl, hX, hb⟩
      obtain rfl : m = x.z.data.length := hX.len.symm
      have LOX := Lib.hid (lo_own hX (Nat.le_of_lt (Cells.lt P2.out.box)))
      have RX := Lib.hid (gave_row hX (P2.out.data x (List.mem_of_getElem? HX.out)).big).1
      have P3 := Lib.hid (P2.out.below hb)
      have L3 := Lib.hid (L2.out.trans (hb.mono L2.out.size))
      clear hX hb P2 L2
      refine hK.out _ _ P3.out.slice (fun hHeld3 => ?_)
      clear hK K
      (try simp only [Act.put, List.setIfInBounds_toArray, List.set_cons_zero, List.set_cons_succ])
      refine Reg.tk 16 rfl ?_
      refine Reg.tk 17 rfl ?_
      refine Reg.step 18 rfl (by kernel_rfl) (by rfl) (fun K hK => ?_)
      have z2 := P3.out.own.cell HX.out (j := 2) rfl
      have y2 := P3.out.own.frozen (o + j * 3 + 2)
      go_simp
      have P4 := Lib.hid (P3.out.set1 (x' := ⟨x.z, X, b⟩) (v := .slice X x.z.data.length b) HX.out (j := 2) (by omega) rfl (slice_not _ _ _) rfl (Row.setNot RX.out z2 (slice_not _ _ _) _))
      have L4 := Lib.hid (L3.out.setCell (p := ⟨q, o + j * 3 + 2, none⟩) Q1.out (.slice X x.z.data.length b))
      have M4 : Hid ((xs'.set j ⟨x.z, X, b⟩).map Zv.z = xs.map Zv.z) := by
        show _ = _
        rw [List.map_set, ← M1.out]
        exact set_same (by rw [List.getElem?_map, HX.out]; rfl)
      clear z2 y2
      refine hK.out _ _ P4.out.slice (fun hHeld4 => ?_)
      clear hK K
      (try simp only [Act.put, List.setIfInBounds_toArray, List.set_cons_zero, List.set_cons_succ])
      refine wpAnyH_done (by kernel_rfl) ?_ _
      go_wp2_with fail
      go_roundw
      case rel => exact ⟨j + 1, by go_num, by omega, _, P4.out.box, P4.out.len, P4.out.data, M4.out, L4.out, fun _ => ⟨q, o, rfl, Q1.out, P4.out.ne, P4.out.own⟩, fun i y hi hy => by
        rcases Nat.lt_or_ge i j with h1 | h1
        · rw [List.getElem?_set_ne (by omega)] at hy
          exact LW1.out i y h1 hy
        · obtain rfl : i = j := by omega
          rw [List.getElem?_set_self (by have := (List.getElem?_eq_some_iff.1 HX.out).1; omega)] at hy
          obtain rfl := Option.some.inj hy
          exact LOX.out⟩
      case measure => simp [intOf]; omega
    · obtain rfl : n = j := by omega
      go_wp2_with fail
      go_ret
      obtain ⟨xs', i1, i2, i3, i4, i5, i6, i7⟩ := hI.out
      refine ⟨g, A', c', xs', rfl, G4.out, i1, ⟨i2, HCP.out, by omega, fun h0 => ?_⟩, i3, i4, i5, i6, fun x hx => by
        obtain ⟨i, hi⟩ := List.getElem?_of_mem hx
        exact i7 i x (by have := (List.getElem?_eq_some_iff.1 hi).1; omega) hi⟩
      obtain ⟨q, o, e, -, -, ho⟩ := i6 h0
      exact ⟨q, o, e, ho.lt, fun i x hx j u hu => ho.cell hx hu⟩
end Zns
end Go.Proofs.YtedandbkdjmfhaaGreat
/-
  ANSWERS, A ROW OF THEM OF ONE'S OWN; what is made anew (zones, answers).
-/
namespace Go.Proofs.YtedandbkdjmfhaaGreat
open Go.RowKit Mem Zon
namespace Zns

def OwnE (w : World) (q o : Nat) (es : List Ex) : Prop := ∃ cs, Cells w q 39 cs ∧ ∀ i x, es[i]? = some x → ∀ j u, (cellsE x)[j]? = some u → cs[o + i * 3 + j]? = some u
section
variable {w w' : World} {q o : Nat} {es : List Ex}
theorem OwnE.lt (h : OwnE w q o es) : q < w.heap.size := by obtain ⟨cs, h, -⟩ := h; exact Cells.lt h
theorem OwnE.heap (h : OwnE w q o es) (e : w'.heap[q]? = w.heap[q]?) : OwnE w' q o es := by obtain ⟨cs, h1, h2⟩ := h; exact ⟨cs, e.trans h1, h2⟩
theorem OwnE.below (h : OwnE w q o es) (hb : Below w.heap.size w w') : OwnE w' q o es := h.heap (hb.block q h.lt)
theorem OwnE.but {p : Nat} (h : OwnE w q o es) (hb : But p w w') (hn : q ≠ p) : OwnE w' q o es := h.heap (hb.block h.lt hn)
theorem OwnE.frozen (h : OwnE w q o es) (i : Nat) : w.frozen? ⟨q, i, none⟩ = false := by obtain ⟨cs, h1, -⟩ := h; exact Cells.frozen h1 i
theorem OwnE.cell (h : OwnE w q o es) {i : Nat} {x : Ex} (hx : es[i]? = some x) {j : Nat} {u : Value} (hu : (cellsE x)[j]? = some u) : w.cell? ⟨q, o + i * 3 + j, none⟩ = some u := by
  obtain ⟨cs, h1, h2⟩ := h
  rw [Cells.cell h1]
  exact h2 i x hx j u hu
theorem OwnE.set1 (h : OwnE w q o es) {i j : Nat} {x x' : Ex} {v : Value} (hx : es[i]? = some x) (hj : j < 3) (hc : cellsE x' = (cellsE x).set j v) : OwnE (w.setCell ⟨q, o + i * 3 + j, none⟩ v) q o (es.set i x') := by
  obtain ⟨cs, h1, h2⟩ := h
  refine ⟨_, heap_set h1 _ _, fun i2 y hy j2 u hu => ?_⟩
  have hj2 : j2 < 3 := by have := (List.getElem?_eq_some_iff.1 hu).1; simpa [cellsE] using this
  rw [List.getElem?_set] at hy
  by_cases hi : i = i2
  · subst hi
    have hil : i < es.length := (List.getElem?_eq_some_iff.1 hx).1
    rw [if_pos rfl, if_pos hil] at hy
    injection hy with hy
    subst hy
    rw [hc, List.getElem?_set] at hu
    by_cases hjj : j = j2
    · subst hjj
      rw [if_pos rfl, if_pos (by simpa [cellsE] using hj)] at hu
      injection hu with hu
      subst hu
      obtain ⟨u0, hu0⟩ : ∃ u, (cellsE x)[j]? = some u := ⟨_, List.getElem?_eq_getElem (by simpa [cellsE] using hj)⟩
      have hb := (Array.getElem?_eq_some_iff.1 (h2 i x hx j u0 hu0)).1
      simp [hb]
    · rw [if_neg hjj] at hu
      rw [Array.getElem?_setIfInBounds, if_neg (by omega)]
      exact h2 i x hx j2 u hu
  · rw [if_neg hi] at hy
    rw [Array.getElem?_setIfInBounds, if_neg (by omega)]
    exact h2 i2 y hy j2 u hu
theorem OwnE.row (h : OwnE w q o es) {n c : Nat} (hl : es.length = n) (hn : n ≤ c) (hb : n ≤ 1000) : RowS cellsE 3 w (some ⟨q, o, none⟩) n c es :=
  ⟨hl, hn, by omega, fun _ => ⟨_, _, rfl, h.lt, fun _ _ hx _ _ hu => h.cell hx hu⟩⟩
/-- One answer is written; bytes elsewhere stay. -/
theorem OwnE.store (h : OwnE w q o es) {i : Nat} {x : Ex} (x' : Ex) (hx : es[i]? = some x) :
    OwnE (((w.setCell ⟨q, o + i * 3, none⟩ (.int .i64 x'.p.e)).setCell ⟨q, o + i * 3 + 1, none⟩ (.int .i64 x'.p.at_)).setCell ⟨q, o + i * 3 + 2, none⟩ (.slice x'.B x'.p.b.length x'.k)) q o (es.set i x') := by
  have hil : i < es.length := (List.getElem?_eq_some_iff.1 hx).1
  have s1 := h.set1 (x' := ⟨⟨x'.p.e, x.p.at_, x.p.b⟩, x.B, x.k⟩) (v := .int .i64 x'.p.e) hx (j := 0) (by omega) rfl
  have g1 : (es.set i (⟨⟨x'.p.e, x.p.at_, x.p.b⟩, x.B, x.k⟩ : Ex))[i]? = some (⟨⟨x'.p.e, x.p.at_, x.p.b⟩, x.B, x.k⟩ : Ex) := by simp [hil]
  have s2 := s1.set1 (x' := ⟨⟨x'.p.e, x'.p.at_, x.p.b⟩, x.B, x.k⟩) (v := .int .i64 x'.p.at_) g1 (j := 1) (by omega) rfl
  rw [List.set_set] at s2
  have g2 : (es.set i (⟨⟨x'.p.e, x'.p.at_, x.p.b⟩, x.B, x.k⟩ : Ex))[i]? = some (⟨⟨x'.p.e, x'.p.at_, x.p.b⟩, x.B, x.k⟩ : Ex) := by simp [hil]
  have s3 := s2.set1 (x' := x') (v := .slice x'.B x'.p.b.length x'.k) g2 (j := 2) (by omega) rfl
  rw [List.set_set] at s3
  exact s3
theorem OwnE.row3 (h : OwnE w q o es) {i : Nat} {x : Ex} (hx : es[i]? = some x) {A : Option Addr} {m c : Nat} {l : List B8} (hr : Row cb w A m c l) (a b : Int) (B' : Option Addr) (n' d' : Nat) :
    Row cb (((w.setCell ⟨q, o + i * 3, none⟩ (.int .i64 a)).setCell ⟨q, o + i * 3 + 1, none⟩ (.int .i64 b)).setCell ⟨q, o + i * 3 + 2, none⟩ (.slice B' n' d')) A m c l := by
  have h0 : w.cell? ⟨q, o + i * 3, none⟩ = some (.int .i64 x.p.e) := h.cell hx (j := 0) rfl
  have h1 : w.cell? ⟨q, o + i * 3 + 1, none⟩ = some (.int .i64 x.p.at_) := h.cell hx (j := 1) rfl
  have h2 : w.cell? ⟨q, o + i * 3 + 2, none⟩ = some (.slice x.B x.p.b.length x.k) := h.cell hx (j := 2) rfl
  exact Row.setNot (Row.setNot (Row.setNot hr h0 (int_not _) _) ((World.cell?_setCell_other _ _ _ _ (by simp)).trans h1) (int_not _) _) ((World.cell?_setCell_other _ _ _ _ (by simp)).trans ((World.cell?_setCell_other _ _ _ _ (by simp)).trans h2)) (slice_not _ _ _) _
theorem heap3 (w : World) (q a b c : Nat) (x y z : Value) (k : Nat) (hk : k ≠ q) : (((w.setCell ⟨q, a, none⟩ x).setCell ⟨q, b, none⟩ y).setCell ⟨q, c, none⟩ z).heap[k]? = w.heap[k]? :=
  ((Below.heap_setCell _ _ _ _ hk).trans (Below.heap_setCell _ _ _ _ hk)).trans (Below.heap_setCell _ _ _ _ hk)
theorem OwnE.desk (h : OwnE w q o es) {i : Nat} {x : Ex} (hx : es[i]? = some x) {k : Dk} {xs : List Zv} (hd : Desk k xs w) (hg : q ≠ k.g) (hq : q ≠ k.q) (a b : Int) (B' : Option Addr) (n' d' : Nat) :
    Desk k xs (((w.setCell ⟨q, o + i * 3, none⟩ (.int .i64 a)).setCell ⟨q, o + i * 3 + 1, none⟩ (.int .i64 b)).setCell ⟨q, o + i * 3 + 2, none⟩ (.slice B' n' d')) :=
  ⟨(heap3 _ _ _ _ _ _ _ _ _ (Ne.symm hg)).trans hd.box, hd.own.heap (heap3 _ _ _ _ _ _ _ _ _ (Ne.symm hq)), hd.len, hd.cap, hd.big, fun y hy => h.row3 hx (hd.data y hy) a b B' n' d', hd.ne, hd.low⟩
end

theorem info_done : (Tryz.prog.info? 39).map (fun i => (i.zero, i.size, i.bytes)) = some (some (.agg #[.int .i64 0, .int .i64 0, .slice none 0 0]), 3, 40) := by kernel_rfl
def zeroE : Ex := ⟨⟨0, 0, []⟩, none, 0⟩
def zeroV : Zv := ⟨nilZ, none, 0⟩
theorem made_get (v0 v1 v2 : Value) (n i j : Nat) (hi : i < n) (hj : j < 3) : (madeCells #[v0, v1, v2] (n * 3))[i * 3 + j]? = #[v0, v1, v2][j]? := by
  have hp : i * 3 + j < n * 3 := by omega
  have hm : (i * 3 + j) % 3 = j := by omega
  unfold madeCells
  rw [Array.getElem?_map, Array.getElem?_range, if_pos hp]
  show some _ = _
  match j, hj with
  | 0, _ => simp
  | 1, _ => simp [hm]
  | 2, _ => simp [hm]
theorem made_done {w : World} (n : Nat) : OwnE (w.alloc (.cells (madeCells #[.int .i64 0, .int .i64 0, .slice none 0 0] (n * 3)) 39)) w.heap.size 0 (List.replicate n zeroE) := by
  refine ⟨_, Cells.new w _ _, fun i x hx j u hu => ?_⟩
  have hj : j < 3 := by have := (List.getElem?_eq_some_iff.1 hu).1; simpa [cellsE] using this
  rw [List.getElem?_replicate] at hx
  split at hx
  · rename_i hi
    injection hx with hx
    subst hx
    rw [Nat.zero_add, made_get _ _ _ _ _ _ hi hj]
    simpa [cellsE, zeroE] using hu
  · cases hx
theorem made_zone {w : World} (n : Nat) : OwnZ (w.alloc (.cells (madeCells #[.int .i64 0, .int .i64 0, .slice none 0 0] (n * 3)) 54)) w.heap.size 0 (List.replicate n zeroV) := by
  refine ⟨_, Cells.new w _ _, fun i x hx j u hu => ?_⟩
  have hj : j < 3 := by have := (List.getElem?_eq_some_iff.1 hu).1; simpa [cellsZ] using this
  rw [List.getElem?_replicate] at hx
  split at hx
  · rename_i hi
    injection hx with hx
    subst hx
    rw [Nat.zero_add, made_get _ _ _ _ _ _ hi hj]
    simpa [cellsZ, zeroV, nilZ] using hu
  · cases hx
theorem run_make_done (w : World) (n : Nat) (hn : n ≤ 1000) : (Instr.makeSlice 63 (.int .i64 (n : Int)) (.int .i64 (n : Int))).run Tryz.prog w = .ok (.slice (some ⟨w.heap.size, 0, none⟩) n n) (w.alloc (.cells (madeCells #[.int .i64 0, .int .i64 0, .slice none 0 0] (n * 3)) 39)) := by
  obtain ⟨i, hi, hz0, hz1, hz2⟩ := info_parts info_done
  have h := run_make (P := Tryz.prog) w 63 39 i _ Tryz.underlying63 hi hz0 .i64 .i64 (n : Int) (n : Int) (by omega) (by omega) (by rw [hz2]; omega) (by omega)
  rw [hz1] at h
  exact h
theorem run_make_zone (w : World) (n : Nat) (hn : n ≤ 1000) : (Instr.makeSlice 26 (.int .i64 (n : Int)) (.int .i64 (n : Int))).run Tryz.prog w = .ok (.slice (some ⟨w.heap.size, 0, none⟩) n n) (w.alloc (.cells (madeCells #[.int .i64 0, .int .i64 0, .slice none 0 0] (n * 3)) 54)) := by
  obtain ⟨i, hi, hz0, hz1, hz2⟩ := info_parts info_zone
  have h := run_make (P := Tryz.prog) w 26 54 i _ Tryz.underlying26 hi hz0 .i64 .i64 (n : Int) (n : Int) (by omega) (by omega) (by rw [hz2]; omega) (by omega)
  rw [hz1] at h
  exact h
end Zns
end Go.Proofs.YtedandbkdjmfhaaGreat
