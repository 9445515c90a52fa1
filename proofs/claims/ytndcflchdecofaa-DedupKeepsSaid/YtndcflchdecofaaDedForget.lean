/-
  A WALK: dedup.Forget.
-/
import Derived.Test.YtndcflchdecofaaDedDone
namespace Go.Proofs.Ytndcflchdecofaa
open Go.RowKit Mem Box
namespace Ded

/-! ### Rows of bools of one's own -/
def cbo (b : Bool) : Value := .bool b
theorem info_bool : (Try.prog.info? 4).map (fun i => (i.zero, i.size, i.bytes)) = some (some (.bool false), 1, 1) := by kernel_rfl
theorem made_bools (w : World) (n : Nat) (hn : n ≤ 1000000) : Mem.Owns cbo 4 w.heap.size (w.alloc (.cells (madeCells #[.bool false] n) 4)) (.slice (some ⟨w.heap.size, 0, none⟩) n n) n (List.replicate n false) := by
  have e : madeCells #[.bool false] n = ((List.replicate n false).map cbo).toArray := by
    apply Array.toList_inj.1
    apply List.ext_getElem?
    intro i
    unfold madeCells
    simp only [Array.getElem?_toList, Array.getElem?_map, Array.getElem?_range, List.getElem?_map, List.getElem?_replicate]
    split <;> simp [cbo, Nat.mod_one]
  rw [e]
  have := Mem.Owns.made cbo 4 w (List.replicate n false) (by simp; unfold maxLen; omega) (Nat.le_refl _)
  simpa using this
theorem run_make_bools (w : World) (n : Nat) (hn : n ≤ 1000000) : (Instr.makeSlice 61 (.int .i64 (n : Int)) (.int .i64 (n : Int))).run Try.prog w = .ok (.slice (some ⟨w.heap.size, 0, none⟩) n n) (w.alloc (.cells (madeCells #[.bool false] n) 4)) := by
  obtain ⟨i, hi, hz0, hz1, hz2⟩ := info_parts info_bool
  have h := run_make (P := Try.prog) w 61 4 i _ Try.underlying61 hi hz0 .i64 .i64 (n : Int) (n : Int) (by omega) (by omega) (by rw [hz2]; omega) (by omega)
  rw [hz1, Nat.mul_one] at h
  exact h
theorem bool_write {w : World} {b n g : Nat} {c : Nat} {l : List Bool} (h : Mem.Owns cbo 4 b w (.slice (some ⟨g, 0, none⟩) n c) n l) (k : Nat) (x : Bool) :
    Mem.Owns cbo 4 b (w.setCell ⟨g, k, none⟩ (.bool x)) (.slice (some ⟨g, 0, none⟩) n c) n (l.set k x) := by
  have h1 := World.ownsRow.stored (h : World.ownsRow w b 4 1 _ n (l.map cbo)) k (cbo x)
  show World.ownsRow _ _ _ _ _ _ _
  rw [List.map_set]
  exact h1.1
theorem bool_cell {w : World} {b n g : Nat} {c : Nat} {l : List Bool} (h : Mem.Owns cbo 4 b w (.slice (some ⟨g, 0, none⟩) n c) n l) {k : Nat} {x : Bool} (hx : l[k]? = some x) : w.cell? ⟨g, k, none⟩ = some (.bool x) ∧ w.frozen? ⟨g, k, none⟩ = false := by
  have h0 := (h : World.ownsRow w b 4 1 _ n (l.map cbo))
  have hl := h.len
  have hk := (List.getElem?_eq_some_iff.1 hx).1
  have h1 := World.ownsRow.cellAt h0 k (by omega)
  rw [List.getElem?_map, hx] at h1
  exact ⟨h1, World.ownsRow.frozenAt h0 k⟩
def marks (gs fs : List Int) : List Bool := gs.map (fun g => fs.contains g)
theorem marks_nil (gs : List Int) : marks gs [] = List.replicate gs.length false := by
  unfold marks
  apply List.ext_getElem?
  intro i
  simp [List.getElem?_replicate]
  split <;> simp_all
theorem marks_in {gs fs : List Int} (hr : gs.Pairwise (· < ·)) {v : Int} (hv : hasV gs v = true) : (marks gs fs).set (atV gs v) true = marks gs (fs ++ [v]) := by
  have hk := has_get hv
  have hat : gs[atV gs v]? = some v := by
    unfold hasV at hv
    rwa [beq_iff_eq] at hv
  unfold marks
  apply List.ext_getElem?
  intro i
  rw [List.getElem?_set, List.getElem?_map, List.getElem?_map, List.length_map]
  by_cases h : atV gs v = i
  · subst h
    rw [if_pos rfl, if_pos hk, hat]
    simp
  · rw [if_neg h]
    cases hi : gs[i]? with
    | none => rfl
    | some g =>
      have hne : g ≠ v := by
        intro e
        subst e
        obtain ⟨a1, a2⟩ := List.getElem?_eq_some_iff.1 hat
        obtain ⟨b1, b2⟩ := List.getElem?_eq_some_iff.1 hi
        rcases Nat.lt_or_gt_of_ne h with h1 | h1
        · have := List.pairwise_iff_getElem.1 hr _ i a1 b1 h1; omega
        · have := List.pairwise_iff_getElem.1 hr i _ b1 a1 h1; omega
      simp [hne]
theorem marks_out {gs fs : List Int} (hr : gs.Pairwise (· < ·)) {v : Int} (hv : hasV gs v = false) : marks gs fs = marks gs (fs ++ [v]) := by
  unfold marks
  refine List.map_congr_left fun g hg => ?_
  have hne : g ≠ v := by
    rintro rfl
    have := (has_iff (key := id) (l := gs) (by simpa using hr) g).2 ⟨g, hg, rfl⟩
    rw [List.map_id] at this
    rw [this] at hv
    cases hv
  simp [hne]
/-- A list that a call gave. -/
def GaveF (w : World) (pl : List Sp) (e : Ending) (w' : World) : Prop := ∃ B m d l, e = .returned (.slice B m d) ∧ ListAt w' B m d l ∧ l.map Sx.p = pl ∧ Below w.heap.size w w'
set_option maxRecDepth 100000 in
set_option maxHeartbeats 12800000 in
theorem forget_any {A F : Option Addr} {n c m q : Nat} {l : List Sx} {fs : List Int} {w : World} (h : ListAt w A n c l) (hf : Row ci w F m q fs) (hn : n ≤ 100000) (hm : m ≤ 100000) :
    Calls Try.prog 11 #[.slice A n c, .slice F m q] w (GaveF w (forgetP (l.map Sx.p) fs)) := by
  obtain ⟨r, hr⟩ : ∃ r, r = forgetP (l.map Sx.p) fs := ⟨_, rfl⟩
  rw [← hr]
  have HR := Lib.hid hr
  have H := Lib.hid h
  have HFS := Lib.hid hf
  have HC := Lib.hid (fun W (hW : Below w.heap.size w W) => check_any (h.below hW))
  unfold errP at HC
  clear h hr hf
  rcases e : okL (l.map Sx.p)
  · have HE : Hid (r = []) := by
      show r = _
      rw [HR.out]
      unfold forgetP
      rw [e]; rfl
    rw [e] at HC
    go_enter Try.func11, Try.ntmps11
    go_wp2_with (go_at_call 12; refine (HC.out _ (Below.refl _ _)).mono ?_; rintro e w2 ⟨rfl, hb⟩; have L2 := Lib.hid hb; clear hb)
    go_ret
    exact ⟨none, 0, 0, [], rfl, ListAt.nil _, by rw [HE.out]; rfl, L2.out⟩
  · have hrd : (l.map Sx.f).Pairwise (· < ·) := by
      have := ((okL_iff _).1 e).2.1
      rwa [List.map_map] at this
    have HD0 := Lib.hid ((okL_iff _).1 e).2.2
    have HX8 : Hid (∀ u ∈ l, u.n ≤ 8) := fun u hu => by
      have h1 := (HD0.out u.p (List.mem_map.2 ⟨u, hu, rfl⟩)).2.1
      have h2 := (H.out.at_ u hu).row.len
      unfold Sx.p at h1
      rw [List.length_map] at h1
      omega
    have HRD := Lib.hid hrd
    have HLN := Lib.hid H.out.row.len
    have HE : Hid (r = (l.map Sx.p).filter (fun s => !fs.contains s.f)) := by
      show r = _
      rw [HR.out]
      unfold forgetP
      rw [e]; rfl
    have HF := Lib.hid (fun v W (hW : Below w.heap.size w W) => findSeen_any (v := v) (H.out.below hW) HRD.out)
    rw [e] at HC
    clear e hrd HR HD0
    have hmk := fun w => run_make_bools w n (by omega)
    go_enter Try.func11, Try.ntmps11
    go_upto_region 3 with (go_at_call 12; refine (HC.out _ (Below.refl _ _)).mono ?_; rintro e w2 ⟨rfl, hb⟩; have L2 := Lib.hid hb; clear hb)
    have b3 : Below w2.heap.size w2 (w2.alloc (.cells (madeCells #[.bool false] n) 4)) := (Below.refl _ w2).alloc (Nat.le_refl _) _
    have L3 := Lib.hid (L2.out.trans (b3.mono L2.out.size))
    have O3 := Lib.hid ((made_bools w2 n (by omega)).mono L2.out.size)
    rw [show List.replicate n false = marks (l.map Sx.f) [] by rw [marks_nil, List.length_map, HLN.out]] at O3
    have GG : Hid (w.heap.size ≤ w2.heap.size) := L2.out.size
    have hmk2 := hmk w2
    clear b3 hmk HC L2
    generalize w2.alloc (.cells (madeCells #[.bool false] n) 4) = w3 at *
    generalize w2.heap.size = gb at *
    go_wp2_with fail
    clear hmk2
    go_loopw [7, 8, 9, 21] (fun _ _ _ i wr => ∃ k : Nat, i = .int .i64 k ∧ k ≤ m ∧ Hid (Below w.heap.size w wr) ∧ Hid (Mem.Owns cbo 4 w.heap.size wr (.slice (some ⟨gb, 0, none⟩) n n) n (marks (l.map Sx.f) (fs.take k)))) (fun _ _ _ i _ => m - (intOf i).toNat)
    case atStart => exact ⟨0, rfl, by omega, L3, O3⟩
    case round =>
      obtain ⟨k, rfl, hk, L4, O4⟩ := hrel
      by_cases hlt : k < m
      · obtain ⟨v, hv⟩ := HFS.out.get hlt
        obtain ⟨b, o, hA, hc⟩ := (HFS.out.below L4.out).cell hv
        have HT : Hid (fs.take (k + 1) = fs.take k ++ [v]) := by
          show _ = _
          rw [List.take_add_one, hv]; rfl
        have HFV := Lib.hid (HF.out v _ L4.out)
        unfold ci at hc
        have hk0 : (0 : Int) ≤ (k : Int) := by omega
        have hkn : (k : Int) < (m : Int) := by omega
        subst hA
        clear hv
        rcases ek : hasV (l.map Sx.f) v
        · rw [ek] at HFV
          have HMK := Lib.hid (marks_out (fs := fs.take k) HRD.out ek)
          clear ek
          go_wp2_with (go_at_call 19; refine HFV.out.mono ?_; rintro e w5 ⟨rfl, hb⟩; have L5 := Lib.hid (L4.out.trans (hb.mono L4.out.size)); have O5 := Lib.hid (O4.out.below hb); clear hb)
          go_roundw
          case rel => exact ⟨k + 1, by go_num, by omega, L5, by rw [HT.out, ← HMK.out]; exact O5⟩
          case measure => simp [intOf]; omega
        · rw [ek] at HFV
          have HMK := Lib.hid (marks_in (fs := fs.take k) HRD.out ek)
          have hat := has_get ek
          rw [List.length_map, HLN.out] at hat
          obtain ⟨u, hu⟩ : ∃ u, (marks (l.map Sx.f) (fs.take k))[atV (l.map Sx.f) v]? = some u := ⟨_, List.getElem?_eq_getElem (by unfold marks; rw [List.length_map, List.length_map, HLN.out]; exact hat)⟩
          have HU := Lib.hid hu
          clear ek hu
          generalize atV (l.map Sx.f) v = j at *
          have hj0 : (0 : Int) ≤ (j : Int) := by omega
          have hjn : (j : Int) < (n : Int) := by omega
          go_wp2_with (go_at_call 19; refine HFV.out.mono ?_; rintro e w5 ⟨rfl, hb⟩; have L5 := Lib.hid (L4.out.trans (hb.mono L4.out.size)); have O5 := Lib.hid (O4.out.below hb); clear hb; obtain ⟨y0, y1⟩ := bool_cell O5.out HU.out)
          have L6 : Hid (Below w.heap.size w (w5.setCell ⟨gb, j, none⟩ (.bool true))) := L5.out.trans ((show Mov [gb] w5 _ from Mov.set1 w5 (by simp) j _).up L5.out.size GG.out)
          have O6 := Lib.hid (bool_write O5.out j true)
          rw [HMK.out, ← HT.out] at O6
          clear y0 y1 L5 O5
          generalize w5.setCell ⟨gb, j, none⟩ (.bool true) = w6 at *
          go_roundw
          case rel => exact ⟨k + 1, by go_num, by omega, L6, O6⟩
          case measure => simp [intOf]; omega
      · have hkm : k = m := by omega
        subst hkm
        have OB : Hid (Mem.Owns cbo 4 w.heap.size wr (.slice (some ⟨gb, 0, none⟩) n n) n (marks (l.map Sx.f) fs)) := by
          have := O4.out
          rwa [List.take_of_length_le (by rw [HFS.out.len]; exact Nat.le_refl _)] at this
        obtain ⟨w7, hw7⟩ : ∃ W, W = wr := ⟨_, rfl⟩
        subst hw7
        clear O4 O3 L3
        go_wp2_with fail
        go_loopw [10, 11, 12, 38] (fun K _ _ i wr => ∃ (k d mm : Nat) (B : Option Addr) (ys : List Sx), i = .int .i64 k ∧ K = .slice B mm d ∧ k ≤ n ∧ mm ≤ k ∧ Hid (ys.map Sx.p = ((l.take k).map Sx.p).filter (fun s => !fs.contains s.f)) ∧ Hid (Below w.heap.size w wr) ∧ Hid (OwnS.Owns cellsS 3 51 w.heap.size wr (.slice B mm d) mm ys) ∧ Hid (∀ y ∈ ys, OwnX w.heap.size wr y) ∧ Hid (Mem.Owns cbo 4 w.heap.size wr (.slice (some ⟨gb, 0, none⟩) n n) n (marks (l.map Sx.f) fs))) (fun _ _ _ i _ => n - (intOf i).toNat)
        case atStart => exact ⟨0, 0, 0, none, [], rfl, rfl, by omega, by omega, Lib.hid rfl, L4, Lib.hid (OwnS.Owns.nil _ _ _ _ _), Lib.hid (by simp), OB⟩
        case round =>
          obtain ⟨k, d, mm, B, ys, rfl, rfl, hk, hmk, HP, L8, O8, E8, B8⟩ := hrel
          by_cases hlt : k < n
          · obtain ⟨x, hx, hxx⟩ := ListAt.get H.out hlt
            obtain ⟨b, o, hA, -, hc⟩ := H.out.cells hx
            obtain ⟨c0, c1, c2⟩ := hc _ L8.out
            have HM := Lib.hid (fun W (hW : Below w.heap.size w W) => clonedSeen_any (hxx.below hW) (by have := HX8.out x (List.mem_of_getElem? hx); omega))
            have HB : Hid ((marks (l.map Sx.f) fs)[k]? = some (fs.contains x.f)) := by
              show _ = _
              unfold marks
              rw [List.getElem?_map, List.getElem?_map, hx]
              rfl
            have HT : Hid ((l.take (k + 1)).map Sx.p = (l.take k).map Sx.p ++ [x.p]) := by
              show _ = _
              rw [List.take_add_one, hx, List.map_append]; rfl
            have hk0 : (0 : Int) ≤ (k : Int) := by omega
            have hkn : (k : Int) < (n : Int) := by omega
            unfold sxv at HM
            subst hA
            clear hx hxx hc
            go_upto_region 15 with fail
            have b9 : Below wr.heap.size wr (wr.alloc (.cells #[.int .i64 x.f, .int .i64 x.b, .slice x.A x.n x.c] 51)) := (Below.refl _ wr).alloc (Nat.le_refl _) _
            have L9 := Lib.hid (L8.out.trans (b9.mono L8.out.size))
            have X9 : Hid (SBox (wr.alloc (.cells #[.int .i64 x.f, .int .i64 x.b, .slice x.A x.n x.c] 51)) wr.heap.size x) := Cells.new _ _ _
            have O9 := Lib.hid (O8.out.below b9)
            have E9 := Lib.hid (fun y hy => (E8.out y hy).below b9)
            have B9 := Lib.hid (B8.out.below b9)
            clear b9 L8 O8 E8 B8 c0 c1 c2
            generalize wr.alloc (.cells #[.int .i64 x.f, .int .i64 x.b, .slice x.A x.n x.c] 51) = w9 at *
            generalize wr.heap.size = pq at *
            obtain ⟨m0, m1, m2⟩ := SBox.cells X9.out
            obtain ⟨y0, y1⟩ := bool_cell B9.out HB.out
            rcases eb : fs.contains x.f
            · rw [eb] at y0
              have HEB := Lib.hid eb
              go_wp2_with (first | (go_at_call 23; refine (HM.out _ L9.out).mono ?_; rintro e w10 ⟨y, rfl, hy, hO, hb⟩; have LA := Lib.hid (L9.out.trans (hb.mono L9.out.size)); have OA := Lib.hid (O9.out.below hb); have EA := Lib.hid (fun y hy => (E9.out y hy).below hb); have BA := Lib.hid (B9.out.below hb); have YA := Lib.hid (hO.mono L9.out.size); have HY := Lib.hid hy; clear hb hO hy; unfold sxv) | (at_builtin; have b11 : Below w10.heap.size w10 (w10.alloc (.cells #[.int .i64 y.f, .int .i64 y.b, .slice y.A y.n y.c] 51)) := (Below.refl _ w10).alloc (Nat.le_refl _) _; have LB := Lib.hid (LA.out.trans (b11.mono LA.out.size)); have OB2 := Lib.hid (OA.out.below b11); have EB := Lib.hid (fun y hy => (EA.out y hy).below b11); have BB := Lib.hid (BA.out.below b11); have YB := Lib.hid (OwnD.below YA.out b11); have QB : Hid (SBox (w10.alloc (.cells #[.int .i64 y.f, .int .i64 y.b, .slice y.A y.n y.c] 51)) w10.heap.size y) := Cells.new _ _ _; clear b11; refine OwnS.wpList_append fitS Try.underlying24 info_seen rfl (by omega) rfl (.tmp 48) (.tmp 51) rfl rfl w.heap.size _ mm ys rfl OB2.out _ 1 1 [y] rfl (OwnS.row_one fitS QB.out) (by omega) LB.out.size ?_; intro A' c' w' h1 h2 _; have cg := Chg.own OB2.out h2; have OC := Lib.hid h1; have LC := Lib.hid (LB.out.trans (cg.below LB.out.size (fun q hq => (OwnS.Owns.lt OB2.out q hq).1))); have EC := Lib.hid (fun y hy => OwnD.seen (EB.out y hy) cg); have BC := Lib.hid (cg.ownI BB.out (by decide)); have YC := Lib.hid (OwnD.seen YB.out cg); clear h1 h2 cg))
              go_roundw
              case rel =>
                refine ⟨k + 1, c', mm + 1, A', ys ++ [y], by go_num, rfl, by omega, by omega, ?_, LC, OC, ?_, BC⟩
                · show _ = _
                  rw [List.map_append, HP.out, HT.out, List.filter_append, List.map_cons, List.map_nil, HY.out]
                  have e2 : [x.p].filter (fun s => !fs.contains s.f) = [x.p] := by
                    rw [List.filter_cons_of_pos (by show (!fs.contains x.f) = true; rw [HEB.out]; rfl)]; rfl
                  rw [e2]
                · intro z hz
                  rcases List.mem_append.1 hz with hz | hz
                  · exact EC.out z hz
                  · rw [List.mem_singleton.1 hz]; exact YC.out
              case measure => simp [intOf]; omega
            · rw [eb] at y0
              have HEB := Lib.hid eb
              go_wp2_with fail
              go_roundw
              case rel =>
                refine ⟨k + 1, d, mm, B, ys, by go_num, rfl, by omega, by omega, ?_, L9, O9, E9, B9⟩
                show _ = _
                rw [HP.out, HT.out, List.filter_append]
                have e2 : [x.p].filter (fun s => !fs.contains s.f) = [] := by
                  rw [List.filter_cons_of_neg (by show ¬ (!fs.contains x.f) = true; rw [HEB.out]; simp)]; rfl
                rw [e2, List.append_nil]
              case measure => simp [intOf]; omega
          · have hkn : k = n := by omega
            subst hkn
            have PF : Hid (ys.map Sx.p = r) := by
              have := HP.out
              rw [List.take_of_length_le (by rw [HLN.out]; exact Nat.le_refl _)] at this
              show _ = _
              rw [this, HE.out]
            have HU8 : Hid (∀ y ∈ ys, y.n ≤ 8) := fun y hy => by
              have h1 : y.p ∈ ys.map Sx.p := List.mem_map.2 ⟨y, hy, rfl⟩
              rw [PF.out, HE.out] at h1
              obtain ⟨u, hu, he⟩ := List.mem_map.1 (List.mem_filter.1 h1).1
              have h2 := congrArg (fun s : Sp => s.l.length) he
              unfold Sx.p at h2
              simp only [List.length_map] at h2
              have h3 : y.l.length = y.n := (E8.out y hy).own.2
              have h4 := (H.out.at_ u hu).row.len
              have h5 := HX8.out u hu
              omega
            clear HP
            go_wp2_with fail
            go_ret
            exact ⟨B, mm, d, ys, rfl, ⟨O8.out.row fitS (by omega), fun y hy => OwnD.any (E8.out y hy) (by have := HU8.out y hy; omega)⟩, PF.out, L8.out⟩
end Ded
end Go.Proofs.Ytndcflchdecofaa
