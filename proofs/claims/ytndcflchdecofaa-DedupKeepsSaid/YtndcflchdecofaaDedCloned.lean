/-
  A WALK: a list copied whole (dedup.cloned).
-/
import Derived.Test.YtndcflchdecofaaDedClone
namespace Go.Proofs.Ytndcflchdecofaa
open Go.RowKit Mem Box
namespace Ded

theorem made_getS (n i j : Nat) (hi : i < n) (hj : j < 3) : (madeCells #[.int .i64 0, .int .i64 0, .slice none 0 0] (n * 3))[i * 3 + j]? = (cellsS s0)[j]? := by
  have hm : (i * 3 + j) % 3 = j := by omega
  have hlt : i * 3 + j < n * 3 := by omega
  unfold madeCells
  rw [Array.getElem?_map, Array.getElem?_range, if_pos hlt]
  match j, hj with
  | 0, _ => simp [cellsS, s0]
  | 1, _ => simp [hm, cellsS, s0]
  | 2, _ => simp [hm, cellsS, s0]
theorem made_flat (n : Nat) : (madeCells #[.int .i64 0, .int .i64 0, .slice none 0 0] (n * 3)).toList = (List.replicate n s0).flatMap cellsS := by
  apply List.ext_getElem?
  intro q
  rcases Nat.lt_or_ge q (n * 3) with h | h
  · have h1 := made_getS n (q / 3) (q % 3) (by omega) (by omega)
    rw [show q / 3 * 3 + q % 3 = q by omega] at h1
    rw [Array.getElem?_toList, h1]
    obtain ⟨u, hu⟩ : ∃ u, (cellsS s0)[q % 3]? = some u := ⟨_, List.getElem?_eq_getElem (by show _ < 3; omega)⟩
    have := OwnS.flat_get fitS (List.replicate n s0) (q / 3) (q % 3) s0 u (by rw [List.getElem?_replicate, if_pos (by omega)]) hu
    rw [show q / 3 * 3 + q % 3 = q by omega] at this
    rw [this, hu]
  · rw [List.getElem?_eq_none (by simp [madeCells]; omega), List.getElem?_eq_none (by rw [OwnS.flat_len fitS]; simp; omega)]
theorem made_own (w : World) (n : Nat) (hn : n ≤ 1000000) {base : Nat} (hb : base ≤ w.heap.size) : OwnS.Owns cellsS 3 51 base (w.alloc (.cells (madeCells #[.int .i64 0, .int .i64 0, .slice none 0 0] (n * 3)) 51)) (.slice (some ⟨w.heap.size, 0, none⟩) n n) n (List.replicate n s0) := by
  refine OwnS.Owns.of_cells (cur := (madeCells #[.int .i64 0, .int .i64 0, .slice none 0 0] (n * 3)).toList) fitS ?_ hb (Nat.le_refl _) (by unfold maxLen; omega) (by simp [madeCells]) ?_ (by simp)
  · simpa using Cells.new w (madeCells #[.int .i64 0, .int .i64 0, .slice none 0 0] (n * 3)) 51
  · rw [made_flat, List.take_of_length_le (by rw [OwnS.flat_len fitS]; simp)]
theorem run_make_seen (w : World) (n : Nat) (hn : n ≤ 1000000) : (Instr.makeSlice 24 (.int .i64 (n : Int)) (.int .i64 (n : Int))).run Try.prog w = .ok (.slice (some ⟨w.heap.size, 0, none⟩) n n) (w.alloc (.cells (madeCells #[.int .i64 0, .int .i64 0, .slice none 0 0] (n * 3)) 51)) := by
  obtain ⟨i, hi, hz0, hz1, hz2⟩ := info_parts info_seen
  have h := run_make (P := Try.prog) w 24 51 i _ Try.underlying24 hi hz0 .i64 .i64 (n : Int) (n : Int) (by omega) (by omega) (by rw [hz2]; omega) (by omega)
  rw [hz1] at h
  exact h
def set3W (w : World) (g k : Nat) (y : Sx) : World := ((w.setCell ⟨g, k * 3, none⟩ (.int .i64 y.f)).setCell ⟨g, k * 3 + 1, none⟩ (.int .i64 y.b)).setCell ⟨g, k * 3 + 2, none⟩ (.slice y.A y.n y.c)
theorem put3 {base g : Nat} {w : World} {n c : Nat} {l : List Sx} (h : OwnS.Owns cellsS 3 51 base w (.slice (some ⟨g, 0, none⟩) n c) n l) {k : Nat} {x : Sx} (hx : l[k]? = some x) (y : Sx) : OwnS.Owns cellsS 3 51 base (set3W w g k y) (.slice (some ⟨g, 0, none⟩) n c) n (l.set k y) := by
  have hk := (List.getElem?_eq_some_iff.1 hx).1
  have e1 := h.put fitS hx 0 (.int .i64 y.f) ⟨y.f, x.b, x.A, x.n, x.c, []⟩ (by omega) rfl
  rw [Nat.add_zero] at e1
  have e2 := e1.put fitS (OwnS.Owns.set_at hk _) 1 (.int .i64 y.b) ⟨y.f, y.b, x.A, x.n, x.c, []⟩ (by omega) rfl
  rw [List.set_set] at e2
  have e3 := e2.put fitS (OwnS.Owns.set_at hk _) 2 (.slice y.A y.n y.c) y (by omega) rfl
  rw [List.set_set] at e3
  exact e3
theorem mov3 (w : World) (g k : Nat) (y : Sx) : Mov [g] w (set3W w g k y) :=
  ((Mov.set1 w (by simp) _ _).trans (Mov.set1 _ (by simp) _ _) (fun _ h => .inl h)).trans (Mov.set1 _ (by simp) _ _) (fun _ h => .inl h)
theorem three_own {w : World} {base g : Nat} {n c : Nat} {l : List Sx} {k : Nat} {x : Sx} (h : OwnS.Owns cellsS 3 51 base w (.slice (some ⟨g, 0, none⟩) n c) n l) (hx : l[k]? = some x) : w.cell? ⟨g, k * 3, none⟩ = some (.int .i64 x.f) ∧ w.cell? ⟨g, k * 3 + 1, none⟩ = some (.int .i64 x.b) ∧ w.cell? ⟨g, k * 3 + 2, none⟩ = some (.slice x.A x.n x.c) :=
  ⟨h.cell fitS hx 0 _ rfl, h.cell fitS hx 1 _ rfl, h.cell fitS hx 2 _ rfl⟩
/-- Those made earlier lie apart from one that is made later. -/
theorem later {base : Nat} {w w' : World} {x y : Sx} (hx : OwnX base w x) (hy : OwnX w.heap.size w' y) : Apart x y := by
  unfold Apart
  rcases e : x.ob with _ | q
  · exact .inl rfl
  · refine .inr fun h => ?_
    have h1 := (OwnS.Owns.lt hx.own q e).2
    have h2 := (OwnS.Owns.lt hy.own q h.symm).1
    omega
/-- A list of its own. -/
def GaveL (w : World) (pl : List Sp) (n : Nat) (e : Ending) (w' : World) : Prop := ∃ B d l, e = .returned (.slice B n d) ∧ OwnL w.heap.size w' B n d l ∧ l.map Sx.p = pl ∧ Below w.heap.size w w'
set_option maxRecDepth 100000 in
set_option maxHeartbeats 12800000 in
theorem cloned_any {A : Option Addr} {n c : Nat} {l : List Sx} {w : World} (h : ListAt w A n c l) (hn : n ≤ 1000000) (hm : ∀ x ∈ l, x.n ≤ 1000000) : Calls Try.prog 20 #[.slice A n c] w (GaveL w (l.map Sx.p) n) := by
  have H := Lib.hid h
  have HL := Lib.hid h.row.len
  have HMM := Lib.hid hm
  have hmk := run_make_seen w n hn
  have b1 : Below w.heap.size w (w.alloc (.cells (madeCells #[.int .i64 0, .int .i64 0, .slice none 0 0] (n * 3)) 51)) := (Below.refl _ w).alloc (Nat.le_refl _) _
  have L1 := Lib.hid b1
  have O1 := Lib.hid (made_own w n hn (Nat.le_refl _))
  obtain ⟨zs, hzs⟩ : ∃ zs, zs = List.replicate n s0 := ⟨_, rfl⟩
  have HZL : Hid (zs.length = n) := by show _ = _; rw [hzs]; simp
  rw [← hzs] at O1
  have SZ : Hid (w.heap.size < (w.alloc (.cells (madeCells #[.int .i64 0, .int .i64 0, .slice none 0 0] (n * 3)) 51)).heap.size) := by show _ < _; simp
  generalize w.alloc (.cells (madeCells #[.int .i64 0, .int .i64 0, .slice none 0 0] (n * 3)) 51) = w1 at *
  clear h hm b1 hzs
  go_enter Try.func20, Try.ntmps20
  go_wp2_with fail
  clear hmk
  go_loopw [4, 5, 11] (fun _ _ i wr => ∃ (k : Nat) (ys : List Sx), i = .int .i64 k ∧ k ≤ n ∧ ys.length = k ∧ Hid (ys.map Sx.p = (l.take k).map Sx.p) ∧ Hid (Below w.heap.size w wr) ∧ Hid (OwnS.Owns cellsS 3 51 w.heap.size wr (.slice (some ⟨w.heap.size, 0, none⟩) n n) n (ys ++ zs.drop k)) ∧ Hid (∀ y ∈ ys, OwnX w.heap.size wr y) ∧ Hid (ys.Pairwise Apart) ∧ Hid (w.heap.size < wr.heap.size)) (fun _ _ i _ => n - (intOf i).toNat)
  case atStart => exact ⟨0, [], rfl, by omega, rfl, rfl, L1, O1, Lib.hid (by simp), Lib.hid List.Pairwise.nil, SZ⟩
  case round =>
    obtain ⟨k, ys, rfl, hk, hys, HP, L4, O4, M4, PW, S4⟩ := hrel
    by_cases hlt : k < n
    · obtain ⟨x, hx, hxx⟩ := ListAt.get H.out hlt
      obtain ⟨z0, hz0⟩ : ∃ z, zs[k]? = some z := ⟨_, List.getElem?_eq_getElem (by rw [HZL.out]; exact hlt)⟩
      have HG := Lib.hid (set_next ys zs hys hz0 z0).1
      have HS := Lib.hid (fun z => (set_next ys zs hys hz0 z).2)
      have HX := Lib.hid hx
      have HM := Lib.hid (fun W (hW : Below w.heap.size w W) => clonedSeen_any (hxx.below hW) (HMM.out x (List.mem_of_getElem? hx)))
      obtain ⟨b, o, hA, -, hc⟩ := H.out.cells hx
      obtain ⟨c0, c1, c2⟩ := hc _ L4.out
      have hk0 : (0 : Int) ≤ (k : Int) := by omega
      have hkn : (k : Int) < (n : Int) := by omega
      have HRO := Lib.hid hys
      unfold sxv at HM
      subst hA
      clear hx hxx hz0 hc hys
      go_upto_region 5 with fail
      have L5 : Hid (Below w.heap.size w (wr.alloc (.cells #[.int .i64 x.f, .int .i64 x.b, .slice x.A x.n x.c] 51))) := L4.out.alloc L4.out.size _
      have B5 : Hid (Below wr.heap.size wr (wr.alloc (.cells #[.int .i64 x.f, .int .i64 x.b, .slice x.A x.n x.c] 51))) := (Below.refl _ wr).alloc (Nat.le_refl _) _
      have X5 : Hid (SBox (wr.alloc (.cells #[.int .i64 x.f, .int .i64 x.b, .slice x.A x.n x.c] 51)) wr.heap.size x) := Cells.new _ _ _
      have O5 := Lib.hid (O4.out.below B5.out)
      have M5 := Lib.hid (fun y hy => (M4.out y hy).below B5.out)
      have S5 := Lib.hid (Nat.lt_of_lt_of_le S4.out B5.out.size)
      have BG := Lib.hid (show w.heap.size ≤ wr.heap.size from L4.out.size)
      clear B5 L4 O4 M4 c0 c1 c2 S4
      generalize wr.alloc (.cells #[.int .i64 x.f, .int .i64 x.b, .slice x.A x.n x.c] 51) = w5 at *
      generalize wr.heap.size = q at *
      obtain ⟨m0, m1, m2⟩ := SBox.cells X5.out
      obtain ⟨r0, r1, r2⟩ := three_own O5.out HG.out
      go_wp2_with (go_at_call 23; refine (HM.out _ L5.out).mono ?_; rintro e w6 ⟨y, rfl, hy, hO, hb⟩; have L6 := Lib.hid (L5.out.trans (hb.mono L5.out.size)); have O6 := Lib.hid (O5.out.below hb); have M6 := Lib.hid (fun z hz => (M5.out z hz).below hb); have AP := Lib.hid (fun z hz => later (M5.out z hz) hO); have N6 := Lib.hid (hO.mono L5.out.size); have HY := Lib.hid hy; have S6 := Lib.hid (Nat.lt_of_lt_of_le S5.out hb.size); clear r0 r1 r2 hO hy hb L5 O5 M5 S5; obtain ⟨r0, r1, r2⟩ := three_own O6.out HG.out; have hfz := fun i => OwnS.Owns.free O6.out (by omega) i; unfold sxv)
      have bt := mov3 w6 w.heap.size k y
      have O7 := Lib.hid (put3 O6.out HG.out y)
      obtain ⟨cur, hcur, -⟩ := OwnS.Owns.block O6.out (g := w.heap.size) rfl
      have cg := Chg.mov hcur bt
      have L7 := Lib.hid (L6.out.trans (bt.up L6.out.size (Nat.le_refl _)))
      have M7 := Lib.hid (fun z hz => (M6.out z hz).seen cg)
      have N7 := Lib.hid (N6.out.seen cg)
      have S7 := Lib.hid (Nat.lt_of_lt_of_le S6.out bt.size)
      clear bt cg hcur cur r0 r1 r2 hfz L6 O6 M6 N6 S6
      unfold set3W at O7 L7 M7 N7 S7
      generalize ((w6.setCell ⟨w.heap.size, k * 3, none⟩ (.int .i64 y.f)).setCell ⟨w.heap.size, k * 3 + 1, none⟩ (.int .i64 y.b)).setCell ⟨w.heap.size, k * 3 + 2, none⟩ (.slice y.A y.n y.c) = w7 at *
      go_roundw
      case rel =>
        refine ⟨k + 1, ys ++ [y], by go_num, by omega, by rw [List.length_append, HRO.out]; rfl, ?_, L7, ?_, ?_, ?_, S7⟩
        · show _ = _
          rw [List.map_append, HP.out, show (l.take (k + 1)) = l.take k ++ [x] by rw [List.take_add_one, HX.out]; rfl, List.map_append, List.map_cons, List.map_nil, HY.out]
          rfl
        · rw [← HS.out]; exact O7
        · intro z hz
          rcases List.mem_append.1 hz with hz | hz
          · exact M7.out z hz
          · rw [List.mem_singleton.1 hz]; exact N7.out
        · exact List.pairwise_append.2 ⟨PW.out, List.pairwise_singleton _ _, fun a ha b hb => by rw [List.mem_singleton.1 hb]; exact AP.out a ha⟩
      case measure => simp [intOf]; omega
    · have hkn : k = n := by omega
      subst hkn
      have hd0 : zs.drop k = [] := List.drop_eq_nil_of_le (by rw [HZL.out]; exact Nat.le_refl _)
      have OF : Hid (OwnL w.heap.size wr (some ⟨w.heap.size, 0, none⟩) k k ys) := ⟨by
        have := O4.out
        rwa [hd0, List.append_nil] at this, M4.out, PW.out⟩
      have PF : Hid (ys.map Sx.p = l.map Sx.p) := by
        have := HP.out
        rwa [List.take_of_length_le (by rw [HL.out]; exact Nat.le_refl _)] at this
      clear hd0 O4 HP
      go_wp2_with fail
      go_ret
      exact ⟨_, _, ys, rfl, OF.out, PF.out, L4.out⟩
end Ded
end Go.Proofs.Ytndcflchdecofaa
