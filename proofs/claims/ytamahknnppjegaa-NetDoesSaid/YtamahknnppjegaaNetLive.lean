/-
  WALKS: what the laws ask first: the chapter's example (live), whether messages are too great (big).
-/
import Derived.Test.YtamahknnppjegaaNetSend
import Derived.Test.YtamahknnppjegaaNetSame
import Derived.Test.YtamahknnppjegaaNetDrop
namespace Go.Proofs.Ytamahknnppjegaa
open Go.RowKit Mem Box
namespace Net
open Wire (B8 info_int asInts asInts_append)

theorem new_at {most : Int} {cap : Nat} (h : most = (cap : Int)) (h1 : 1 ≤ cap) (h2 : cap ≤ 4096) (w : World) : Calls Try.prog 11 #[.int .i64 most] w fun e w' => e = .returned (.tuple #[nv cap none 0 0, .int .i64 0]) ∧ Below w.heap.size w w' := by
  have hb : newB most = false := by unfold newB; simp; omega
  refine (new_any most w).mono ?_
  rw [hb, h]
  exact fun e w' h => h
/-- A list of one. -/
theorem map_one {l : List Mx} {p : Mp} (h : l.map Mx.p = [p]) : ∃ x, l = [x] ∧ x.p = p := by
  match l, h with
  | [x], h => exact ⟨x, rfl, by simpa using h⟩

set_option maxRecDepth 100000 in
set_option maxHeartbeats 1600000 in
theorem big_any {w : World} {M : Option Addr} {m e : Nat} {ls : List Mx} (h : NetAt w M m e ls) :
    Calls Try.prog 26 #[.slice M m e] w fun en w' => (∃ b, en = .returned (.bool b)) ∧ Below w.heap.size w w' := by
  have HM := Lib.hid h
  have hbig := h.row.big
  clear h
  go_enter Try.func26, Try.ntmps26
  go_wp2
  go_loopw [3, 5, 8] (fun s _ i wr => ∃ (k : Nat) (v : Int), i = .int .i64 k ∧ s = .int .i64 v ∧ k ≤ m ∧ Hid (Below w.heap.size w wr)) (fun _ _ i _ => m - (intOf i).toNat)
  case atStart => exact ⟨0, 0, rfl, rfl, by omega, Below.refl _ _⟩
  case round =>
    obtain ⟨k, v, rfl, rfl, hk, hL⟩ := hrel
    by_cases hlt : k < m
    · obtain ⟨x, hx, hxm⟩ := HM.out.get hlt
      obtain ⟨b2, o2, hQ, hb2, hcs⟩ := HM.out.cells hx
      subst hQ
      obtain ⟨c0, c1, c2, c3, c4, c5⟩ := hcs wr hL.out
      have hk0 : (0 : Int) ≤ (k : Int) := by omega
      have hkm : (k : Int) < (m : Int) := by omega
      have L2 : Hid (Below w.heap.size w (wr.alloc (.cells #[.int .i64 x.k, .int .i64 x.f, .int .i64 x.t, .int .i64 x.i, .slice x.A x.n x.c, .slice x.B x.m x.d] 39))) := hL.out.alloc hL.out.size _
      clear hx hxm hcs hb2
      go_wp2_with fail
      go_roundw
      case rel => exact ⟨k + 1, _, by go_num, rfl, by omega, L2.out⟩
      case measure => simp [intOf]; omega
    · go_wp2_with fail
      go_ret
      exact ⟨⟨_, rfl⟩, hL.out⟩

/-! ### The example -/
def ex1 : Mx := ⟨1, 0, 2, 0, none, 0, 0, [], none, 0, 0, []⟩
def ex2 : Mx := ⟨2, 0, 0, 0, none, 0, 0, [], none, 0, 0, []⟩
theorem ex_fits1 : Fits ex1.p := ⟨fun z hz => by simp [ex1, Mx.p] at hz; omega, by simp [ex1, Mx.p], by simp [ex1, Mx.p]⟩
theorem ex_fits2 : Fits ex2.p := ⟨fun z hz => by simp [ex2, Mx.p] at hz; omega, by simp [ex2, Mx.p], by simp [ex2, Mx.p]⟩
theorem ex_row (w : World) : NetAt (w.alloc (.cells #[.int .i64 1, .int .i64 0, .int .i64 2, .int .i64 0, .slice none 0 0, .slice none 0 0, .int .i64 2, .int .i64 0, .int .i64 0, .int .i64 0, .slice none 0 0, .slice none 0 0] 39)) (some ⟨w.heap.size, 0, none⟩) 2 2 [ex1, ex2] := by
  have hc := Cells.new w #[.int .i64 1, .int .i64 0, .int .i64 2, .int .i64 0, .slice none 0 0, .slice none 0 0, .int .i64 2, .int .i64 0, .int .i64 0, .int .i64 0, .slice none 0 0, .slice none 0 0] 39
  refine ⟨⟨rfl, by omega, by omega, fun _ => ⟨_, _, rfl, hc.lt, fun i y hy j u hu => ?_⟩⟩, fun x hx => ?_⟩
  · rw [Cells.cell hc]
    match i, hy with
    | 0, hy =>
      simp at hy
      subst hy
      match j, hu with
      | 0, hu | 1, hu | 2, hu | 3, hu | 4, hu | 5, hu => simpa [cellsM, ex1] using hu
      | j + 6, hu => simp [cellsM] at hu
    | 1, hy =>
      simp at hy
      subst hy
      match j, hu with
      | 0, hu | 1, hu | 2, hu | 3, hu | 4, hu | 5, hu => simpa [cellsM, ex2] using hu
      | j + 6, hu => simp [cellsM] at hu
    | i + 2, hy => simp at hy
  · simp at hx
    rcases hx with rfl | rfl
    · exact ⟨Row.nil _ _, Row.nil _ _, ex_fits1⟩
    · exact ⟨Row.nil _ _, Row.nil _ _, ex_fits2⟩
theorem ex_send {cap : Nat} (h : cap = 1) : sendP cap [] [ex1.p, ex2.p] = [ex1.p] := by subst h; decide
theorem ex_to : toP [ex1.p] 2 = [0] := by decide

set_option maxRecDepth 100000 in
set_option maxHeartbeats 6400000 in
theorem live_any (w : World) : Calls Try.prog 9 #[] w fun e w' => e = .returned (.bool true) ∧ Below w.heap.size w w' := by
  obtain ⟨cap, hcap⟩ : ∃ c : Nat, (1 : Int) = (c : Int) := ⟨1, rfl⟩
  have hc1 : cap = 1 := by omega
  have HN := Lib.hid (new_at hcap (by omega) (by omega) w)
  have HS := fun W (h : NetAt W none 0 0 []) M (h2 : NetAt W M 2 2 [ex1, ex2]) => Lib.hid (send_any (cap := cap) h (by omega) (by omega) h2)
  rw [List.map_nil, show [ex1, ex2].map Mx.p = [ex1.p, ex2.p] from rfl, ex_send hc1, show (([ex1.p].length : Nat) : Int) - ((0 : Nat) : Int) = 1 from rfl] at HS
  clear hcap hc1
  go_enter Try.func9, Try.ntmps9
  go_wp2_with fail
  refine HN.out.mono ?_
  rintro e w1 ⟨rfl, hb⟩
  have L1 := Lib.hid hb
  unfold nv
  clear hb HN
  go_upto_region 2 with fail
  have L2 : Hid (Below w.heap.size w (w1.alloc (.cells #[.int .i64 (cap : Int), .slice none 0 0] 28))) := L1.out.alloc L1.out.size _
  have X2 : Hid (NBox (w1.alloc (.cells #[.int .i64 (cap : Int), .slice none 0 0] 28)) w1.heap.size cap none 0 0) := Cells.new _ _ _
  obtain ⟨g, hg⟩ : ∃ g, g = w1.heap.size := ⟨_, rfl⟩
  have EG : Hid (w.heap.size ≤ g) := by show _ ≤ _; rw [hg]; exact L1.out.size
  rw [← hg] at X2
  rw [← hg]
  clear hg L1
  generalize w1.alloc (.cells #[.int .i64 (cap : Int), .slice none 0 0] 28) = w2 at *
  obtain ⟨k0, k1⟩ := NBox.cells X2.out
  have HE := Lib.hid (ex_row w2)
  have L3 := Lib.hid (L2.out.alloc L2.out.size (.cells #[.int .i64 1, .int .i64 0, .int .i64 2, .int .i64 0, .slice none 0 0, .slice none 0 0, .int .i64 2, .int .i64 0, .int .i64 0, .int .i64 0, .slice none 0 0, .slice none 0 0] 39))
  have X3 := Lib.hid (Cells.alloc X2.out (.cells #[.int .i64 1, .int .i64 0, .int .i64 2, .int .i64 0, .slice none 0 0, .slice none 0 0, .int .i64 2, .int .i64 0, .int .i64 0, .int .i64 0, .slice none 0 0, .slice none 0 0] 39))
  unfold nv at HS
  go_upto_region 3 with (first | (go_at_call 27; refine (HS _ (NetAt.nil _) _ HE.out).out.mono ?_; rintro e w4 ⟨Q, n, c, l, rfl, hO, hP, hb⟩; have L4 := Lib.hid (L3.out.trans (hb.mono L3.out.size)); have X4 := Lib.hid (Cells.below X3.out hb); have HO := Lib.hid hO; have HP := Lib.hid hP; have HB := Lib.hid (Cells.lt X3.out); obtain ⟨j0, j1⟩ := NBox.cells X4.out; have f0 := Cells.frozen X4.out 0; have f1 := Cells.frozen X4.out 1; unfold nv; clear hb hO hP k0 k1) | fail)
  obtain ⟨x, hl, hxp⟩ := map_one HP.out
  subst hl
  have hn1 : n = 1 := HO.out.len.symm
  subst hn1
  have bt := Mov.set2 w4 g (.int .i64 (cap : Int)) (.slice Q 1 c)
  have X5 := Lib.hid (Cells.set2 X4.out (.int .i64 (cap : Int)) (.slice Q 1 c))
  have L5 := Lib.hid (L4.out.trans (bt.up L4.out.size EG.out))
  have N5 := Lib.hid ((HO.out.mov X4.out (by decide) (fun y hy q hq => by have h1 := HO.out.low y hy q hq; have h2 := HB.out; omega) bt).net (by omega))
  have XP := Lib.hid hxp
  clear j0 j1 f0 f1 bt X4 X3 X2 L3 L2 L4 HO HP HB HE HS hxp
  generalize (w4.setCell ⟨g, 0, none⟩ (.int .i64 (cap : Int))).setCell ⟨g, 1, none⟩ (.slice Q 1 c) = w5 at *
  have HT := Lib.hid (take_ok (cap := cap) N5.out (by omega) (j := 0) (x := x) rfl)
  have HTO := fun W (h : Below w5.heap.size w5 W) => Lib.hid (to_any (cap := cap) (N5.out.below h) (by omega) 2)
  rw [show [x].map Mx.p = [x.p] from rfl, XP.out] at HT HTO
  rw [ex_to] at HTO
  obtain ⟨k0, k1⟩ := NBox.cells X5.out
  unfold nv at HT HTO
  go_upto_region 4 with (first | (go_at_call 30; refine HT.out.mono ?_; rintro e w6 ⟨Q2, n2, c2, l2, y, rfl, hO, hP, hyp, -, -, -, -, hb⟩; have L6 := Lib.hid (L5.out.trans (hb.mono L5.out.size)); have X6 := Lib.hid (Cells.below X5.out hb); have B6 := Lib.hid hb; have hl2 : l2 = [] := (by simpa using hP); have hn2 : n2 = 0 := (by rw [← hO.len, hl2]; rfl); subst hn2; have hyk : y.k = 1 := (by have := congrArg Mp.k hyp; exact this); unfold nv mxv; rw [hyk]; clear hb hO hP hyp hyk hl2) | fail)
  clear HT k0 k1 L5
  have A1 : Below w6.heap.size w6 (w6.alloc (.cells #[.int .i64 (cap : Int), .slice Q2 0 c2] 28)) := (Below.refl _ w6).alloc (Nat.le_refl _) _
  have A2 : Below w6.heap.size w6 ((w6.alloc (.cells #[.int .i64 (cap : Int), .slice Q2 0 c2] 28)).alloc (.cells #[.int .i64 1, .int .i64 y.f, .int .i64 y.t, .int .i64 y.i, .slice y.A y.n y.c, .slice y.B y.m y.d] 39)) := A1.alloc A1.size _
  have X7 := Lib.hid (Cells.below X6.out A2)
  have Y7 : Hid (NBox ((w6.alloc (.cells #[.int .i64 (cap : Int), .slice Q2 0 c2] 28)).alloc (.cells #[.int .i64 1, .int .i64 y.f, .int .i64 y.t, .int .i64 y.i, .slice y.A y.n y.c, .slice y.B y.m y.d] 39)) w6.heap.size cap Q2 0 c2) := Cells.alloc (Cells.new _ _ _) _
  have M7 : Hid (Cells ((w6.alloc (.cells #[.int .i64 (cap : Int), .slice Q2 0 c2] 28)).alloc (.cells #[.int .i64 1, .int .i64 y.f, .int .i64 y.t, .int .i64 y.i, .slice y.A y.n y.c, .slice y.B y.m y.d] 39)) (w6.heap.size + 1) 39 #[.int .i64 1, .int .i64 y.f, .int .i64 y.t, .int .i64 y.i, .slice y.A y.n y.c, .slice y.B y.m y.d]) := by
    have := Cells.new (w6.alloc (.cells #[.int .i64 (cap : Int), .slice Q2 0 c2] 28)) #[.int .i64 1, .int .i64 y.f, .int .i64 y.t, .int .i64 y.i, .slice y.A y.n y.c, .slice y.B y.m y.d] 39
    rw [World.size_alloc] at this
    exact this
  have L7 := Lib.hid (L6.out.trans (A2.mono L6.out.size))
  have B7 := Lib.hid (B6.out.trans (A2.mono B6.out.size))
  clear A1 A2 X6 L6 B6
  generalize ((w6.alloc (.cells #[.int .i64 (cap : Int), .slice Q2 0 c2] 28)).alloc (.cells #[.int .i64 1, .int .i64 y.f, .int .i64 y.t, .int .i64 y.i, .slice y.A y.n y.c, .slice y.B y.m y.d] 39)) = w7 at *
  obtain ⟨k0, k1⟩ := NBox.cells X7.out
  obtain ⟨m0, m1⟩ := NBox.cells Y7.out
  have y0 := Cells.cell M7.out 0
  have HSI := fun W A n c (h1 : Row ci W A n c (asInts [0])) B (h2 : Row ci W B 1 1 [0]) => Lib.hid (sameInts_any h1 h2)
  rw [show decide (asInts [0] = [(0 : Int)]) = true from rfl] at HSI
  go_wp2_with (first
    | (go_at_call 21; refine (HTO _ B7.out).out.mono ?_; rintro e w8 ⟨⟨X, k, d, rfl, hO⟩, hb⟩; have L8 := Lib.hid (L7.out.trans (hb.mono L7.out.size)); have R8 := Lib.hid (Wire.gave_row hO (by simp [asInts])).1; have B9 := Lib.hid ((Below.refl _ w8).alloc (Nat.le_refl _) (.cells #[.int .i64 0] 3)); have R9 := Lib.hid (R8.out.below B9.out); have S9 := Lib.hid (rowI_one w8 0); clear hb hO)
    | (go_at_call 20; refine (HSI _ _ _ _ R9.out _ S9.out).out.mono ?_; rintro e w9 ⟨rfl, hb⟩; have L9 := Lib.hid ((L8.out.trans (B9.out.mono L8.out.size)).trans (hb.mono (Nat.le_trans L8.out.size B9.out.size))); clear hb)
    | fail)
  go_ret
  exact ⟨rfl, L9.out⟩
end Net
end Go.Proofs.Ytamahknnppjegaa
