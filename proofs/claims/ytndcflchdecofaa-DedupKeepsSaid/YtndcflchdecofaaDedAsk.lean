/-
  A WALK: dedup.Ask.
-/
import Derived.Test.YtndcflchdecofaaDedOf
import Derived.Test.YtndcflchdecofaaDedCheck
import Derived.Test.YtndcflchdecofaaDedMsg
namespace Go.Proofs.Ytndcflchdecofaa
open Go.RowKit Mem Box
namespace Ded
open Net (Mp Mx MAt mxv MBox six_free)

/-- What a call gave: a message, and what a request is. -/
def GaveA (w : World) (r : Mp × Int) (e : Ending) (w' : World) : Prop := ∃ y, e = .returned (.tuple #[mxv y, .int .i64 r.2]) ∧ y.p = r.1 ∧ MAt w' y ∧ Below w.heap.size w w'
theorem x0_p : x0.p = m0 := rfl
set_option maxRecDepth 100000 in
set_option maxHeartbeats 6400000 in
theorem ask_any {A : Option Addr} {n c : Nat} {l : List Sx} {f i : Int} {w : World} (h : ListAt w A n c l) :
    Calls Try.prog 8 #[.slice A n c, .int .i64 f, .int .i64 i] w (GaveA w (askP (l.map Sx.p) f i)) := by
  obtain ⟨r, hR⟩ : ∃ r, r = askP (l.map Sx.p) f i := ⟨_, rfl⟩
  rw [← hR]
  have HR := Lib.hid hR
  have H := Lib.hid h
  have L1 : Hid (Below w.heap.size w (w.alloc (.cells #[.int .i64 0, .int .i64 0, .int .i64 0, .int .i64 0, .slice none 0 0, .slice none 0 0] 33))) := (Below.refl _ w).alloc (Nat.le_refl _) _
  have Z1 : Hid (MBox (w.alloc (.cells #[.int .i64 0, .int .i64 0, .int .i64 0, .int .i64 0, .slice none 0 0, .slice none 0 0] 33)) w.heap.size x0) := Cells.new _ _ _
  have HC := Lib.hid (fun W (hW : Below w.heap.size w W) => check_any (h.below hW))
  unfold errP at HC
  clear h hR
  rcases e : okL (l.map Sx.p)
  · have HE : Hid (r = (m0, 2)) := by
      show r = _
      rw [HR.out]
      unfold askP
      rw [e]; rfl
    rw [e] at HC
    go_enter Try.func8, Try.ntmps8
    go_upto_region 1 with fail
    generalize w.alloc (.cells #[.int .i64 0, .int .i64 0, .int .i64 0, .int .i64 0, .slice none 0 0, .slice none 0 0] 33) = w1 at *
    go_upto_region 2 with (go_at_call 12; refine (HC.out _ L1.out).mono ?_; rintro e w2 ⟨rfl, hb⟩; have L2 := Lib.hid (L1.out.trans (hb.mono L1.out.size)); have Z2 := Lib.hid (Cells.below Z1.out hb); clear hb)
    obtain ⟨n0, n1, n2, n3, n4, n5⟩ := MBox.cells Z2.out
    obtain ⟨f0, f1, f2, f3, f4, f5⟩ := six_free Z2.out
    dsimp only [x0] at n0 n1 n2 n3 n4 n5
    go_wp2_with fail
    refine bodyPost_ret_by (results_c1 rfl _ _ w.heap.size _ _ _ _ rfl (Cells.set6 Z2.out (.int .i64 0) (.int .i64 0) (.int .i64 0) (.int .i64 0) (.slice none 0 0) (.slice none 0 0)) Try.underlying33 rfl (by kernel_rfl)) rfl ?_
    rw [HE.out]
    exact ⟨x0, rfl, rfl, at0 _, L2.out.trans ((Mov.set6 _ _ _ _ _ _ _ _).up L2.out.size (Nat.le_refl _))⟩
  · have hr : (l.map Sx.f).Pairwise (· < ·) := by
      have := ((okL_iff _).1 e).2.1
      rwa [List.map_map] at this
    have HO := Lib.hid (fun W (hW : Below w.heap.size w W) => of_any (v := f) (H.out.below hW) hr)
    have HK := Lib.hid (ofP_ok e f).1
    have HE : Hid (r = tellS (ofP (l.map Sx.p) f) i) := by
      show r = _
      rw [HR.out]
      unfold askP
      rw [e]; rfl
    rw [e] at HC
    clear e hr HR
    go_enter Try.func8, Try.ntmps8
    go_upto_region 1 with fail
    generalize w.alloc (.cells #[.int .i64 0, .int .i64 0, .int .i64 0, .int .i64 0, .slice none 0 0, .slice none 0 0] 33) = w1 at *
    go_upto_region 3 with (go_at_call 12; refine (HC.out _ L1.out).mono ?_; rintro e w2 ⟨rfl, hb⟩; have L2 := Lib.hid (L1.out.trans (hb.mono L1.out.size)); have Z2 := Lib.hid (Cells.below Z1.out hb); clear hb)
    go_wp2_with fail
    refine (HO.out _ L2.out).mono ?_
    rintro e w3 ⟨y, rfl, hy, hyy, hb⟩
    have L3 := Lib.hid (L2.out.trans (hb.mono L2.out.size))
    have Z3 := Lib.hid (Cells.below Z2.out hb)
    have Y3 := Lib.hid hyy
    have HP := Lib.hid hy
    rw [← hy] at HK HE
    clear hb hyy hy HO HC L1 Z1 L2 Z2
    unfold sxv
    go_upto_region 4 with fail
    have L4 : Hid (Below w.heap.size w (w3.alloc (.cells #[.int .i64 y.f, .int .i64 y.b, .slice y.A y.n y.c] 51))) := L3.out.alloc L3.out.size _
    have B34 : Hid (Below w3.heap.size w3 (w3.alloc (.cells #[.int .i64 y.f, .int .i64 y.b, .slice y.A y.n y.c] 51))) := (Below.refl _ w3).alloc (Nat.le_refl _) _
    have S4 : Hid (SBox (w3.alloc (.cells #[.int .i64 y.f, .int .i64 y.b, .slice y.A y.n y.c] 51)) w3.heap.size y) := Cells.new _ _ _
    have Z4 := Lib.hid (Cells.below Z3.out B34.out)
    have Y4 := Lib.hid (Y3.out.below B34.out)
    generalize w3.alloc (.cells #[.int .i64 y.f, .int .i64 y.b, .slice y.A y.n y.c] 51) = w4 at *
    clear Z3 Y3 B34 L3
    generalize w3.heap.size = g at *
    obtain ⟨s0, s1, s2⟩ := SBox.cells S4.out
    rcases hb : decide (i < y.b)
    · have HBX := Lib.hid (of_decide_eq_false hb)
      have hrd : (y.l.map Dx.id).Pairwise (· < ·) := by
        have := HK.out.2.2.2
        unfold Sx.p at this
        rwa [List.map_map] at this
      have HF := Lib.hid (fun W (hW : Below w4.heap.size w4 W) => findSaid_any (v := i) (Y4.out.below hW) hrd)
      have eD : (y.p.l.map Dp.id) = y.l.map Dx.id := by unfold Sx.p; rw [List.map_map]; rfl
      rcases e2 : hasV (y.l.map Dx.id) i
      · have HE : Hid (r = (Ded.m0, 0)) := by
          show r = _
          rw [HE.out]
          unfold tellS
          rw [eD, e2, decide_eq_false (by have := HBX.out; exact this)]
          simp only [cond_false]
          split <;> rfl
        rw [e2] at HF
        clear e2 eD hrd
        go_upto_region 8 with (go_at_call 17; refine (HF.out _ (Below.refl _ _)).mono ?_; rintro e w5 ⟨rfl, hb⟩; have L5 := Lib.hid (L4.out.trans (hb.mono L4.out.size)); have Z5 := Lib.hid (Cells.below Z4.out hb); clear hb)
        obtain ⟨n0, n1, n2, n3, n4, n5⟩ := MBox.cells Z5.out
        obtain ⟨f0, f1, f2, f3, f4, f5⟩ := six_free Z5.out
        dsimp only [x0] at n0 n1 n2 n3 n4 n5
        go_wp2_with fail
        refine bodyPost_ret_by (results_c1 rfl _ _ w.heap.size _ _ _ _ rfl (Cells.set6 Z5.out (.int .i64 0) (.int .i64 0) (.int .i64 0) (.int .i64 0) (.slice none 0 0) (.slice none 0 0)) Try.underlying33 rfl (by kernel_rfl)) rfl ?_
        rw [HE.out]
        exact ⟨x0, rfl, rfl, at0 _, L5.out.trans ((Mov.set6 _ _ _ _ _ _ _ _).up L5.out.size (Nat.le_refl _))⟩
      · have hk := has_get e2
        rw [List.length_map] at hk
        obtain ⟨d, hd⟩ : ∃ d, y.l[atV (y.l.map Dx.id) i]? = some d := ⟨_, List.getElem?_eq_getElem hk⟩
        have HE : Hid (r = (d.m.p, 1)) := by
          show r = _
          rw [HE.out]
          unfold tellS
          rw [eD, e2, decide_eq_false (by have := HBX.out; exact this), show y.p.l = y.l.map Dx.p from rfl, List.getElem?_map, hd]
          rfl
        rw [e2] at HF
        have hyl := Y4.out.row.len
        obtain ⟨b, o, hA, -, hc⟩ := SaidAt.cells Y4.out hd
        have HCX := Lib.hid hc
        have HM := Lib.hid (fun W (hW : Below w4.heap.size w4 W) => clonedMsg_any ((Y4.out.at_ d (List.mem_of_getElem? hd)).below hW))
        rw [hA] at s2 HF
        unfold mxv at HM
        clear e2 eD hrd hc hd
        generalize atV (y.l.map Dx.id) i = k at *
        have hk0 : (0 : Int) ≤ (k : Int) := by omega
        have hkn : (k : Int) < (y.n : Int) := by omega
        go_upto_region 9 with (go_at_call 17; refine (HF.out _ (Below.refl _ _)).mono ?_; rintro e w5 ⟨rfl, hb⟩; have B5 := Lib.hid hb; have L5 := Lib.hid (L4.out.trans (hb.mono L4.out.size)); have Z5 := Lib.hid (Cells.below Z4.out hb); have S5 := Lib.hid (Cells.below S4.out hb); clear hb s0 s1 s2)
        obtain ⟨s0, s1, s2⟩ := SBox.cells S5.out
        rw [hA] at s2
        obtain ⟨c0, c1, c2, c3, c4, c5, c6⟩ := HCX.out _ B5.out
        go_wp2_with (go_at_call 18; refine (HM.out _ B5.out).mono ?_; rintro e w6 ⟨z, rfl, hz, hO, hb⟩; have L6 := Lib.hid (L5.out.trans (hb.mono L5.out.size)); have Z6 := Lib.hid (Cells.below Z5.out hb); have O6 := Lib.hid hO; have HZ := Lib.hid hz; clear hb hO hz; obtain ⟨n0, n1, n2, n3, n4, n5⟩ := MBox.cells Z6.out; obtain ⟨f0, f1, f2, f3, f4, f5⟩ := six_free Z6.out; dsimp only [x0] at n0 n1 n2 n3 n4 n5; unfold mxv)
        refine bodyPost_ret_by (results_c1 rfl _ _ w.heap.size _ _ _ _ rfl (Cells.set6 Z6.out (.int .i64 z.k) (.int .i64 z.f) (.int .i64 z.t) (.int .i64 z.i) (.slice z.A z.n z.c) (.slice z.B z.m z.d)) Try.underlying33 rfl (by kernel_rfl)) rfl ?_
        rw [HE.out]
        have bt := Mov.set6 w6 w.heap.size (.int .i64 z.k) (.int .i64 z.f) (.int .i64 z.t) (.int .i64 z.i) (.slice z.A z.n z.c) (.slice z.B z.m z.d)
        exact ⟨z, rfl, HZ.out, (O6.out.chg (Chg.mov Z6.out bt) (by decide) (by decide)).at_, L6.out.trans (bt.up L6.out.size (Nat.le_refl _))⟩
    · have HE : Hid (r = (Ded.m0, 2)) := by
        show r = _
        rw [HE.out]
        unfold tellS
        rw [show y.p.b = y.b from rfl, hb]
        rfl
      go_upto_region 5 with fail
      obtain ⟨n0, n1, n2, n3, n4, n5⟩ := MBox.cells Z4.out
      obtain ⟨f0, f1, f2, f3, f4, f5⟩ := six_free Z4.out
      dsimp only [x0] at n0 n1 n2 n3 n4 n5
      go_wp2_with fail
      refine bodyPost_ret_by (results_c1 rfl _ _ w.heap.size _ _ _ _ rfl (Cells.set6 Z4.out (.int .i64 0) (.int .i64 0) (.int .i64 0) (.int .i64 0) (.slice none 0 0) (.slice none 0 0)) Try.underlying33 rfl (by kernel_rfl)) rfl ?_
      rw [HE.out]
      exact ⟨x0, rfl, rfl, at0 _, L4.out.trans ((Mov.set6 _ _ _ _ _ _ _ _).up L4.out.size (Nat.le_refl _))⟩
end Ded
end Go.Proofs.Ytndcflchdecofaa
