/-
  THE STATEMENT NetTurns: its walk.
-/
import Derived.Test.YtamahknnppjegaaNetLaw
import Derived.Test.YtamahknnppjegaaCut
namespace Go.Proofs.Ytamahknnppjegaa
open Go.RowKit Mem Box
namespace Net
open Wire (B8)

theorem send_le (cap : Nat) (l : List Mp) : (sendP cap [] l).length ≤ l.length := by
  have : ∀ (l q : List Mp), (sendP cap q l).length ≤ q.length + l.length := by
    intro l
    induction l with
    | nil => intro q; simp [sendP]
    | cons m l ih =>
      intro q
      have h1 := ih (pushP cap q m)
      have h2 : (pushP cap q m).length ≤ q.length + 1 := by unfold pushP; cases (okM m && decide (q.length < cap)) <;> simp
      have e : sendP cap q (m :: l) = sendP cap (pushP cap q m) l := rfl
      rw [e, List.length_cons]
      omega
  have := this l []
  simpa using this
/-- What has been put off i times from the front. -/
def rotP (l : List Mp) (i : Nat) : List Mp := l.drop i ++ l.take i
theorem rot_next {l : List Mp} {i : Nat} {x : Mp} (h : l[i]? = some x) : (rotP l i)[0]? = some x ∧ (rotP l i).eraseIdx 0 ++ [x] = rotP l (i + 1) := by
  obtain ⟨hi, rfl⟩ := List.getElem?_eq_some_iff.1 h
  unfold rotP
  rw [List.drop_eq_getElem_cons hi, List.take_add_one, h]
  refine ⟨rfl, ?_⟩
  rw [List.cons_append, List.eraseIdx_cons_zero, List.append_assoc]
  rfl
theorem rot_zero (l : List Mp) : rotP l 0 = l := by simp [rotP]
theorem rot_all {l : List Mp} {n : Nat} (h : l.length = n) : rotP l n = l := by
  subst h
  simp [rotP]
theorem rot_len (l : List Mp) (i : Nat) : (rotP l i).length = l.length := by
  unfold rotP
  rw [List.length_append, List.length_drop, List.length_take]
  omega
theorem erase_last {l : List Mp} {x : Mp} {n : Nat} (h : l.length = n) : (l ++ [x]).eraseIdx n = l := by
  subst h
  rw [List.eraseIdx_append_of_length_le (Nat.le_refl _)]
  simp

set_option maxRecDepth 100000 in
set_option maxHeartbeats 12800000 in
theorem turns_walk (M : Option Addr) (m e : Nat) (ls : List Mx) (node : Int) (w : World) (h : NetAt w M m e ls) : Calls Try.prog 7 #[.slice M m e, .int .i64 node] w fun e w' => e = .returned (.bool true) ∧ Below w.heap.size w w' := by
  obtain ⟨cap, hcap⟩ : ∃ c : Nat, (100 : Int) = (c : Int) := ⟨100, rfl⟩
  have hc1 : cap = 100 := by omega
  have HCAP := Lib.hid hc1
  have HN := fun W => Lib.hid (new_at hcap (by omega) (by omega) W)
  have HS := fun W (h2 : NetAt W M m e ls) => Lib.hid (send_new (cap := cap) (by omega) h2)
  have HM := Lib.hid h
  have HBG := fun W (h : NetAt W M m e ls) => Lib.hid (big_any h)
  have HLV := Lib.hid (live_any w)
  unfold nv at HS
  clear hcap hc1 h
  rcases e1 : decide ((60 : Int) < (m : Int))
  · have hm60 : m ≤ 60 := by have := of_decide_eq_false e1; omega
    go_enter Try.func7, Try.ntmps7
    go_wp2_with fail
    refine HLV.out.mono ?_
    rintro e w1 ⟨rfl, hb⟩
    have L1 := Lib.hid hb
    clear hb HLV
    go_wp2_with fail
    refine (HBG _ (HM.out.below L1.out)).out.mono ?_
    rintro e w2 ⟨⟨b, rfl⟩, hb⟩
    have L2 := Lib.hid (L1.out.trans (hb.mono L1.out.size))
    clear hb HBG
    rcases b
    · skip
      go_wp2_with fail
      refine (HN w2).out.mono ?_
      rintro e w3 ⟨rfl, hb⟩
      have L3 := Lib.hid (L2.out.trans (hb.mono L2.out.size))
      unfold nv
      clear hb HN L1 L2
      go_upto_region 7 with fail
      have A3 : Below w3.heap.size w3 (w3.alloc (.cells #[.int .i64 (cap : Int), .slice none 0 0] 28)) := (Below.refl _ w3).alloc (Nat.le_refl _) _
      have L4 := Lib.hid (L3.out.trans (A3.mono L3.out.size))
      have X4 : Hid (NBox (w3.alloc (.cells #[.int .i64 (cap : Int), .slice none 0 0] 28)) w3.heap.size cap none 0 0) := Cells.new _ _ _
      obtain ⟨g, hg⟩ : ∃ g, g = w3.heap.size := ⟨_, rfl⟩
      have EG : Hid (w.heap.size ≤ g) := by show _ ≤ _; rw [hg]; exact L3.out.size
      rw [← hg] at X4
      rw [← hg]
      clear hg L3 A3
      generalize w3.alloc (.cells #[.int .i64 (cap : Int), .slice none 0 0] 28) = w4 at *
      obtain ⟨k0, k1⟩ := NBox.cells X4.out
      go_upto_region 8 with (first | (go_at_call 27; refine (HS _ (HM.out.below L4.out)).out.mono ?_; rintro e w5 ⟨Q, n, c, l, rfl, hO, hP, hnc, hb⟩; have L5 := Lib.hid (L4.out.trans (hb.mono L4.out.size)); have X5 := Lib.hid (Cells.below X4.out hb); have HB := Lib.hid (Cells.lt X4.out); have HO := Lib.hid hO; have HP := Lib.hid hP; obtain ⟨j0, j1⟩ := NBox.cells X5.out; have f0 := Cells.frozen X5.out 0; have f1 := Cells.frozen X5.out 1; (try unfold nv); clear hb hO hP k0 k1) | fail)
      have bt := Mov.set2 w5 g (.int .i64 (cap : Int)) (.slice Q n c)
      have X6 := Lib.hid (Cells.set2 X5.out (.int .i64 (cap : Int)) (.slice Q n c))
      have L6 := Lib.hid (L5.out.trans (bt.up L5.out.size EG.out))
      have N6 := Lib.hid ((HO.out.mov X5.out (by decide) (fun y hy q hq => by have h1 := HO.out.low y hy q hq; have h2 := HB.out; omega) bt).net (by omega))
      have NL6 := Lib.hid HO.out.len
      have NLT : Hid (∀ x ∈ l, ∀ q, Bl x q → g < q) := fun x hx q hq => by have h1 := HO.out.low x hx q hq; have h2 := HB.out; omega
      clear j0 j1 f0 f1 bt X5 X4 L4 L5 HO HB HS
      generalize (w5.setCell ⟨g, 0, none⟩ (.int .i64 (cap : Int))).setCell ⟨g, 1, none⟩ (.slice Q n c) = w6 at *
      have hlp : (l.map Mx.p).length = n := by rw [List.length_map]; exact NL6.out
      have hnm : n ≤ 60 := by
        have h1 := congrArg List.length HP.out
        have h2 := send_le cap (ls.map Mx.p)
        have h3 := HM.out.row.len
        rw [hlp] at h1
        rw [List.length_map] at h2
        omega
      have HLP := Lib.hid hlp
      clear hlp hnc
      rcases e0 : ((n : Int) == 0)
      · have hn0 : ¬ n = 0 := by have := beq_eq_false_iff_ne.1 e0; omega
        obtain ⟨r, j, k1, k2, k3, k4, k5, k6⟩ := Cut.cut_at node n (by omega)
        obtain ⟨x, hx, hxm⟩ := N6.out.get k6
        have HD := Lib.hid (double_ok (cap := cap) N6.out (by omega) hx (by have := HCAP.out; omega))
        have HXP := Lib.hid (show (l.map Mx.p)[j]? = some x.p by rw [List.getElem?_map, hx]; rfl)
        clear hx hxm
        obtain ⟨z0, z1⟩ := NBox.cells X6.out
        have h60 : (n : Int) ≤ 60 := by omega
        unfold nv at HD
        go_upto_region 12 with (first | (go_at_call 31; refine HD.out.mono ?_; rintro e w7 ⟨Q2, n2, c2, l2, rfl, hO, hP2, hb⟩; have L7 := Lib.hid (L6.out.trans (hb.mono L6.out.size)); have X7 := Lib.hid (Cells.below X6.out hb); have B7 := Lib.hid hb; have HN2 : Hid (n2 = n + 1) := (by show _ = _; rw [← hO.len, ← List.length_map (f := Mx.p), hP2, List.length_append, HLP.out]; rfl); have hn5 : n2 ≤ 61 := (by have := HN2.out; omega); have N7 := Lib.hid (hO.net (by omega)); have HP2 := Lib.hid hP2; (try unfold nv); clear hb hO hP2 z0 z1) | fail)
        have A7 : Below w7.heap.size w7 (w7.alloc (.cells #[.int .i64 (cap : Int), .slice Q2 n2 c2] 28)) := (Below.refl _ w7).alloc (Nat.le_refl _) _
        have L8 := Lib.hid (L7.out.trans (A7.mono L7.out.size))
        have X8 := Lib.hid (Cells.below X7.out A7)
        have B8 := Lib.hid (B7.out.trans (A7.mono B7.out.size))
        have N8 := Lib.hid (N7.out.below A7)
        have C8 : Hid (NBox (w7.alloc (.cells #[.int .i64 (cap : Int), .slice Q2 n2 c2] 28)) w7.heap.size cap Q2 n2 c2) := Cells.new _ _ _
        obtain ⟨g2, hg2⟩ : ∃ g, g = w7.heap.size := ⟨_, rfl⟩
        have E2 : Hid (w6.heap.size ≤ g2) := by show _ ≤ _; rw [hg2]; exact B7.out.size
        rw [← hg2] at C8
        rw [← hg2]
        clear A7 L7 X7 B7 N7 hg2 HD
        generalize w7.alloc (.cells #[.int .i64 (cap : Int), .slice Q2 n2 c2] 28) = w8 at *
        have hq : ((n2 : Int) != (n : Int) + 1) = false := by rw [bne_eq_false_iff_eq]; have := HN2.out; omega
        obtain ⟨y, hy, hym⟩ := N8.out.get (i := n) (by have := HN2.out; omega)
        have HDR := Lib.hid (drop_ok (cap := cap) N8.out (by omega) hy)
        rw [HP2.out, erase_last HLP.out] at HDR
        obtain ⟨z0, z1⟩ := NBox.cells C8.out
        have y0 := Cells.frozen C8.out 0
        have y1 := Cells.frozen C8.out 1
        clear hy hym
        unfold nv at HDR
        go_upto_region 15 with (first | (go_at_call 32; refine HDR.out.mono ?_; rintro e w9 ⟨Q3, n3, c3, l3, rfl, hO, hP3, hb⟩; have L9 := Lib.hid (L8.out.trans (hb.mono L8.out.size)); have X9 := Lib.hid (Cells.below X8.out hb); have C9 := Lib.hid (Cells.below C8.out hb); have B9 := Lib.hid (B8.out.trans (hb.mono B8.out.size)); have hn3 : n3 = n := (by rw [← hO.len, ← List.length_map (f := Mx.p), hP3, HLP.out]); subst hn3; have HO := Lib.hid hO; have HB9 := Lib.hid (Cells.lt C8.out); have HP3 := Lib.hid hP3; obtain ⟨z0, z1⟩ := NBox.cells C9.out; have y0 := Cells.frozen C9.out 0; have y1 := Cells.frozen C9.out 1; (try unfold nv); clear hb hO hP3) | fail)
        have bt := Mov.set2 w9 g2 (.int .i64 (cap : Int)) (.slice Q3 n3 c3)
        have C10 := Lib.hid (Cells.set2 C9.out (.int .i64 (cap : Int)) (.slice Q3 n3 c3))
        have L10 := Lib.hid (L9.out.trans (bt.up L9.out.size (Nat.le_trans L6.out.size E2.out)))
        have X10 := Lib.hid (Cells.mov X9.out bt (by have h1 := Cells.lt X6.out; have h2 := E2.out; simp; omega))
        have B10 := Lib.hid (B9.out.trans (bt.up B9.out.size E2.out))
        have N10 := Lib.hid ((HO.out.mov C9.out (by decide) (fun y hy q hq => by have h1 := HO.out.low y hy q hq; have h2 := HB9.out; omega) bt).net (by omega))
        clear z0 z1 y0 y1 bt C9 L9 X9 B9 HO HB9 C8 L8 X8 B8 N8 HDR HP2 hq
        generalize (w9.setCell ⟨g2, 0, none⟩ (.int .i64 (cap : Int))).setCell ⟨g2, 1, none⟩ (.slice Q3 n3 c3) = w10 at *
        have HSA := Lib.hid (same_any (ca := cap) (cb := cap) N10.out (N6.out.below B10.out))
        rw [HP3.out, decide_eq_true rfl, decide_eq_true rfl, Bool.and_true] at HSA
        obtain ⟨z0, z1⟩ := NBox.cells C10.out
        obtain ⟨y0, y1⟩ := NBox.cells X10.out
        unfold nv at HSA
        go_upto_region 17 with (first | (go_at_call 15; refine HSA.out.mono ?_; rintro e w11 ⟨rfl, hb⟩; have L11 := Lib.hid (L10.out.trans (hb.mono L10.out.size)); have X11 := Lib.hid (Cells.below X10.out hb); have B11 := Lib.hid (B10.out.trans (hb.mono B10.out.size)); clear hb z0 z1 y0 y1) | fail)
        clear HSA L10 X10 C10 B10 N10 HP3
        obtain ⟨y0, y1⟩ := NBox.cells X11.out
        go_upto_region 18 with fail
        clear y0 y1
        have A11 : Below w11.heap.size w11 (w11.alloc (.cells #[.int .i64 (cap : Int), .slice Q n3 c] 28)) := (Below.refl _ w11).alloc (Nat.le_refl _) _
        have L12 := Lib.hid (L11.out.trans (A11.mono L11.out.size))
        have X12 := Lib.hid (Cells.below X11.out A11)
        have B12 := Lib.hid (B11.out.trans (A11.mono B11.out.size))
        have T12 : Hid (NBox (w11.alloc (.cells #[.int .i64 (cap : Int), .slice Q n3 c] 28)) w11.heap.size cap Q n3 c) := Cells.new _ _ _
        obtain ⟨g3, hg3⟩ : ∃ g, g = w11.heap.size := ⟨_, rfl⟩
        have E3 : Hid (w6.heap.size ≤ g3) := by show _ ≤ _; rw [hg3]; exact B11.out.size
        rw [← hg3] at T12
        rw [← hg3]
        clear A11 L11 X11 B11 hg3
        generalize w11.alloc (.cells #[.int .i64 (cap : Int), .slice Q n3 c] 28) = w12 at *
        have ROT := fun i (x : Mp) (h : (l.map Mx.p)[i]? = some x) => Lib.hid (rot_next h)
        have ROZ := Lib.hid (rot_zero (l.map Mx.p))
        have ROA := Lib.hid (rot_all HLP.out)
        have ROL := fun i => Lib.hid ((rot_len (l.map Mx.p) i).trans HLP.out)
        have HGE := fun i (h : i < n3) => Lib.hid (show ∃ x, (l.map Mx.p)[i]? = some x from ⟨_, List.getElem?_eq_getElem (by rw [HLP.out]; exact h)⟩)
        clear HXP
        go_wp2_with fail
        go_loopw [10, 75] (fun _ i wr => ∃ (k : Nat) (R : Option Addr) (d : Nat) (lt : List Mx), i = .int .i64 k ∧ k ≤ n3 ∧ Hid (Below w6.heap.size w6 wr ∧ Below w.heap.size w wr ∧ NBox wr g cap Q n3 c ∧ NBox wr g3 cap R n3 d ∧ NetAt wr R n3 d lt ∧ lt.map Mx.p = rotP (l.map Mx.p) k)) (fun _ i _ => n3 - (intOf i).toNat)
        case atStart => exact ⟨0, Q, c, l, rfl, by omega, B12.out, L12.out, X12.out, T12.out, N6.out.below B12.out, ROZ.out.symm⟩
        case round =>
          obtain ⟨k, R, d, lt, rfl, hk, hH⟩ := hrel
          have B1 := Lib.hid hH.out.1
          have L1 := Lib.hid hH.out.2.1
          have X1 := Lib.hid hH.out.2.2.1
          have T1 := Lib.hid hH.out.2.2.2.1
          have N1 := Lib.hid hH.out.2.2.2.2.1
          have HR := Lib.hid hH.out.2.2.2.2.2
          clear hH
          obtain ⟨t0, t1⟩ := NBox.cells T1.out
          have u0 := Cells.frozen T1.out 0
          have u1 := Cells.frozen T1.out 1
          by_cases hlt : k < n3
          · obtain ⟨p, hp⟩ := (HGE k hlt).out
            obtain ⟨r1, r2⟩ := (ROT k p hp).out
            obtain ⟨x1, hx1, -⟩ := N1.out.get (i := 0) (by omega)
            have hx1p : x1.p = p := by
              rw [← HR.out, List.getElem?_map, hx1] at r1
              injection r1
            have HL := Lib.hid (later_ok (cap := cap) N1.out (by omega) hx1)
            rw [HR.out, hx1p, r2] at HL
            have hk0 : (0 : Int) ≤ (k : Int) := by omega
            have hkn : (k : Int) < (n3 : Int) := by omega
            unfold nv at HL
            clear hx1 hx1p r1 r2 hp
            go_upto_region 21 with (first | (go_at_call 29; refine HL.out.mono ?_; rintro e w3 ⟨Q4, n4, c4, l4, rfl, hO, hP4, hb⟩; have L3 := Lib.hid (L1.out.trans (hb.mono L1.out.size)); have X3 := Lib.hid (Cells.below X1.out hb); have T3 := Lib.hid (Cells.below T1.out hb); have B3 := Lib.hid (B1.out.trans (hb.mono B1.out.size)); have hn4 : n4 = n3 := (by rw [← hO.len, ← List.length_map (f := Mx.p), hP4, (ROL _).out]); subst hn4; have HO := Lib.hid hO; have HB3 := Lib.hid (Cells.lt T1.out); have HP4 := Lib.hid hP4; obtain ⟨t0, t1⟩ := NBox.cells T3.out; have u0 := Cells.frozen T3.out 0; have u1 := Cells.frozen T3.out 1; (try unfold nv); clear hb hO hP4) | fail)
            have bt := Mov.set2 w3 g3 (.int .i64 (cap : Int)) (.slice Q4 n4 c4)
            have T4 := Lib.hid (Cells.set2 T3.out (.int .i64 (cap : Int)) (.slice Q4 n4 c4))
            have L4 := Lib.hid (L3.out.trans (bt.up L3.out.size (Nat.le_trans L6.out.size E3.out)))
            have X4 := Lib.hid (Cells.mov X3.out bt (by have h1 := Cells.lt X6.out; have h2 := E3.out; simp; omega))
            have B4 := Lib.hid (B3.out.trans (bt.up B3.out.size E3.out))
            have N4 := Lib.hid ((HO.out.mov T3.out (by decide) (fun y hy q hq => by have h1 := HO.out.low y hy q hq; have h2 := HB3.out; omega) bt).net (by omega))
            clear t0 t1 u0 u1 bt T3 L3 X3 B3 HO HB3 T1 L1 X1 B1 N1 HL HR
            generalize (w3.setCell ⟨g3, 0, none⟩ (.int .i64 (cap : Int))).setCell ⟨g3, 1, none⟩ (.slice Q4 n4 c4) = w4 at *
            go_wp2_with fail
            go_roundw
            case rel => exact ⟨k + 1, Q4, c4, l4, by go_num, by omega, B4.out, L4.out, X4.out, T4.out, N4.out, HP4.out⟩
            case measure => simp [intOf]; omega
          · have hkn : k = n3 := by omega
            subst hkn
            have HSB := Lib.hid (same_any (ca := cap) (cb := cap) N1.out (N6.out.below B1.out))
            rw [HR.out, ROA.out, decide_eq_true rfl, decide_eq_true rfl, Bool.and_true] at HSB
            obtain ⟨z0, z1⟩ := NBox.cells X1.out
            unfold nv at HSB
            go_wp2_with (first | (go_at_call 15; refine HSB.out.mono ?_; rintro e w11 ⟨rfl, hb⟩; have L11 := Lib.hid (L1.out.trans (hb.mono L1.out.size)); clear hb) | fail)
            go_ret
            exact ⟨by rfl, L11.out⟩
      · go_wp2_with fail
        go_ret
        exact ⟨by rfl, L6.out⟩
    · skip
      go_wp2_with fail
      go_ret
      exact ⟨by rfl, L2.out⟩
  · skip
    go_enter Try.func7, Try.ntmps7
    go_wp2_with fail
    refine HLV.out.mono ?_
    rintro e w1 ⟨rfl, hb⟩
    have L1 := Lib.hid hb
    clear hb HLV
    go_wp2_with fail
    refine (HBG _ (HM.out.below L1.out)).out.mono ?_
    rintro e w2 ⟨⟨b, rfl⟩, hb⟩
    have L2 := Lib.hid (L1.out.trans (hb.mono L1.out.size))
    clear hb HBG
    rcases b
    · skip
      go_wp2_with fail
      go_ret
      exact ⟨by rfl, L2.out⟩
    · skip
      go_wp2_with fail
      go_ret
      exact ⟨by rfl, L2.out⟩
end Net
end Go.Proofs.Ytamahknnppjegaa
