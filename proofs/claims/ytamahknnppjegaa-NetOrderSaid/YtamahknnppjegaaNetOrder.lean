/-
  THE STATEMENT NetOrder: its walk.
-/
import Derived.Test.YtamahknnppjegaaNetRowM
import Derived.Test.YtamahknnppjegaaCut
namespace Go.Proofs.Ytamahknnppjegaa
open Go.RowKit Mem Box
namespace Net
open Wire (B8)

set_option maxRecDepth 100000 in
set_option maxHeartbeats 12800000 in
theorem order_walk (M : Option Addr) (m e : Nat) (ls : List Mx) (node : Int) (w : World) (h : NetAt w M m e ls) : Calls Try.prog 6 #[.slice M m e, .int .i64 node] w fun e w' => e = .returned (.bool true) ∧ Below w.heap.size w w' := by
  obtain ⟨cap, hcap⟩ : ∃ c : Nat, (300 : Int) = (c : Int) := ⟨300, rfl⟩
  have hc1 : cap = 300 := by omega
  have HCAP := Lib.hid hc1
  have HN := fun W => Lib.hid (new_at hcap (by omega) (by omega) W)
  have HS := fun W (h2 : NetAt W M m e ls) => Lib.hid (send_new (cap := cap) (by omega) h2)
  have HM := Lib.hid h
  have HBG := fun W (h : NetAt W M m e ls) => Lib.hid (big_any h)
  have HLV := Lib.hid (live_any w)
  unfold nv at HS
  clear hcap hc1 h
  rcases e1 : decide ((200 : Int) < (m : Int))
  · have hm200 : m ≤ 200 := by have := of_decide_eq_false e1; omega
    go_enter Try.func6, Try.ntmps6
    go_wp2_with fail
    refine HLV.out.mono ?_
    rintro e w1 ⟨rfl, hb⟩
    have L1 := Lib.hid hb
    clear hb HLV
    go_wp2_with fail
    refine (HBG _ (HM.out.below L1.out)).out.mono ?_
    rintro e w2 ⟨⟨b, rfl⟩, hb⟩
    have L2 := Lib.hid (L1.out.trans (hb.mono L1.out.size))
    clear hb HBG
    rcases b
    · skip
      go_wp2_with fail
      refine (HN w2).out.mono ?_
      rintro e w3 ⟨rfl, hb⟩
      have L3 := Lib.hid (L2.out.trans (hb.mono L2.out.size))
      unfold nv
      clear hb HN L1 L2
      go_upto_region 7 with fail
      have A3 : Below w3.heap.size w3 (w3.alloc (.cells #[.int .i64 (cap : Int), .slice none 0 0] 28)) := (Below.refl _ w3).alloc (Nat.le_refl _) _
      have L4 := Lib.hid (L3.out.trans (A3.mono L3.out.size))
      have X4 : Hid (NBox (w3.alloc (.cells #[.int .i64 (cap : Int), .slice none 0 0] 28)) w3.heap.size cap none 0 0) := Cells.new _ _ _
      obtain ⟨g, hg⟩ : ∃ g, g = w3.heap.size := ⟨_, rfl⟩
      have EG : Hid (w.heap.size ≤ g) := by show _ ≤ _; rw [hg]; exact L3.out.size
      rw [← hg] at X4
      rw [← hg]
      clear hg L3 A3
      generalize w3.alloc (.cells #[.int .i64 (cap : Int), .slice none 0 0] 28) = w4 at *
      obtain ⟨k0, k1⟩ := NBox.cells X4.out
      go_upto_region 8 with (first | (go_at_call 27; refine (HS _ (HM.out.below L4.out)).out.mono ?_; rintro e w5 ⟨Q, n, c, l, rfl, hO, hP, hnc, hb⟩; have L5 := Lib.hid (L4.out.trans (hb.mono L4.out.size)); have X5 := Lib.hid (Cells.below X4.out hb); have HB := Lib.hid (Cells.lt X4.out); have HO := Lib.hid hO; have HP := Lib.hid hP; obtain ⟨j0, j1⟩ := NBox.cells X5.out; have f0 := Cells.frozen X5.out 0; have f1 := Cells.frozen X5.out 1; (try unfold nv); clear hb hO hP k0 k1) | fail)
      have bt := Mov.set2 w5 g (.int .i64 (cap : Int)) (.slice Q n c)
      have X6 := Lib.hid (Cells.set2 X5.out (.int .i64 (cap : Int)) (.slice Q n c))
      have L6 := Lib.hid (L5.out.trans (bt.up L5.out.size EG.out))
      have N6 := Lib.hid ((HO.out.mov X5.out (by decide) (fun y hy q hq => by have h1 := HO.out.low y hy q hq; have h2 := HB.out; omega) bt).net (by omega))
      have NL6 := Lib.hid HO.out.len
      have NLT : Hid (∀ x ∈ l, ∀ q, Bl x q → g < q) := fun x hx q hq => by have h1 := HO.out.low x hx q hq; have h2 := HB.out; omega
      clear j0 j1 f0 f1 bt X5 X4 L4 L5 HO HB HS
      generalize (w5.setCell ⟨g, 0, none⟩ (.int .i64 (cap : Int))).setCell ⟨g, 1, none⟩ (.slice Q n c) = w6 at *
      have hlp : (l.map Mx.p).length = n := by rw [List.length_map]; exact NL6.out
      have hml := HM.out.row.len
      have hsf : l.map Mx.p = (ls.map Mx.p).filter okM := by
        rw [HP.out, send_fits cap (ls.map Mx.p) [] (by rw [List.length_map]; have := HCAP.out; simp; omega)]
        rfl
      have hn200 : n ≤ 200 := by
        have h1 := List.length_filter_le okM (ls.map Mx.p)
        rw [← hsf, hlp, List.length_map] at h1
        omega
      have HSF := Lib.hid hsf
      have HLP := Lib.hid hlp
      have HML := Lib.hid hml
      have HW1 := fun W x (h : MAt W x) (hk : okM x.p = true) => Lib.hid (dmsg_ok h hk)
      have HW2 := fun W x (h : MAt W x) (hk : okM x.p = false) => Lib.hid (dmsg_bad h hk)
      clear hlp hml hsf hnc
      unfold mxv at HW1 HW2
      go_wp2_with fail
      go_loopw [9, 11, 12, 13, 44] (fun s _ _ _ i wr => ∃ (k : Nat) (A : Option Addr) (q d : Nat) (lw : List Mx), i = .int .i64 k ∧ s = .slice A q d ∧ k ≤ m ∧ q ≤ k ∧ Hid (Below w6.heap.size w6 wr ∧ OwnN 0 w6.heap.size wr (.slice A q d) q lw ∧ lw.map Mx.p = ((ls.map Mx.p).take k).filter okM ∧ ∀ x ∈ lw, ∀ q, Bl x q → q < w.heap.size)) (fun _ _ _ _ i _ => m - (intOf i).toNat)
      case atStart => exact ⟨0, none, 0, 0, [], rfl, rfl, by omega, by omega, Below.refl _ _, OwnN.nil _ _ _, rfl, by simp⟩
      case round =>
        obtain ⟨k, A, q, d, lw, rfl, rfl, hk, hqk, hH⟩ := hrel
        have D1 := Lib.hid hH.out.1
        have O1 := Lib.hid hH.out.2.1
        have HWP := Lib.hid hH.out.2.2.1
        have HBL := Lib.hid hH.out.2.2.2
        clear hH
        by_cases hlt : k < m
        · obtain ⟨x, hx, hxm⟩ := HM.out.get hlt
          obtain ⟨b2, o2, hQ, hb2, hcs⟩ := HM.out.cells hx
          obtain ⟨c0, c1, c2, c3, c4, c5⟩ := hcs wr (L6.out.trans (D1.out.mono L6.out.size))
          have HXM := Lib.hid hxm
          have HSN := Lib.hid (ok_snoc (l := ls.map Mx.p) (k := k) (x := x.p) (by rw [List.getElem?_map, hx]; rfl))
          subst hQ
          have hk0 : (0 : Int) ≤ (k : Int) := by omega
          have hkm : (k : Int) < (m : Int) := by omega
          clear hx hxm hcs hb2
          go_upto_region 12 with fail
          clear c0 c1 c2 c3 c4 c5
          have bb : Below wr.heap.size wr (wr.alloc (.cells #[.int .i64 x.k, .int .i64 x.f, .int .i64 x.t, .int .i64 x.i, .slice x.A x.n x.c, .slice x.B x.m x.d] 39)) := (Below.refl _ wr).alloc (Nat.le_refl _) _
          have D2 := Lib.hid (D1.out.trans (bb.mono D1.out.size))
          have O2 := Lib.hid (O1.out.below bb)
          have P2 : Hid (MBox (wr.alloc (.cells #[.int .i64 x.k, .int .i64 x.f, .int .i64 x.t, .int .i64 x.i, .slice x.A x.n x.c, .slice x.B x.m x.d] 39)) wr.heap.size x) := Cells.new _ _ _
          obtain ⟨p, hp⟩ : ∃ p, p = wr.heap.size := ⟨_, rfl⟩
          have NE : Hid ((Value.slice A q d).ownBlock ≠ some p) := fun e => by have h1 := (O1.out.own.lt _ e).2; omega
          rw [← hp] at P2
          rw [← hp]
          clear bb hp D1 O1
          generalize wr.alloc (.cells #[.int .i64 x.k, .int .i64 x.f, .int .i64 x.t, .int .i64 x.i, .slice x.A x.n x.c, .slice x.B x.m x.d] 39) = w2 at *
          obtain ⟨n0, n1, n2, n3, n4, n5⟩ := MBox.cells P2.out
          have HXW := fun W (h : Below w6.heap.size w6 W) => HXM.out.below (L6.out.trans (h.mono L6.out.size))
          rcases e2 : okM x.p
          · have HD := Lib.hid (HW2 w2 x (HXW w2 D2.out) e2).out
            rw [e2, cond_false, List.append_nil] at HSN
            go_wp2_with (go_at_call 28; refine HD.out.mono ?_; rintro e w3 ⟨er, her, rfl, hb⟩; have D3 := Lib.hid (D2.out.trans (hb.mono D2.out.size)); have O3 := Lib.hid (O2.out.below hb); have hne : (er == 0) = false := (by rcases her with rfl | rfl <;> rfl); clear hb her)
            go_roundw
            case rel => exact ⟨k + 1, A, q, d, lw, by go_num, rfl, by omega, by omega, D3.out, O3.out, by rw [HWP.out, HSN.out], HBL.out⟩
            case measure => simp [intOf]; omega
          · have HD := Lib.hid (HW1 w2 x (HXW w2 D2.out) e2).out
            rw [e2, cond_true] at HSN
            go_upto_region 14 with (first | (go_at_call 28; refine HD.out.mono ?_; rintro e w3 ⟨V, vk, vc, rfl, -, hb⟩; have D3 := Lib.hid (D2.out.trans (hb.mono D2.out.size)); have O3 := Lib.hid (O2.out.below hb); have P3 := Lib.hid (Cells.below P2.out hb); clear hb) | fail)
            clear n0 n1 n2 n3 n4 n5
            obtain ⟨n0, n1, n2, n3, n4, n5⟩ := MBox.cells P3.out
            have bb : Below w3.heap.size w3 (w3.alloc (.cells #[.int .i64 x.k, .int .i64 x.f, .int .i64 x.t, .int .i64 x.i, .slice x.A x.n x.c, .slice x.B x.m x.d] 39)) := (Below.refl _ w3).alloc (Nat.le_refl _) _
            have D4 := Lib.hid (D3.out.trans (bb.mono D3.out.size))
            have O4 := Lib.hid (O3.out.below bb)
            have R4 := Lib.hid (one_msg w3 x)
            have XL : Hid (∀ q, Bl x q → q < w.heap.size) := fun q hq => HXM.out.lt hq
            clear bb
            go_wp2_with (first
              | (at_builtin
                 refine OwnS.wpList_append fitM Try.underlying26 info_msg rfl (by omega) rfl (.tmp 55) (.tmp 57) rfl rfl w6.heap.size (.slice A q d) q lw rfl O4.out.own _ 1 1 [x] rfl R4.out (by omega) D4.out.size ?_
                 intro A' d' w5 ho hg hn
                 have D5 := Lib.hid (D4.out.trans (OwnS.below_row O4.out.own hg D4.out.size))
                 have O5 := Lib.hid (O4.out.more ho hg hn (fun y hy => by
                   obtain rfl := List.mem_singleton.1 hy
                   exact ⟨HXW _ D4.out, new_zero _, fun q hq e => by have h1 := XL.out q hq; have h2 := (O4.out.own.lt q e).1; have h3 := L6.out.size; omega⟩))
                 clear ho hg hn)
              | fail)
            go_roundw
            case rel => exact ⟨k + 1, A', q + 1, d', lw ++ [x], by go_num, rfl, by omega, by omega, D5.out, O5.out, by rw [List.map_append, HWP.out, HSN.out]; rfl, fun y hy q hq => by
              rcases List.mem_append.1 hy with hy | hy
              · exact HBL.out y hy q hq
              · rw [List.mem_singleton.1 hy] at hq; exact XL.out q hq⟩
            case measure => simp [intOf]; omega
        · have hkm : m = k := by omega
          subst hkm
          have hq : n = q := by
            refine Eq.symm ?_
            rw [← O1.out.len, ← List.length_map (f := Mx.p), HWP.out, List.take_of_length_le (by rw [List.length_map]; have := HML.out; omega), ← HSF.out]
            exact HLP.out
          subst hq
          have HWF := Lib.hid (show lw.map Mx.p = l.map Mx.p by rw [HWP.out, List.take_of_length_le (by rw [List.length_map]; have := HML.out; omega), HSF.out])
          have X1 := Lib.hid (Cells.below X6.out D1.out)
          have N1 := Lib.hid (N6.out.below D1.out)
          have L1 := Lib.hid (L6.out.trans (D1.out.mono L6.out.size))
          clear HW1 HW2 HWP
          rcases e0 : decide ((0 : Int) < (n : Int))
          · have hn0 : n = 0 := by have := of_decide_eq_false e0; omega
            obtain ⟨WL, hWL⟩ : ∃ WL, WL = l.map Mx.p := ⟨_, rfl⟩
            have OF := Lib.hid (⟨_, w6.heap.size, O1.out, HWF.out.trans hWL.symm, HBL.out⟩ : ∃ lf ob, OwnN 0 ob wr (.slice A n d) n lf ∧ lf.map Mx.p = WL ∧ ∀ x ∈ lf, ∀ q, Bl x q → q < w.heap.size)
            have HP8 := Lib.hid (show l.map Mx.p = WL.drop 0 by rw [hWL]; rfl)
            have N8 := N1
            have X8 := X1
            obtain ⟨w7, hw7⟩ : ∃ W, W = wr := ⟨_, rfl⟩
            subst hw7
            have D7 : Hid (Below w7.heap.size w7 w7) := Below.refl _ _
            have L7 := L1
            have e0' : decide (0 < n) = false := decide_eq_false (by omega)
            clear hWL N1 X1 L1 O1 hn0
            go_wp2_with fail
            obtain ⟨lf, ob, hof, hofp, hofb⟩ := OF.out
            have HOF := Lib.hid hof
            have HOP := Lib.hid hofp
            have HOB := Lib.hid hofb
            have N0 := Lib.hid (N8.out.below D7.out)
            have X0 := Lib.hid (Cells.below X8.out D7.out)
            have HWL : Hid (WL.length = n) := by show _ = _; rw [← hofp, List.length_map, hof.len]
            clear hof hofp hofb OF D7 X8 N8
            go_loopw [17, 18, 19, 20, 99] (fun _ _ _ _ i wr => ∃ (k : Nat) (R : Option Addr) (q dd : Nat) (ln : List Mx), i = .int .i64 k ∧ k ≤ n ∧ Hid (Below w.heap.size w wr ∧ NBox wr g cap R q dd ∧ NetAt wr R q dd ln ∧ ln.map Mx.p = WL.drop k ∧ OwnN 0 ob wr (.slice A n d) n lf)) (fun _ _ _ _ i _ => n - (intOf i).toNat)
            case atStart => exact ⟨0, Q, n, c, l, rfl, by omega, L7.out, X0.out, N0.out, HP8.out, HOF.out⟩
            case round =>
              obtain ⟨k, R, q, dd, ln, rfl, hk, hH⟩ := hrel
              have L1 := Lib.hid hH.out.1
              have X1 := Lib.hid hH.out.2.1
              have N1 := Lib.hid hH.out.2.2.1
              have HR := Lib.hid hH.out.2.2.2.1
              have O1 := Lib.hid hH.out.2.2.2.2
              have hqn : q = n - k := by
                have h1 := congrArg List.length HR.out
                rw [List.length_map, List.length_drop, HWL.out, N1.out.row.len] at h1
                exact h1
              have HQN := Lib.hid hqn
              have hq200 : q ≤ 200 := by omega
              clear hH hqn
              by_cases hlt : k < n
              · have NW := Lib.hid (O1.out.net (by omega))
                obtain ⟨z, hz, hzm⟩ := NW.out.get hlt
                obtain ⟨b2, o2, hQ, hb2, hcs⟩ := NW.out.cells hz
                obtain ⟨c0, c1, c2, c3, c4, c5⟩ := hcs wr (Below.refl _ _)
                obtain ⟨x0, hx0, -⟩ := N1.out.get (i := 0) (by have := HQN.out; omega)
                have hzp : WL[k]? = some z.p := by rw [← HOP.out, List.getElem?_map, hz]; rfl
                have hx0p : x0.p = z.p := by
                  have h1 : (ln.map Mx.p)[0]? = some x0.p := by rw [List.getElem?_map, hx0]; rfl
                  rw [HR.out, List.getElem?_drop, Nat.add_zero, hzp] at h1
                  injection h1 with h1
                  exact h1.symm
                have HT := fun W (h : Below wr.heap.size wr W) => Lib.hid (take_ok (cap := cap) (N1.out.below h) (by omega) hx0)
                rw [HR.out, hx0p, show (WL.drop k).eraseIdx 0 = WL.drop (k + 1) by rw [List.eraseIdx_zero, List.tail_drop]] at HT
                have HZM := Lib.hid hzm
                subst hQ
                have hk0 : (0 : Int) ≤ (k : Int) := by omega
                have hkn : (k : Int) < (n : Int) := by omega
                unfold nv at HT
                clear hz hzm hcs hb2 hx0 hzp hx0p NW
                go_upto_region 28 with fail
                clear c0 c1 c2 c3 c4 c5
                have bb : Below wr.heap.size wr (wr.alloc (.cells #[.int .i64 z.k, .int .i64 z.f, .int .i64 z.t, .int .i64 z.i, .slice z.A z.n z.c, .slice z.B z.m z.d] 39)) := (Below.refl _ wr).alloc (Nat.le_refl _) _
                have L2 := Lib.hid (L1.out.trans (bb.mono L1.out.size))
                have X2 := Lib.hid (Cells.below X1.out bb)
                have O2 := Lib.hid (O1.out.below bb)
                have P2 : Hid (MBox (wr.alloc (.cells #[.int .i64 z.k, .int .i64 z.f, .int .i64 z.t, .int .i64 z.i, .slice z.A z.n z.c, .slice z.B z.m z.d] 39)) wr.heap.size z) := Cells.new _ _ _
                have HT := Lib.hid (HT _ bb).out
                have Z2 := Lib.hid (HZM.out.below bb)
                obtain ⟨p, hp⟩ : ∃ p, p = wr.heap.size := ⟨_, rfl⟩
                rw [← hp] at P2
                rw [← hp]
                clear bb hp L1 X1 O1 HZM N1 HR
                generalize wr.alloc (.cells #[.int .i64 z.k, .int .i64 z.f, .int .i64 z.t, .int .i64 z.i, .slice z.A z.n z.c, .slice z.B z.m z.d] 39) = w4 at *
                obtain ⟨k0, k1⟩ := NBox.cells X2.out
                go_upto_region 29 with (first | (go_at_call 30; refine HT.out.mono ?_; rintro e w5 ⟨Q2, n2, c2, l2, y, rfl, hO, hP2, hyp, hya, -, -, -, hb⟩; have L5 := Lib.hid (L2.out.trans (hb.mono L2.out.size)); have X5 := Lib.hid (Cells.below X2.out hb); have P5 := Lib.hid (Cells.below P2.out hb); have O5 := Lib.hid (O2.out.below hb); have Z5 := Lib.hid (Z2.out.below hb); have NO := Lib.hid (hO.net (by rw [← hO.len, ← List.length_map (f := Mx.p), hP2, List.length_drop, HWL.out]; omega)); have NBL : Hid (∀ x ∈ l2, ∀ q, Bl x q → q ≠ g) := (fun x hx q hq => by have h1 := hO.low x hx q hq; have h2 := Cells.lt X2.out; omega); have HO := Lib.hid hO; have HP2 := Lib.hid hP2; have HYP := Lib.hid hyp; have HYA := Lib.hid hya; (try unfold nv mxv); clear hb hO hP2 hyp hya k0 k1) | fail)
                have A6 : Below w5.heap.size w5 ((w5.alloc (.cells #[.int .i64 (cap : Int), .slice Q2 n2 c2] 28)).alloc (.cells #[.int .i64 y.k, .int .i64 y.f, .int .i64 y.t, .int .i64 y.i, .slice y.A y.n y.c, .slice y.B y.m y.d] 39)) := ((Below.refl _ w5).alloc (Nat.le_refl _) _).alloc (by simp) _
                have L6' := Lib.hid (L5.out.trans (A6.mono L5.out.size))
                have X6' := Lib.hid (Cells.below X5.out A6)
                have P6 := Lib.hid (Cells.below P5.out A6)
                have O6 := Lib.hid (O5.out.below A6)
                have T6 : Hid (NBox ((w5.alloc (.cells #[.int .i64 (cap : Int), .slice Q2 n2 c2] 28)).alloc (.cells #[.int .i64 y.k, .int .i64 y.f, .int .i64 y.t, .int .i64 y.i, .slice y.A y.n y.c, .slice y.B y.m y.d] 39)) w5.heap.size cap Q2 n2 c2) := Cells.alloc (Cells.new _ _ _) _
                have Y6 : Hid (MBox ((w5.alloc (.cells #[.int .i64 (cap : Int), .slice Q2 n2 c2] 28)).alloc (.cells #[.int .i64 y.k, .int .i64 y.f, .int .i64 y.t, .int .i64 y.i, .slice y.A y.n y.c, .slice y.B y.m y.d] 39)) (w5.heap.size + 1) y) := by
                  have := Cells.new (w5.alloc (.cells #[.int .i64 (cap : Int), .slice Q2 n2 c2] 28)) #[.int .i64 y.k, .int .i64 y.f, .int .i64 y.t, .int .i64 y.i, .slice y.A y.n y.c, .slice y.B y.m y.d] 39
                  rw [World.size_alloc] at this
                  exact this
                have HO6 := Lib.hid (HO.out.below A6)
                have HSM := Lib.hid (sameMsg_any (HYA.out.below A6) (Z5.out.below A6))
                rw [decide_eq_true HYP.out] at HSM
                have GL : Hid (g < w5.heap.size) := Cells.lt X5.out
                obtain ⟨g5, hg5⟩ : ∃ g5, g5 = w5.heap.size := ⟨_, rfl⟩
                rw [← hg5] at T6 Y6 GL
                rw [← hg5]
                clear A6 hg5 L5 X5 P5 O5 HO HYA Z5 L2 X2 P2 O2 Z2
                generalize ((w5.alloc (.cells #[.int .i64 (cap : Int), .slice Q2 n2 c2] 28)).alloc (.cells #[.int .i64 y.k, .int .i64 y.f, .int .i64 y.t, .int .i64 y.i, .slice y.A y.n y.c, .slice y.B y.m y.d] 39)) = w6' at *
                obtain ⟨m0, m1, m2, m3, m4, m5⟩ := MBox.cells P6.out
                obtain ⟨u0, u1, u2, u3, u4, u5⟩ := MBox.cells Y6.out
                unfold mxv at HSM
                go_upto_region 31 with (first | (go_at_call 19; refine HSM.out.mono ?_; rintro e w7' ⟨rfl, hb⟩; have L7' := Lib.hid (L6'.out.trans (hb.mono L6'.out.size)); have X7' := Lib.hid (Cells.below X6'.out hb); have T7' := Lib.hid (Cells.below T6.out hb); have O7' := Lib.hid (O6.out.below hb); have HO7 := Lib.hid (HO6.out.below hb); clear hb m0 m1 m2 m3 m4 m5 u0 u1 u2 u3 u4 u5) | fail)
                obtain ⟨t0, t1⟩ := NBox.cells T7'.out
                obtain ⟨x0', x1'⟩ := NBox.cells X7'.out
                have f0 := Cells.frozen X7'.out 0
                have f1 := Cells.frozen X7'.out 1
                have bt := Mov.set2 w7' g (.int .i64 (cap : Int)) (.slice Q2 n2 c2)
                have XF := Lib.hid (Cells.set2 X7'.out (.int .i64 (cap : Int)) (.slice Q2 n2 c2))
                have LF := Lib.hid (L7'.out.trans (bt.up L7'.out.size EG.out))
                have NF := Lib.hid ((HO7.out.mov X7'.out (by decide) NBL.out bt).net (by rw [← HO7.out.len, ← List.length_map (f := Mx.p), HP2.out, List.length_drop, HWL.out]; omega))
                have OF := Lib.hid (O7'.out.mov X7'.out (by decide) (fun x hx q hq => by have h1 := HOB.out x hx q hq; have h2 := EG.out; omega) bt)
                clear bt
                go_wp2_with fail
                go_roundw
                case rel => exact ⟨k + 1, Q2, n2, c2, l2, by go_num, by omega, LF.out, XF.out, NF.out, HP2.out, OF.out⟩
                case measure => simp [intOf]; omega
              · have hq0 : q = 0 := by have := HQN.out; omega
                subst hq0
                obtain ⟨k0, k1⟩ := NBox.cells X1.out
                go_wp2_with fail
                go_ret
                exact ⟨by rfl, L1.out⟩
          · have hn0 : ¬ n = 0 := by have := of_decide_eq_true e0; omega
            obtain ⟨r, j, k1, k2, k3, k4, k5, k6⟩ := Cut.cut_at node n (by omega)
            obtain ⟨x, hx, hxm⟩ := N1.out.get k6
            have HL := Lib.hid (later_ok (cap := cap) N1.out (by omega) hx)
            obtain ⟨WL, hWL⟩ : ∃ WL, WL = (l.map Mx.p).eraseIdx j ++ [x.p] := ⟨_, rfl⟩
            have HXJ := Lib.hid (show (l.map Mx.p)[j]? = some x.p by rw [List.getElem?_map, hx]; rfl)
            rw [← hWL] at HL
            have HWL2 := Lib.hid hWL
            have hlen8 : WL.length = n := by rw [hWL, List.length_append, List.length_eraseIdx, HLP.out, if_pos k6, List.length_singleton]; omega
            have HL8 := Lib.hid hlen8
            have h200 : (n : Int) ≤ 200 := by omega
            obtain ⟨z0, z1⟩ := NBox.cells X1.out
            unfold nv at HL
            clear hx hxm hWL hlen8
            go_upto_region 21 with (first | (go_at_call 29; refine HL.out.mono ?_; rintro e w9 ⟨R8, n8, d8, l8, rfl, hO, hP8, hb⟩; have L9 := Lib.hid (L1.out.trans (hb.mono L1.out.size)); have X9 := Lib.hid (Cells.below X1.out hb); have O9 := Lib.hid (O1.out.below hb); have hn8 : n8 = n := (by rw [← hO.len, ← List.length_map (f := Mx.p), hP8, HL8.out]); have NB9 : Hid (∀ x ∈ l8, ∀ q, Bl x q → q ≠ g) := (fun x hx q hq => by have h1 := hO.low x hx q hq; have h2 := Cells.lt X1.out; omega); have HO := Lib.hid hO; have HP8 := Lib.hid hP8; have HN8 := Lib.hid hn8; (try unfold nv); clear hb hO hP8 hn8 z0 z1) | fail)
            have A9 : Below w9.heap.size w9 (w9.alloc (.cells #[.int .i64 (cap : Int), .slice R8 n8 d8] 28)) := (Below.refl _ w9).alloc (Nat.le_refl _) _
            have L10 := Lib.hid (L9.out.trans (A9.mono L9.out.size))
            have X10 := Lib.hid (Cells.below X9.out A9)
            have O10 := Lib.hid (O9.out.below A9)
            have HO10 := Lib.hid (HO.out.below A9)
            have T10 : Hid (NBox (w9.alloc (.cells #[.int .i64 (cap : Int), .slice R8 n8 d8] 28)) w9.heap.size cap R8 n8 d8) := Cells.new _ _ _
            obtain ⟨g5, hg5⟩ : ∃ g5, g5 = w9.heap.size := ⟨_, rfl⟩
            rw [← hg5] at T10
            rw [← hg5]
            clear A9 hg5 L9 X9 O9 HO HL N1 X1 L1 O1
            generalize w9.alloc (.cells #[.int .i64 (cap : Int), .slice R8 n8 d8] 28) = w10 at *
            obtain ⟨z0, z1⟩ := NBox.cells X10.out
            obtain ⟨t0, t1⟩ := NBox.cells T10.out
            have f0 := Cells.frozen X10.out 0
            have f1 := Cells.frozen X10.out 1
            go_upto_region 24 with fail
            have bt := Mov.set2 w10 g (.int .i64 (cap : Int)) (.slice R8 n8 d8)
            have X8 := Lib.hid (Cells.set2 X10.out (.int .i64 (cap : Int)) (.slice R8 n8 d8))
            have L7 := Lib.hid (L10.out.trans (bt.up L10.out.size EG.out))
            have N8 := Lib.hid ((HO10.out.mov X10.out (by decide) NB9.out bt).net (by have := HN8.out; omega))
            have N7 := Lib.hid ((O10.out.mov X10.out (by decide) (fun x hx q hq => by have h1 := HBL.out x hx q hq; have h2 := EG.out; omega) bt).net (by omega))
            clear z0 z1 t0 t1 f0 f1 bt L10 X10 O10 HO10 T10 NB9
            generalize (w10.setCell ⟨g, 0, none⟩ (.int .i64 (cap : Int))).setCell ⟨g, 1, none⟩ (.slice R8 n8 d8) = w7 at *
            have HP8 := Lib.hid (show l8.map Mx.p = WL.drop 0 from HP8.out)
            obtain ⟨z, hz, hzm⟩ := N7.out.get k6
            obtain ⟨b3, o3, hA3, hb3, hcs3⟩ := N7.out.cells hz
            have HZ := Lib.hid hz
            have HCJ := Lib.hid hcs3
            have HPERM : Hid ((l.map Mx.p).take j ++ (l.map Mx.p).drop (j + 1) ++ [z].map Mx.p = WL) := by
              have h1 : (lw.map Mx.p)[j]? = some z.p := by rw [List.getElem?_map, hz]; rfl
              rw [HWF.out, HXJ.out] at h1
              injection h1 with h1
              show _ = _
              rw [HWL2.out, erase_eq, h1]
              rfl
            have BLF : Hid (∀ x ∈ lw.take j ++ lw.drop (j + 1) ++ [z], ∀ q, Bl x q → q < w.heap.size) := fun x hx => HBL.out x (by
              simp only [List.mem_append, List.mem_singleton] at hx
              rcases hx with (hx | hx) | rfl
              · exact List.mem_of_mem_take hx
              · exact List.mem_of_mem_drop hx
              · exact List.mem_of_getElem? HZ.out)
            have HP7 := HWF
            have hsl1 := fun w => run_headM A n d j (by have := N7.out.row.cap; omega) w
            have hsl2 : ∀ w, (Instr.slice 26 (.slice A n d) (some (.int .i64 ((j : Int) + 1))) none none).run Try.prog w = .ok (.slice (tailM A d (j + 1)) (n - (j + 1)) (d - (j + 1))) w := fun w => run_tailM A n d (j + 1) (by omega) w
            have hj0 : (0 : Int) ≤ (j : Int) := by omega
            have hjw : IntKind.i64.wrap ((j : Int) + 1) = (j : Int) + 1 := by rw [IntKind.wrap_i64]; omega
            have E7 : Hid (w.heap.size ≤ w7.heap.size) := L7.out.size
            have hj1 : (j : Int) < (n : Int) := by omega
            have D7 : Hid (Below w7.heap.size w7 w7) := Below.refl _ _
            clear hz hzm hcs3 hb3
            subst hA3
            have L8 := Lib.hid L7.out.drew
            have D8 := Lib.hid (D7.out.drew)
            refine wp_region_held_drew (S := fun W => W.cell? ⟨b3, o3 + j * 6, none⟩ = some (.int .i64 z.k) ∧ W.cell? ⟨b3, o3 + j * 6 + 1, none⟩ = some (.int .i64 z.f) ∧ W.cell? ⟨b3, o3 + j * 6 + 2, none⟩ = some (.int .i64 z.t) ∧ W.cell? ⟨b3, o3 + j * 6 + 3, none⟩ = some (.int .i64 z.i) ∧ W.cell? ⟨b3, o3 + j * 6 + 4, none⟩ = some (.slice z.A z.n z.c) ∧ W.cell? ⟨b3, o3 + j * 6 + 5, none⟩ = some (.slice z.B z.m z.d)) (by kernel_rfl) (HCJ.out _ D8.out) (fun hHeld => ?_)
            generalize w7.drew = w8 at *
            clear L7 D7 
            (first | (refine Reg.take 0 (v := ?_) rfl (by kernel_rfl) (by kernel_rfl) (by kernel_rfl) (fun _ _ _ h => h) (Or.inl ⟨by rfl, ?_⟩) (by assumption) ?_; rotate_left; (focus ((intro W hSW); (try dsimp only at hSW); (try go_split_ands); go_simp; (try (with_reducible rfl)); done))) | (refine Reg.take 0 (v := undef) rfl (by kernel_rfl) (by kernel_rfl) (by kernel_rfl) (fun _ _ _ h => h) (Or.inr ⟨by rfl, rfl⟩) (by assumption) ?_))
            (try simp only [Act.put, List.setIfInBounds_toArray, List.set_cons_zero, List.set_cons_succ])
            (first | (refine Reg.take 1 (v := ?_) rfl (by kernel_rfl) (by kernel_rfl) (by kernel_rfl) (fun _ _ _ h => h) (Or.inl ⟨by rfl, ?_⟩) (by assumption) ?_; rotate_left; (focus ((intro W hSW); (try dsimp only at hSW); (try go_split_ands); go_simp; (try (with_reducible rfl)); done))) | (refine Reg.take 1 (v := undef) rfl (by kernel_rfl) (by kernel_rfl) (by kernel_rfl) (fun _ _ _ h => h) (Or.inr ⟨by rfl, rfl⟩) (by assumption) ?_))
            (try simp only [Act.put, List.setIfInBounds_toArray, List.set_cons_zero, List.set_cons_succ])
            (first | (refine Reg.take 2 (v := ?_) rfl (by kernel_rfl) (by kernel_rfl) (by kernel_rfl) (fun _ _ _ h => h) (Or.inl ⟨by rfl, ?_⟩) (by assumption) ?_; rotate_left; (focus ((intro W hSW); (try dsimp only at hSW); (try go_split_ands); go_simp; (try (with_reducible rfl)); done))) | (refine Reg.take 2 (v := undef) rfl (by kernel_rfl) (by kernel_rfl) (by kernel_rfl) (fun _ _ _ h => h) (Or.inr ⟨by rfl, rfl⟩) (by assumption) ?_))
            (try simp only [Act.put, List.setIfInBounds_toArray, List.set_cons_zero, List.set_cons_succ])
            (first | (refine Reg.take 4 (v := ?_) rfl (by kernel_rfl) (by kernel_rfl) (by kernel_rfl) (fun _ _ _ h => h) (Or.inl ⟨by rfl, ?_⟩) (by assumption) ?_; rotate_left; (focus ((intro W hSW); (try dsimp only at hSW); (try go_split_ands); go_simp; (try (with_reducible rfl)); done))) | (refine Reg.take 4 (v := undef) rfl (by kernel_rfl) (by kernel_rfl) (by kernel_rfl) (fun _ _ _ h => h) (Or.inr ⟨by rfl, rfl⟩) (by assumption) ?_))
            (try simp only [Act.put, List.setIfInBounds_toArray, List.set_cons_zero, List.set_cons_succ])
            (first | (refine Reg.take 5 (v := ?_) rfl (by kernel_rfl) (by kernel_rfl) (by kernel_rfl) (fun _ _ _ h => h) (Or.inl ⟨by rfl, ?_⟩) (by assumption) ?_; rotate_left; (focus ((intro W hSW); (try dsimp only at hSW); (try go_split_ands); go_simp; (try (with_reducible rfl)); done))) | (refine Reg.take 5 (v := undef) rfl (by kernel_rfl) (by kernel_rfl) (by kernel_rfl) (fun _ _ _ h => h) (Or.inr ⟨by rfl, rfl⟩) (by assumption) ?_))
            (try simp only [Act.put, List.setIfInBounds_toArray, List.set_cons_zero, List.set_cons_succ])
            (first | (refine Reg.take 6 (v := ?_) rfl (by kernel_rfl) (by kernel_rfl) (by kernel_rfl) (fun _ _ _ h => h) (Or.inl ⟨by rfl, ?_⟩) (by assumption) ?_; rotate_left; (focus ((intro W hSW); (try dsimp only at hSW); (try go_split_ands); go_simp; (try (with_reducible rfl)); done))) | (refine Reg.take 6 (v := undef) rfl (by kernel_rfl) (by kernel_rfl) (by kernel_rfl) (fun _ _ _ h => h) (Or.inr ⟨by rfl, rfl⟩) (by assumption) ?_))
            (try simp only [Act.put, List.setIfInBounds_toArray, List.set_cons_zero, List.set_cons_succ])
            (first | (refine Reg.take 7 (v := ?_) rfl (by kernel_rfl) (by kernel_rfl) (by kernel_rfl) (fun _ _ _ h => h) (Or.inl ⟨by rfl, ?_⟩) (by assumption) ?_; rotate_left; (focus ((intro W hSW); (try dsimp only at hSW); (try go_split_ands); go_simp; (try (with_reducible rfl)); done))) | (refine Reg.take 7 (v := undef) rfl (by kernel_rfl) (by kernel_rfl) (by kernel_rfl) (fun _ _ _ h => h) (Or.inr ⟨by rfl, rfl⟩) (by assumption) ?_))
            (try simp only [Act.put, List.setIfInBounds_toArray, List.set_cons_zero, List.set_cons_succ])
            (first | (refine Reg.take 9 (v := ?_) rfl (by kernel_rfl) (by kernel_rfl) (by kernel_rfl) (fun _ _ _ h => h) (Or.inl ⟨by rfl, ?_⟩) (by assumption) ?_; rotate_left; (focus ((intro W hSW); (try dsimp only at hSW); (try go_split_ands); go_simp; (try (with_reducible rfl)); done))) | (refine Reg.take 9 (v := undef) rfl (by kernel_rfl) (by kernel_rfl) (by kernel_rfl) (fun _ _ _ h => h) (Or.inr ⟨by rfl, rfl⟩) (by assumption) ?_))
            (try simp only [Act.put, List.setIfInBounds_toArray, List.set_cons_zero, List.set_cons_succ])
            (first | (refine Reg.take 10 (v := ?_) rfl (by kernel_rfl) (by kernel_rfl) (by kernel_rfl) (fun _ _ _ h => h) (Or.inl ⟨by rfl, ?_⟩) (by assumption) ?_; rotate_left; (focus ((intro W hSW); (try dsimp only at hSW); (try go_split_ands); go_simp; (try (with_reducible rfl)); done))) | (refine Reg.take 10 (v := undef) rfl (by kernel_rfl) (by kernel_rfl) (by kernel_rfl) (fun _ _ _ h => h) (Or.inr ⟨by rfl, rfl⟩) (by assumption) ?_))
            (try simp only [Act.put, List.setIfInBounds_toArray, List.set_cons_zero, List.set_cons_succ])
            (first | (refine Reg.take 11 (v := ?_) rfl (by kernel_rfl) (by kernel_rfl) (by kernel_rfl) (fun _ _ _ h => h) (Or.inl ⟨by rfl, ?_⟩) (by assumption) ?_; rotate_left; (focus ((intro W hSW); (try dsimp only at hSW); (try go_split_ands); go_simp; (try (with_reducible rfl)); done))) | (refine Reg.take 11 (v := undef) rfl (by kernel_rfl) (by kernel_rfl) (by kernel_rfl) (fun _ _ _ h => h) (Or.inr ⟨by rfl, rfl⟩) (by assumption) ?_))
            (try simp only [Act.put, List.setIfInBounds_toArray, List.set_cons_zero, List.set_cons_succ])
            (first | (refine Reg.take 12 (v := ?_) rfl (by kernel_rfl) (by kernel_rfl) (by kernel_rfl) (fun _ _ _ h => h) (Or.inl ⟨by rfl, ?_⟩) (by assumption) ?_; rotate_left; (focus ((intro W hSW); (try dsimp only at hSW); (try go_split_ands); go_simp; (try (with_reducible rfl)); done))) | (refine Reg.take 12 (v := undef) rfl (by kernel_rfl) (by kernel_rfl) (by kernel_rfl) (fun _ _ _ h => h) (Or.inr ⟨by rfl, rfl⟩) (by assumption) ?_))
            (try simp only [Act.put, List.setIfInBounds_toArray, List.set_cons_zero, List.set_cons_succ])
            refine Reg.step2 3 13 rfl rfl (by kernel_rfl) (by rfl) (by rfl) (fun K hK => ?_) (fun K hK => ?_)
            · skip
              have hown := OwnN.nil 0 w7.heap.size w8
              refine OwnS.wp_append1 fitM Try.underlying26 info_msg rfl (by omega) (.const (.slice none 0 0)) (.tmp 84) rfl rfl w7.heap.size (.slice none 0 0) 0 ([]) rfl hown.own (some ⟨b3, o3, none⟩) j d (lw.take j) rfl (row_head (N7.out.row.below D8.out) (by omega)) (by omega) D8.out.size ?_
              intro A1 c1 w9 ho hg hn
              have bl := OwnS.below_row hown.own hg D8.out.size
              have D9 := Lib.hid (D8.out.trans bl)
              have L9 := Lib.hid (L8.out.trans (bl.mono E7.out))
              have ow := hown.more ho hg hn (fun y hy => ⟨(N7.out.at_ y (List.mem_of_mem_take hy)).below D8.out, new_zero y, fun q hq e => by have h1 := (N7.out.at_ y (List.mem_of_mem_take hy)).lt hq; have h2 := (hown.own.lt q e).1; omega⟩)
              rw [Nat.zero_add, List.nil_append] at ow
              rw [Nat.zero_add] at hn
              rw [Nat.zero_add]
              have O9 := Lib.hid ow
              clear ho hg hn hown bl hHeld
              clear L8 D8 
              refine hK.out _ _ (HCJ.out _ D9.out) (fun hHeld => ?_)
              clear hK K
              (try simp only [Act.put, List.setIfInBounds_toArray, List.set_cons_zero, List.set_cons_succ])
              refine Reg.step2 8 13 rfl rfl (by kernel_rfl) (by rfl) (by rfl) (fun K hK => ?_) (fun K hK => ?_)
              · skip
                have hown := O9.out
                refine OwnS.wp_append1 fitM Try.underlying26 info_msg rfl (by omega) (.tmp 85) (.tmp 89) rfl rfl w7.heap.size (.slice A1 j c1) j (lw.take j) rfl hown.own (tailM (some ⟨b3, o3, none⟩) d (j + 1)) (n - (j + 1)) (d - (j + 1)) (lw.drop (j + 1)) rfl (row_tail (N7.out.row.below D9.out) (by omega)) (by omega) D9.out.size ?_
                intro A2 c2 w10 ho hg hn
                have bl := OwnS.below_row hown.own hg D9.out.size
                have D10 := Lib.hid (D9.out.trans bl)
                have L10 := Lib.hid (L9.out.trans (bl.mono E7.out))
                have ow := hown.more ho hg hn (fun y hy => ⟨(N7.out.at_ y (List.mem_of_mem_drop hy)).below D9.out, new_zero y, fun q hq e => by have h1 := (N7.out.at_ y (List.mem_of_mem_drop hy)).lt hq; have h2 := (hown.own.lt q e).1; omega⟩)
                skip
                skip
                skip
                have O10 := Lib.hid ow
                clear ho hg hn hown bl hHeld
                clear L9 D9 O9
                refine hK.out _ _ (HCJ.out _ D10.out) (fun hHeld => ?_)
                clear hK K
                (try simp only [Act.put, List.setIfInBounds_toArray, List.set_cons_zero, List.set_cons_succ])
                refine Reg.step 13 rfl (by kernel_rfl) (by rfl) (fun K hK => ?_)
                go_simp
                have bb : Below w10.heap.size w10 (w10.alloc (.cells #[.int .i64 z.k, .int .i64 z.f, .int .i64 z.t, .int .i64 z.i, .slice z.A z.n z.c, .slice z.B z.m z.d] 39)) := (Below.refl _ w10).alloc (Nat.le_refl _) _
                have R11 := Lib.hid ((Cells.new _ _ _ : MBox _ w10.heap.size z))
                have L11 := Lib.hid (L10.out.trans (bb.mono L10.out.size))
                have D11 := Lib.hid (D10.out.trans (bb.mono D10.out.size))
                have O11 := Lib.hid (OwnN.below O10.out bb)
                obtain ⟨p1, hp1⟩ : ∃ p, p = w10.heap.size := ⟨_, rfl⟩
                rw [← hp1] at R11
                rw [← hp1]
                have Gp1 : Hid (p1 = w10.heap.size) := hp1
                have NE : Hid ((Value.slice A2 (j + (n - (j + 1))) c2).ownBlock ≠ some w10.heap.size) := fun e => by have h1 := (O10.out.own.lt _ e).2; omega
                rw [← hp1] at NE
                clear bb hHeld hp1
                clear L10 D10 O10 
                generalize w10.alloc (.cells #[.int .i64 z.k, .int .i64 z.f, .int .i64 z.t, .int .i64 z.i, .slice z.A z.n z.c, .slice z.B z.m z.d] 39) = w11 at *
                refine hK.out _ _ (HCJ.out _ D11.out) (fun hHeld => ?_)
                clear hK K
                (try simp only [Act.put, List.setIfInBounds_toArray, List.set_cons_zero, List.set_cons_succ])
                refine Reg.step 14 rfl (by kernel_rfl) (by rfl) (fun K hK => ?_)
                have hown := O11.out
                refine OwnS.wp_append1 fitM Try.underlying26 info_msg rfl (by omega) (.tmp 90) (.tmp 95) rfl rfl w7.heap.size (.slice A2 (j + (n - (j + 1))) c2) (j + (n - (j + 1))) (lw.take j ++ lw.drop (j + 1)) rfl hown.own (some ⟨p1, 0, none⟩) 1 1 ([z]) rfl (mrow_one R11.out) (by omega) D11.out.size ?_
                intro A3 c3 w12 ho hg hn
                have bl := OwnS.below_row hown.own hg D11.out.size
                have D12 := Lib.hid (D11.out.trans bl)
                have L12 := Lib.hid (L11.out.trans (bl.mono E7.out))
                have ow := hown.more ho hg hn (fun y hy => ⟨(N7.out.at_ y (by rw [List.mem_singleton.1 hy]; exact List.mem_of_getElem? HZ.out)).below D11.out, new_zero y, fun q hq e => by have h1 := (N7.out.at_ y (by rw [List.mem_singleton.1 hy]; exact List.mem_of_getElem? HZ.out)).lt hq; have h2 := (hown.own.lt q e).1; omega⟩)
                skip
                skip
                skip
                have O12 := Lib.hid ow
                have R12 := Lib.hid (cells_grown R11.out hg NE.out)
                have NE : Hid ((Value.slice A3 ((j + (n - (j + 1))) + 1) c3).ownBlock ≠ some p1) := fun e => by
                  rcases hn with hn | hn
                  · exact NE.out (hn ▸ e)
                  · rw [hn] at e; injection e with e; have := Cells.lt R11.out; omega
                clear ho hg hn hown bl hHeld
                clear L11 D11 O11 R11
                refine hK.out _ _ (HCJ.out _ D12.out) (fun hHeld => ?_)
                clear hK K
                (try simp only [Act.put, List.setIfInBounds_toArray, List.set_cons_zero, List.set_cons_succ])
                (first | (refine Reg.take 15 (v := ?_) rfl (by kernel_rfl) (by kernel_rfl) (by kernel_rfl) (fun _ _ _ h => h) (Or.inl ⟨by rfl, ?_⟩) (by assumption) ?_; rotate_left; (focus ((intro W hSW); (try dsimp only at hSW); (try go_split_ands); go_simp; (try (with_reducible rfl)); done))) | (refine Reg.take 15 (v := undef) rfl (by kernel_rfl) (by kernel_rfl) (by kernel_rfl) (fun _ _ _ h => h) (Or.inr ⟨by rfl, rfl⟩) (by assumption) ?_))
                (try simp only [Act.put, List.setIfInBounds_toArray, List.set_cons_zero, List.set_cons_succ])
                refine wpAnyH_done (by kernel_rfl) ?_ _
                clear hHeld
                clear R12 NE HCJ
                have hnn : j + (n - (j + 1)) + 1 = n := by omega
                rw [hnn] at O12
                rw [hnn]
                have OF := Lib.hid (⟨_, w7.heap.size, O12.out, by rw [List.map_append, List.map_append, List.map_take, List.map_drop, HP7.out]; exact HPERM.out, BLF.out⟩ : ∃ lf ob, OwnN 0 ob w12 (.slice A3 n c3) n lf ∧ lf.map Mx.p = WL ∧ ∀ x ∈ lf, ∀ q, Bl x q → q < w.heap.size)
                clear O12 hnn
                go_wp2_with fail
                obtain ⟨lf, ob, hof, hofp, hofb⟩ := OF.out
                have HOF := Lib.hid hof
                have HOP := Lib.hid hofp
                have HOB := Lib.hid hofb
                have N0 := Lib.hid (N8.out.below D12.out)
                have X0 := Lib.hid (Cells.below X8.out D12.out)
                have HWL : Hid (WL.length = n) := by show _ = _; rw [← hofp, List.length_map, hof.len]
                clear hof hofp hofb OF D12 X8 N8
                go_loopw [17, 18, 19, 20, 99] (fun _ _ _ _ i wr => ∃ (k : Nat) (R : Option Addr) (q dd : Nat) (ln : List Mx), i = .int .i64 k ∧ k ≤ n ∧ Hid (Below w.heap.size w wr ∧ NBox wr g cap R q dd ∧ NetAt wr R q dd ln ∧ ln.map Mx.p = WL.drop k ∧ OwnN 0 ob wr (.slice A3 n c3) n lf)) (fun _ _ _ _ i _ => n - (intOf i).toNat)
                case atStart => exact ⟨0, R8, n8, d8, l8, rfl, by omega, L12.out, X0.out, N0.out, HP8.out, HOF.out⟩
                case round =>
                  obtain ⟨k, R, q, dd, ln, rfl, hk, hH⟩ := hrel
                  have L1 := Lib.hid hH.out.1
                  have X1 := Lib.hid hH.out.2.1
                  have N1 := Lib.hid hH.out.2.2.1
                  have HR := Lib.hid hH.out.2.2.2.1
                  have O1 := Lib.hid hH.out.2.2.2.2
                  have hqn : q = n - k := by
                    have h1 := congrArg List.length HR.out
                    rw [List.length_map, List.length_drop, HWL.out, N1.out.row.len] at h1
                    exact h1
                  have HQN := Lib.hid hqn
                  have hq200 : q ≤ 200 := by omega
                  clear hH hqn
                  by_cases hlt : k < n
                  · have NW := Lib.hid (O1.out.net (by omega))
                    obtain ⟨z, hz, hzm⟩ := NW.out.get hlt
                    obtain ⟨b2, o2, hQ, hb2, hcs⟩ := NW.out.cells hz
                    obtain ⟨c0, c1, c2, c3, c4, c5⟩ := hcs wr (Below.refl _ _)
                    obtain ⟨x0, hx0, -⟩ := N1.out.get (i := 0) (by have := HQN.out; omega)
                    have hzp : WL[k]? = some z.p := by rw [← HOP.out, List.getElem?_map, hz]; rfl
                    have hx0p : x0.p = z.p := by
                      have h1 : (ln.map Mx.p)[0]? = some x0.p := by rw [List.getElem?_map, hx0]; rfl
                      rw [HR.out, List.getElem?_drop, Nat.add_zero, hzp] at h1
                      injection h1 with h1
                      exact h1.symm
                    have HT := fun W (h : Below wr.heap.size wr W) => Lib.hid (take_ok (cap := cap) (N1.out.below h) (by omega) hx0)
                    rw [HR.out, hx0p, show (WL.drop k).eraseIdx 0 = WL.drop (k + 1) by rw [List.eraseIdx_zero, List.tail_drop]] at HT
                    have HZM := Lib.hid hzm
                    subst hQ
                    have hk0 : (0 : Int) ≤ (k : Int) := by omega
                    have hkn : (k : Int) < (n : Int) := by omega
                    unfold nv at HT
                    clear hz hzm hcs hb2 hx0 hzp hx0p NW
                    go_upto_region 28 with fail
                    clear c0 c1 c2 c3 c4 c5
                    have bb : Below wr.heap.size wr (wr.alloc (.cells #[.int .i64 z.k, .int .i64 z.f, .int .i64 z.t, .int .i64 z.i, .slice z.A z.n z.c, .slice z.B z.m z.d] 39)) := (Below.refl _ wr).alloc (Nat.le_refl _) _
                    have L2 := Lib.hid (L1.out.trans (bb.mono L1.out.size))
                    have X2 := Lib.hid (Cells.below X1.out bb)
                    have O2 := Lib.hid (O1.out.below bb)
                    have P2 : Hid (MBox (wr.alloc (.cells #[.int .i64 z.k, .int .i64 z.f, .int .i64 z.t, .int .i64 z.i, .slice z.A z.n z.c, .slice z.B z.m z.d] 39)) wr.heap.size z) := Cells.new _ _ _
                    have HT := Lib.hid (HT _ bb).out
                    have Z2 := Lib.hid (HZM.out.below bb)
                    obtain ⟨p, hp⟩ : ∃ p, p = wr.heap.size := ⟨_, rfl⟩
                    rw [← hp] at P2
                    rw [← hp]
                    clear bb hp L1 X1 O1 HZM N1 HR
                    generalize wr.alloc (.cells #[.int .i64 z.k, .int .i64 z.f, .int .i64 z.t, .int .i64 z.i, .slice z.A z.n z.c, .slice z.B z.m z.d] 39) = w4 at *
                    obtain ⟨k0, k1⟩ := NBox.cells X2.out
                    go_upto_region 29 with (first | (go_at_call 30; refine HT.out.mono ?_; rintro e w5 ⟨Q2, n2, c2, l2, y, rfl, hO, hP2, hyp, hya, -, -, -, hb⟩; have L5 := Lib.hid (L2.out.trans (hb.mono L2.out.size)); have X5 := Lib.hid (Cells.below X2.out hb); have P5 := Lib.hid (Cells.below P2.out hb); have O5 := Lib.hid (O2.out.below hb); have Z5 := Lib.hid (Z2.out.below hb); have NO := Lib.hid (hO.net (by rw [← hO.len, ← List.length_map (f := Mx.p), hP2, List.length_drop, HWL.out]; omega)); have NBL : Hid (∀ x ∈ l2, ∀ q, Bl x q → q ≠ g) := (fun x hx q hq => by have h1 := hO.low x hx q hq; have h2 := Cells.lt X2.out; omega); have HO := Lib.hid hO; have HP2 := Lib.hid hP2; have HYP := Lib.hid hyp; have HYA := Lib.hid hya; (try unfold nv mxv); clear hb hO hP2 hyp hya k0 k1) | fail)
                    have A6 : Below w5.heap.size w5 ((w5.alloc (.cells #[.int .i64 (cap : Int), .slice Q2 n2 c2] 28)).alloc (.cells #[.int .i64 y.k, .int .i64 y.f, .int .i64 y.t, .int .i64 y.i, .slice y.A y.n y.c, .slice y.B y.m y.d] 39)) := ((Below.refl _ w5).alloc (Nat.le_refl _) _).alloc (by simp) _
                    have L6' := Lib.hid (L5.out.trans (A6.mono L5.out.size))
                    have X6' := Lib.hid (Cells.below X5.out A6)
                    have P6 := Lib.hid (Cells.below P5.out A6)
                    have O6 := Lib.hid (O5.out.below A6)
                    have T6 : Hid (NBox ((w5.alloc (.cells #[.int .i64 (cap : Int), .slice Q2 n2 c2] 28)).alloc (.cells #[.int .i64 y.k, .int .i64 y.f, .int .i64 y.t, .int .i64 y.i, .slice y.A y.n y.c, .slice y.B y.m y.d] 39)) w5.heap.size cap Q2 n2 c2) := Cells.alloc (Cells.new _ _ _) _
                    have Y6 : Hid (MBox ((w5.alloc (.cells #[.int .i64 (cap : Int), .slice Q2 n2 c2] 28)).alloc (.cells #[.int .i64 y.k, .int .i64 y.f, .int .i64 y.t, .int .i64 y.i, .slice y.A y.n y.c, .slice y.B y.m y.d] 39)) (w5.heap.size + 1) y) := by
                      have := Cells.new (w5.alloc (.cells #[.int .i64 (cap : Int), .slice Q2 n2 c2] 28)) #[.int .i64 y.k, .int .i64 y.f, .int .i64 y.t, .int .i64 y.i, .slice y.A y.n y.c, .slice y.B y.m y.d] 39
                      rw [World.size_alloc] at this
                      exact this
                    have HO6 := Lib.hid (HO.out.below A6)
                    have HSM := Lib.hid (sameMsg_any (HYA.out.below A6) (Z5.out.below A6))
                    rw [decide_eq_true HYP.out] at HSM
                    have GL : Hid (g < w5.heap.size) := Cells.lt X5.out
                    obtain ⟨g5, hg5⟩ : ∃ g5, g5 = w5.heap.size := ⟨_, rfl⟩
                    rw [← hg5] at T6 Y6 GL
                    rw [← hg5]
                    clear A6 hg5 L5 X5 P5 O5 HO HYA Z5 L2 X2 P2 O2 Z2
                    generalize ((w5.alloc (.cells #[.int .i64 (cap : Int), .slice Q2 n2 c2] 28)).alloc (.cells #[.int .i64 y.k, .int .i64 y.f, .int .i64 y.t, .int .i64 y.i, .slice y.A y.n y.c, .slice y.B y.m y.d] 39)) = w6' at *
                    obtain ⟨m0, m1, m2, m3, m4, m5⟩ := MBox.cells P6.out
                    obtain ⟨u0, u1, u2, u3, u4, u5⟩ := MBox.cells Y6.out
                    unfold mxv at HSM
                    go_upto_region 31 with (first | (go_at_call 19; refine HSM.out.mono ?_; rintro e w7' ⟨rfl, hb⟩; have L7' := Lib.hid (L6'.out.trans (hb.mono L6'.out.size)); have X7' := Lib.hid (Cells.below X6'.out hb); have T7' := Lib.hid (Cells.below T6.out hb); have O7' := Lib.hid (O6.out.below hb); have HO7 := Lib.hid (HO6.out.below hb); clear hb m0 m1 m2 m3 m4 m5 u0 u1 u2 u3 u4 u5) | fail)
                    obtain ⟨t0, t1⟩ := NBox.cells T7'.out
                    obtain ⟨x0', x1'⟩ := NBox.cells X7'.out
                    have f0 := Cells.frozen X7'.out 0
                    have f1 := Cells.frozen X7'.out 1
                    have bt := Mov.set2 w7' g (.int .i64 (cap : Int)) (.slice Q2 n2 c2)
                    have XF := Lib.hid (Cells.set2 X7'.out (.int .i64 (cap : Int)) (.slice Q2 n2 c2))
                    have LF := Lib.hid (L7'.out.trans (bt.up L7'.out.size EG.out))
                    have NF := Lib.hid ((HO7.out.mov X7'.out (by decide) NBL.out bt).net (by rw [← HO7.out.len, ← List.length_map (f := Mx.p), HP2.out, List.length_drop, HWL.out]; omega))
                    have OF := Lib.hid (O7'.out.mov X7'.out (by decide) (fun x hx q hq => by have h1 := HOB.out x hx q hq; have h2 := EG.out; omega) bt)
                    clear bt
                    go_wp2_with fail
                    go_roundw
                    case rel => exact ⟨k + 1, Q2, n2, c2, l2, by go_num, by omega, LF.out, XF.out, NF.out, HP2.out, OF.out⟩
                    case measure => simp [intOf]; omega
                  · have hq0 : q = 0 := by have := HQN.out; omega
                    subst hq0
                    obtain ⟨k0, k1⟩ := NBox.cells X1.out
                    go_wp2_with fail
                    go_ret
                    exact ⟨by rfl, L1.out⟩
              · skip
                go_simp
                have bb : Below w9.heap.size w9 (w9.alloc (.cells #[.int .i64 z.k, .int .i64 z.f, .int .i64 z.t, .int .i64 z.i, .slice z.A z.n z.c, .slice z.B z.m z.d] 39)) := (Below.refl _ w9).alloc (Nat.le_refl _) _
                have R10 := Lib.hid ((Cells.new _ _ _ : MBox _ w9.heap.size z))
                have L10 := Lib.hid (L9.out.trans (bb.mono L9.out.size))
                have D10 := Lib.hid (D9.out.trans (bb.mono D9.out.size))
                have O10 := Lib.hid (OwnN.below O9.out bb)
                obtain ⟨p1, hp1⟩ : ∃ p, p = w9.heap.size := ⟨_, rfl⟩
                rw [← hp1] at R10
                rw [← hp1]
                have Gp1 : Hid (p1 = w9.heap.size) := hp1
                have NE : Hid ((Value.slice A1 j c1).ownBlock ≠ some w9.heap.size) := fun e => by have h1 := (O9.out.own.lt _ e).2; omega
                rw [← hp1] at NE
                clear bb hHeld hp1
                clear L9 D9 O9 
                generalize w9.alloc (.cells #[.int .i64 z.k, .int .i64 z.f, .int .i64 z.t, .int .i64 z.i, .slice z.A z.n z.c, .slice z.B z.m z.d] 39) = w10 at *
                refine hK.out _ _ (HCJ.out _ D10.out) (fun hHeld => ?_)
                clear hK K
                (try simp only [Act.put, List.setIfInBounds_toArray, List.set_cons_zero, List.set_cons_succ])
                refine Reg.step 8 rfl (by kernel_rfl) (by rfl) (fun K hK => ?_)
                have hown := O10.out
                refine OwnS.wp_append1 fitM Try.underlying26 info_msg rfl (by omega) (.tmp 85) (.tmp 89) rfl rfl w7.heap.size (.slice A1 j c1) j (lw.take j) rfl hown.own (tailM (some ⟨b3, o3, none⟩) d (j + 1)) (n - (j + 1)) (d - (j + 1)) (lw.drop (j + 1)) rfl (row_tail (N7.out.row.below D10.out) (by omega)) (by omega) D10.out.size ?_
                intro A2 c2 w11 ho hg hn
                have bl := OwnS.below_row hown.own hg D10.out.size
                have D11 := Lib.hid (D10.out.trans bl)
                have L11 := Lib.hid (L10.out.trans (bl.mono E7.out))
                have ow := hown.more ho hg hn (fun y hy => ⟨(N7.out.at_ y (List.mem_of_mem_drop hy)).below D10.out, new_zero y, fun q hq e => by have h1 := (N7.out.at_ y (List.mem_of_mem_drop hy)).lt hq; have h2 := (hown.own.lt q e).1; omega⟩)
                skip
                skip
                skip
                have O11 := Lib.hid ow
                have R11 := Lib.hid (cells_grown R10.out hg NE.out)
                have NE : Hid ((Value.slice A2 (j + (n - (j + 1))) c2).ownBlock ≠ some p1) := fun e => by
                  rcases hn with hn | hn
                  · exact NE.out (hn ▸ e)
                  · rw [hn] at e; injection e with e; have := Cells.lt R10.out; omega
                clear ho hg hn hown bl hHeld
                clear L10 D10 O10 R10
                refine hK.out _ _ (HCJ.out _ D11.out) (fun hHeld => ?_)
                clear hK K
                (try simp only [Act.put, List.setIfInBounds_toArray, List.set_cons_zero, List.set_cons_succ])
                refine Reg.step 14 rfl (by kernel_rfl) (by rfl) (fun K hK => ?_)
                have hown := O11.out
                refine OwnS.wp_append1 fitM Try.underlying26 info_msg rfl (by omega) (.tmp 90) (.tmp 95) rfl rfl w7.heap.size (.slice A2 (j + (n - (j + 1))) c2) (j + (n - (j + 1))) (lw.take j ++ lw.drop (j + 1)) rfl hown.own (some ⟨p1, 0, none⟩) 1 1 ([z]) rfl (mrow_one R11.out) (by omega) D11.out.size ?_
                intro A3 c3 w12 ho hg hn
                have bl := OwnS.below_row hown.own hg D11.out.size
                have D12 := Lib.hid (D11.out.trans bl)
                have L12 := Lib.hid (L11.out.trans (bl.mono E7.out))
                have ow := hown.more ho hg hn (fun y hy => ⟨(N7.out.at_ y (by rw [List.mem_singleton.1 hy]; exact List.mem_of_getElem? HZ.out)).below D11.out, new_zero y, fun q hq e => by have h1 := (N7.out.at_ y (by rw [List.mem_singleton.1 hy]; exact List.mem_of_getElem? HZ.out)).lt hq; have h2 := (hown.own.lt q e).1; omega⟩)
                skip
                skip
                skip
                have O12 := Lib.hid ow
                have R12 := Lib.hid (cells_grown R11.out hg NE.out)
                have NE : Hid ((Value.slice A3 ((j + (n - (j + 1))) + 1) c3).ownBlock ≠ some p1) := fun e => by
                  rcases hn with hn | hn
                  · exact NE.out (hn ▸ e)
                  · rw [hn] at e; injection e with e; have := Cells.lt R11.out; omega
                clear ho hg hn hown bl hHeld
                clear L11 D11 O11 R11
                refine hK.out _ _ (HCJ.out _ D12.out) (fun hHeld => ?_)
                clear hK K
                (try simp only [Act.put, List.setIfInBounds_toArray, List.set_cons_zero, List.set_cons_succ])
                (first | (refine Reg.take 15 (v := ?_) rfl (by kernel_rfl) (by kernel_rfl) (by kernel_rfl) (fun _ _ _ h => h) (Or.inl ⟨by rfl, ?_⟩) (by assumption) ?_; rotate_left; (focus ((intro W hSW); (try dsimp only at hSW); (try go_split_ands); go_simp; (try (with_reducible rfl)); done))) | (refine Reg.take 15 (v := undef) rfl (by kernel_rfl) (by kernel_rfl) (by kernel_rfl) (fun _ _ _ h => h) (Or.inr ⟨by rfl, rfl⟩) (by assumption) ?_))
                (try simp only [Act.put, List.setIfInBounds_toArray, List.set_cons_zero, List.set_cons_succ])
                refine wpAnyH_done (by kernel_rfl) ?_ _
                clear hHeld
                clear R12 NE HCJ
                have hnn : j + (n - (j + 1)) + 1 = n := by omega
                rw [hnn] at O12
                rw [hnn]
                have OF := Lib.hid (⟨_, w7.heap.size, O12.out, by rw [List.map_append, List.map_append, List.map_take, List.map_drop, HP7.out]; exact HPERM.out, BLF.out⟩ : ∃ lf ob, OwnN 0 ob w12 (.slice A3 n c3) n lf ∧ lf.map Mx.p = WL ∧ ∀ x ∈ lf, ∀ q, Bl x q → q < w.heap.size)
                clear O12 hnn
                go_wp2_with fail
                obtain ⟨lf, ob, hof, hofp, hofb⟩ := OF.out
                have HOF := Lib.hid hof
                have HOP := Lib.hid hofp
                have HOB := Lib.hid hofb
                have N0 := Lib.hid (N8.out.below D12.out)
                have X0 := Lib.hid (Cells.below X8.out D12.out)
                have HWL : Hid (WL.length = n) := by show _ = _; rw [← hofp, List.length_map, hof.len]
                clear hof hofp hofb OF D12 X8 N8
                go_loopw [17, 18, 19, 20, 99] (fun _ _ _ _ i wr => ∃ (k : Nat) (R : Option Addr) (q dd : Nat) (ln : List Mx), i = .int .i64 k ∧ k ≤ n ∧ Hid (Below w.heap.size w wr ∧ NBox wr g cap R q dd ∧ NetAt wr R q dd ln ∧ ln.map Mx.p = WL.drop k ∧ OwnN 0 ob wr (.slice A3 n c3) n lf)) (fun _ _ _ _ i _ => n - (intOf i).toNat)
                case atStart => exact ⟨0, R8, n8, d8, l8, rfl, by omega, L12.out, X0.out, N0.out, HP8.out, HOF.out⟩
                case round =>
                  obtain ⟨k, R, q, dd, ln, rfl, hk, hH⟩ := hrel
                  have L1 := Lib.hid hH.out.1
                  have X1 := Lib.hid hH.out.2.1
                  have N1 := Lib.hid hH.out.2.2.1
                  have HR := Lib.hid hH.out.2.2.2.1
                  have O1 := Lib.hid hH.out.2.2.2.2
                  have hqn : q = n - k := by
                    have h1 := congrArg List.length HR.out
                    rw [List.length_map, List.length_drop, HWL.out, N1.out.row.len] at h1
                    exact h1
                  have HQN := Lib.hid hqn
                  have hq200 : q ≤ 200 := by omega
                  clear hH hqn
                  by_cases hlt : k < n
                  · have NW := Lib.hid (O1.out.net (by omega))
                    obtain ⟨z, hz, hzm⟩ := NW.out.get hlt
                    obtain ⟨b2, o2, hQ, hb2, hcs⟩ := NW.out.cells hz
                    obtain ⟨c0, c1, c2, c3, c4, c5⟩ := hcs wr (Below.refl _ _)
                    obtain ⟨x0, hx0, -⟩ := N1.out.get (i := 0) (by have := HQN.out; omega)
                    have hzp : WL[k]? = some z.p := by rw [← HOP.out, List.getElem?_map, hz]; rfl
                    have hx0p : x0.p = z.p := by
                      have h1 : (ln.map Mx.p)[0]? = some x0.p := by rw [List.getElem?_map, hx0]; rfl
                      rw [HR.out, List.getElem?_drop, Nat.add_zero, hzp] at h1
                      injection h1 with h1
                      exact h1.symm
                    have HT := fun W (h : Below wr.heap.size wr W) => Lib.hid (take_ok (cap := cap) (N1.out.below h) (by omega) hx0)
                    rw [HR.out, hx0p, show (WL.drop k).eraseIdx 0 = WL.drop (k + 1) by rw [List.eraseIdx_zero, List.tail_drop]] at HT
                    have HZM := Lib.hid hzm
                    subst hQ
                    have hk0 : (0 : Int) ≤ (k : Int) := by omega
                    have hkn : (k : Int) < (n : Int) := by omega
                    unfold nv at HT
                    clear hz hzm hcs hb2 hx0 hzp hx0p NW
                    go_upto_region 28 with fail
                    clear c0 c1 c2 c3 c4 c5
                    have bb : Below wr.heap.size wr (wr.alloc (.cells #[.int .i64 z.k, .int .i64 z.f, .int .i64 z.t, .int .i64 z.i, .slice z.A z.n z.c, .slice z.B z.m z.d] 39)) := (Below.refl _ wr).alloc (Nat.le_refl _) _
                    have L2 := Lib.hid (L1.out.trans (bb.mono L1.out.size))
                    have X2 := Lib.hid (Cells.below X1.out bb)
                    have O2 := Lib.hid (O1.out.below bb)
                    have P2 : Hid (MBox (wr.alloc (.cells #[.int .i64 z.k, .int .i64 z.f, .int .i64 z.t, .int .i64 z.i, .slice z.A z.n z.c, .slice z.B z.m z.d] 39)) wr.heap.size z) := Cells.new _ _ _
                    have HT := Lib.hid (HT _ bb).out
                    have Z2 := Lib.hid (HZM.out.below bb)
                    obtain ⟨p, hp⟩ : ∃ p, p = wr.heap.size := ⟨_, rfl⟩
                    rw [← hp] at P2
                    rw [← hp]
                    clear bb hp L1 X1 O1 HZM N1 HR
                    generalize wr.alloc (.cells #[.int .i64 z.k, .int .i64 z.f, .int .i64 z.t, .int .i64 z.i, .slice z.A z.n z.c, .slice z.B z.m z.d] 39) = w4 at *
                    obtain ⟨k0, k1⟩ := NBox.cells X2.out
                    go_upto_region 29 with (first | (go_at_call 30; refine HT.out.mono ?_; rintro e w5 ⟨Q2, n2, c2, l2, y, rfl, hO, hP2, hyp, hya, -, -, -, hb⟩; have L5 := Lib.hid (L2.out.trans (hb.mono L2.out.size)); have X5 := Lib.hid (Cells.below X2.out hb); have P5 := Lib.hid (Cells.below P2.out hb); have O5 := Lib.hid (O2.out.below hb); have Z5 := Lib.hid (Z2.out.below hb); have NO := Lib.hid (hO.net (by rw [← hO.len, ← List.length_map (f := Mx.p), hP2, List.length_drop, HWL.out]; omega)); have NBL : Hid (∀ x ∈ l2, ∀ q, Bl x q → q ≠ g) := (fun x hx q hq => by have h1 := hO.low x hx q hq; have h2 := Cells.lt X2.out; omega); have HO := Lib.hid hO; have HP2 := Lib.hid hP2; have HYP := Lib.hid hyp; have HYA := Lib.hid hya; (try unfold nv mxv); clear hb hO hP2 hyp hya k0 k1) | fail)
                    have A6 : Below w5.heap.size w5 ((w5.alloc (.cells #[.int .i64 (cap : Int), .slice Q2 n2 c2] 28)).alloc (.cells #[.int .i64 y.k, .int .i64 y.f, .int .i64 y.t, .int .i64 y.i, .slice y.A y.n y.c, .slice y.B y.m y.d] 39)) := ((Below.refl _ w5).alloc (Nat.le_refl _) _).alloc (by simp) _
                    have L6' := Lib.hid (L5.out.trans (A6.mono L5.out.size))
                    have X6' := Lib.hid (Cells.below X5.out A6)
                    have P6 := Lib.hid (Cells.below P5.out A6)
                    have O6 := Lib.hid (O5.out.below A6)
                    have T6 : Hid (NBox ((w5.alloc (.cells #[.int .i64 (cap : Int), .slice Q2 n2 c2] 28)).alloc (.cells #[.int .i64 y.k, .int .i64 y.f, .int .i64 y.t, .int .i64 y.i, .slice y.A y.n y.c, .slice y.B y.m y.d] 39)) w5.heap.size cap Q2 n2 c2) := Cells.alloc (Cells.new _ _ _) _
                    have Y6 : Hid (MBox ((w5.alloc (.cells #[.int .i64 (cap : Int), .slice Q2 n2 c2] 28)).alloc (.cells #[.int .i64 y.k, .int .i64 y.f, .int .i64 y.t, .int .i64 y.i, .slice y.A y.n y.c, .slice y.B y.m y.d] 39)) (w5.heap.size + 1) y) := by
                      have := Cells.new (w5.alloc (.cells #[.int .i64 (cap : Int), .slice Q2 n2 c2] 28)) #[.int .i64 y.k, .int .i64 y.f, .int .i64 y.t, .int .i64 y.i, .slice y.A y.n y.c, .slice y.B y.m y.d] 39
                      rw [World.size_alloc] at this
                      exact this
                    have HO6 := Lib.hid (HO.out.below A6)
                    have HSM := Lib.hid (sameMsg_any (HYA.out.below A6) (Z5.out.below A6))
                    rw [decide_eq_true HYP.out] at HSM
                    have GL : Hid (g < w5.heap.size) := Cells.lt X5.out
                    obtain ⟨g5, hg5⟩ : ∃ g5, g5 = w5.heap.size := ⟨_, rfl⟩
                    rw [← hg5] at T6 Y6 GL
                    rw [← hg5]
                    clear A6 hg5 L5 X5 P5 O5 HO HYA Z5 L2 X2 P2 O2 Z2
                    generalize ((w5.alloc (.cells #[.int .i64 (cap : Int), .slice Q2 n2 c2] 28)).alloc (.cells #[.int .i64 y.k, .int .i64 y.f, .int .i64 y.t, .int .i64 y.i, .slice y.A y.n y.c, .slice y.B y.m y.d] 39)) = w6' at *
                    obtain ⟨m0, m1, m2, m3, m4, m5⟩ := MBox.cells P6.out
                    obtain ⟨u0, u1, u2, u3, u4, u5⟩ := MBox.cells Y6.out
                    unfold mxv at HSM
                    go_upto_region 31 with (first | (go_at_call 19; refine HSM.out.mono ?_; rintro e w7' ⟨rfl, hb⟩; have L7' := Lib.hid (L6'.out.trans (hb.mono L6'.out.size)); have X7' := Lib.hid (Cells.below X6'.out hb); have T7' := Lib.hid (Cells.below T6.out hb); have O7' := Lib.hid (O6.out.below hb); have HO7 := Lib.hid (HO6.out.below hb); clear hb m0 m1 m2 m3 m4 m5 u0 u1 u2 u3 u4 u5) | fail)
                    obtain ⟨t0, t1⟩ := NBox.cells T7'.out
                    obtain ⟨x0', x1'⟩ := NBox.cells X7'.out
                    have f0 := Cells.frozen X7'.out 0
                    have f1 := Cells.frozen X7'.out 1
                    have bt := Mov.set2 w7' g (.int .i64 (cap : Int)) (.slice Q2 n2 c2)
                    have XF := Lib.hid (Cells.set2 X7'.out (.int .i64 (cap : Int)) (.slice Q2 n2 c2))
                    have LF := Lib.hid (L7'.out.trans (bt.up L7'.out.size EG.out))
                    have NF := Lib.hid ((HO7.out.mov X7'.out (by decide) NBL.out bt).net (by rw [← HO7.out.len, ← List.length_map (f := Mx.p), HP2.out, List.length_drop, HWL.out]; omega))
                    have OF := Lib.hid (O7'.out.mov X7'.out (by decide) (fun x hx q hq => by have h1 := HOB.out x hx q hq; have h2 := EG.out; omega) bt)
                    clear bt
                    go_wp2_with fail
                    go_roundw
                    case rel => exact ⟨k + 1, Q2, n2, c2, l2, by go_num, by omega, LF.out, XF.out, NF.out, HP2.out, OF.out⟩
                    case measure => simp [intOf]; omega
                  · have hq0 : q = 0 := by have := HQN.out; omega
                    subst hq0
                    obtain ⟨k0, k1⟩ := NBox.cells X1.out
                    go_wp2_with fail
                    go_ret
                    exact ⟨by rfl, L1.out⟩
            · skip
              go_simp
              have bb : Below w8.heap.size w8 (w8.alloc (.cells #[.int .i64 z.k, .int .i64 z.f, .int .i64 z.t, .int .i64 z.i, .slice z.A z.n z.c, .slice z.B z.m z.d] 39)) := (Below.refl _ w8).alloc (Nat.le_refl _) _
              have R9 := Lib.hid ((Cells.new _ _ _ : MBox _ w8.heap.size z))
              have L9 := Lib.hid (L8.out.trans (bb.mono L8.out.size))
              have D9 := Lib.hid (D8.out.trans (bb.mono D8.out.size))
              obtain ⟨p1, hp1⟩ : ∃ p, p = w8.heap.size := ⟨_, rfl⟩
              rw [← hp1] at R9
              rw [← hp1]
              have Gp1 : Hid (p1 = w8.heap.size) := hp1
              clear bb hHeld hp1
              clear L8 D8 
              generalize w8.alloc (.cells #[.int .i64 z.k, .int .i64 z.f, .int .i64 z.t, .int .i64 z.i, .slice z.A z.n z.c, .slice z.B z.m z.d] 39) = w9 at *
              refine hK.out _ _ (HCJ.out _ D9.out) (fun hHeld => ?_)
              clear hK K
              (try simp only [Act.put, List.setIfInBounds_toArray, List.set_cons_zero, List.set_cons_succ])
              refine Reg.step 3 rfl (by kernel_rfl) (by rfl) (fun K hK => ?_)
              have hown := OwnN.nil 0 w7.heap.size w9
              refine OwnS.wp_append1 fitM Try.underlying26 info_msg rfl (by omega) (.const (.slice none 0 0)) (.tmp 84) rfl rfl w7.heap.size (.slice none 0 0) 0 ([]) rfl hown.own (some ⟨b3, o3, none⟩) j d (lw.take j) rfl (row_head (N7.out.row.below D9.out) (by omega)) (by omega) D9.out.size ?_
              intro A1 c1 w10 ho hg hn
              have bl := OwnS.below_row hown.own hg D9.out.size
              have D10 := Lib.hid (D9.out.trans bl)
              have L10 := Lib.hid (L9.out.trans (bl.mono E7.out))
              have ow := hown.more ho hg hn (fun y hy => ⟨(N7.out.at_ y (List.mem_of_mem_take hy)).below D9.out, new_zero y, fun q hq e => by have h1 := (N7.out.at_ y (List.mem_of_mem_take hy)).lt hq; have h2 := (hown.own.lt q e).1; omega⟩)
              rw [Nat.zero_add, List.nil_append] at ow
              rw [Nat.zero_add] at hn
              rw [Nat.zero_add]
              have O10 := Lib.hid ow
              have R10 := Lib.hid (cells_grown R9.out hg (by simp [Value.ownBlock]))
              have NE : Hid ((Value.slice A1 j c1).ownBlock ≠ some p1) := fun e => by
                rcases hn with hn | hn
                · rw [hn] at e; simp [Value.ownBlock] at e
                · rw [hn] at e; injection e with e; have := Cells.lt R9.out; omega
              clear ho hg hn hown bl hHeld
              clear L9 D9 R9
              refine hK.out _ _ (HCJ.out _ D10.out) (fun hHeld => ?_)
              clear hK K
              (try simp only [Act.put, List.setIfInBounds_toArray, List.set_cons_zero, List.set_cons_succ])
              refine Reg.step 8 rfl (by kernel_rfl) (by rfl) (fun K hK => ?_)
              have hown := O10.out
              refine OwnS.wp_append1 fitM Try.underlying26 info_msg rfl (by omega) (.tmp 85) (.tmp 89) rfl rfl w7.heap.size (.slice A1 j c1) j (lw.take j) rfl hown.own (tailM (some ⟨b3, o3, none⟩) d (j + 1)) (n - (j + 1)) (d - (j + 1)) (lw.drop (j + 1)) rfl (row_tail (N7.out.row.below D10.out) (by omega)) (by omega) D10.out.size ?_
              intro A2 c2 w11 ho hg hn
              have bl := OwnS.below_row hown.own hg D10.out.size
              have D11 := Lib.hid (D10.out.trans bl)
              have L11 := Lib.hid (L10.out.trans (bl.mono E7.out))
              have ow := hown.more ho hg hn (fun y hy => ⟨(N7.out.at_ y (List.mem_of_mem_drop hy)).below D10.out, new_zero y, fun q hq e => by have h1 := (N7.out.at_ y (List.mem_of_mem_drop hy)).lt hq; have h2 := (hown.own.lt q e).1; omega⟩)
              skip
              skip
              skip
              have O11 := Lib.hid ow
              have R11 := Lib.hid (cells_grown R10.out hg NE.out)
              have NE : Hid ((Value.slice A2 (j + (n - (j + 1))) c2).ownBlock ≠ some p1) := fun e => by
                rcases hn with hn | hn
                · exact NE.out (hn ▸ e)
                · rw [hn] at e; injection e with e; have := Cells.lt R10.out; omega
              clear ho hg hn hown bl hHeld
              clear L10 D10 R10 O10
              refine hK.out _ _ (HCJ.out _ D11.out) (fun hHeld => ?_)
              clear hK K
              (try simp only [Act.put, List.setIfInBounds_toArray, List.set_cons_zero, List.set_cons_succ])
              refine Reg.step 14 rfl (by kernel_rfl) (by rfl) (fun K hK => ?_)
              have hown := O11.out
              refine OwnS.wp_append1 fitM Try.underlying26 info_msg rfl (by omega) (.tmp 90) (.tmp 95) rfl rfl w7.heap.size (.slice A2 (j + (n - (j + 1))) c2) (j + (n - (j + 1))) (lw.take j ++ lw.drop (j + 1)) rfl hown.own (some ⟨p1, 0, none⟩) 1 1 ([z]) rfl (mrow_one R11.out) (by omega) D11.out.size ?_
              intro A3 c3 w12 ho hg hn
              have bl := OwnS.below_row hown.own hg D11.out.size
              have D12 := Lib.hid (D11.out.trans bl)
              have L12 := Lib.hid (L11.out.trans (bl.mono E7.out))
              have ow := hown.more ho hg hn (fun y hy => ⟨(N7.out.at_ y (by rw [List.mem_singleton.1 hy]; exact List.mem_of_getElem? HZ.out)).below D11.out, new_zero y, fun q hq e => by have h1 := (N7.out.at_ y (by rw [List.mem_singleton.1 hy]; exact List.mem_of_getElem? HZ.out)).lt hq; have h2 := (hown.own.lt q e).1; omega⟩)
              skip
              skip
              skip
              have O12 := Lib.hid ow
              have R12 := Lib.hid (cells_grown R11.out hg NE.out)
              have NE : Hid ((Value.slice A3 ((j + (n - (j + 1))) + 1) c3).ownBlock ≠ some p1) := fun e => by
                rcases hn with hn | hn
                · exact NE.out (hn ▸ e)
                · rw [hn] at e; injection e with e; have := Cells.lt R11.out; omega
              clear ho hg hn hown bl hHeld
              clear L11 D11 R11 O11
              refine hK.out _ _ (HCJ.out _ D12.out) (fun hHeld => ?_)
              clear hK K
              (try simp only [Act.put, List.setIfInBounds_toArray, List.set_cons_zero, List.set_cons_succ])
              (first | (refine Reg.take 15 (v := ?_) rfl (by kernel_rfl) (by kernel_rfl) (by kernel_rfl) (fun _ _ _ h => h) (Or.inl ⟨by rfl, ?_⟩) (by assumption) ?_; rotate_left; (focus ((intro W hSW); (try dsimp only at hSW); (try go_split_ands); go_simp; (try (with_reducible rfl)); done))) | (refine Reg.take 15 (v := undef) rfl (by kernel_rfl) (by kernel_rfl) (by kernel_rfl) (fun _ _ _ h => h) (Or.inr ⟨by rfl, rfl⟩) (by assumption) ?_))
              (try simp only [Act.put, List.setIfInBounds_toArray, List.set_cons_zero, List.set_cons_succ])
              refine wpAnyH_done (by kernel_rfl) ?_ _
              clear hHeld
              clear R12 NE HCJ
              have hnn : j + (n - (j + 1)) + 1 = n := by omega
              rw [hnn] at O12
              rw [hnn]
              have OF := Lib.hid (⟨_, w7.heap.size, O12.out, by rw [List.map_append, List.map_append, List.map_take, List.map_drop, HP7.out]; exact HPERM.out, BLF.out⟩ : ∃ lf ob, OwnN 0 ob w12 (.slice A3 n c3) n lf ∧ lf.map Mx.p = WL ∧ ∀ x ∈ lf, ∀ q, Bl x q → q < w.heap.size)
              clear O12 hnn
              go_wp2_with fail
              obtain ⟨lf, ob, hof, hofp, hofb⟩ := OF.out
              have HOF := Lib.hid hof
              have HOP := Lib.hid hofp
              have HOB := Lib.hid hofb
              have N0 := Lib.hid (N8.out.below D12.out)
              have X0 := Lib.hid (Cells.below X8.out D12.out)
              have HWL : Hid (WL.length = n) := by show _ = _; rw [← hofp, List.length_map, hof.len]
              clear hof hofp hofb OF D12 X8 N8
              go_loopw [17, 18, 19, 20, 99] (fun _ _ _ _ i wr => ∃ (k : Nat) (R : Option Addr) (q dd : Nat) (ln : List Mx), i = .int .i64 k ∧ k ≤ n ∧ Hid (Below w.heap.size w wr ∧ NBox wr g cap R q dd ∧ NetAt wr R q dd ln ∧ ln.map Mx.p = WL.drop k ∧ OwnN 0 ob wr (.slice A3 n c3) n lf)) (fun _ _ _ _ i _ => n - (intOf i).toNat)
              case atStart => exact ⟨0, R8, n8, d8, l8, rfl, by omega, L12.out, X0.out, N0.out, HP8.out, HOF.out⟩
              case round =>
                obtain ⟨k, R, q, dd, ln, rfl, hk, hH⟩ := hrel
                have L1 := Lib.hid hH.out.1
                have X1 := Lib.hid hH.out.2.1
                have N1 := Lib.hid hH.out.2.2.1
                have HR := Lib.hid hH.out.2.2.2.1
                have O1 := Lib.hid hH.out.2.2.2.2
                have hqn : q = n - k := by
                  have h1 := congrArg List.length HR.out
                  rw [List.length_map, List.length_drop, HWL.out, N1.out.row.len] at h1
                  exact h1
                have HQN := Lib.hid hqn
                have hq200 : q ≤ 200 := by omega
                clear hH hqn
                by_cases hlt : k < n
                · have NW := Lib.hid (O1.out.net (by omega))
                  obtain ⟨z, hz, hzm⟩ := NW.out.get hlt
                  obtain ⟨b2, o2, hQ, hb2, hcs⟩ := NW.out.cells hz
                  obtain ⟨c0, c1, c2, c3, c4, c5⟩ := hcs wr (Below.refl _ _)
                  obtain ⟨x0, hx0, -⟩ := N1.out.get (i := 0) (by have := HQN.out; omega)
                  have hzp : WL[k]? = some z.p := by rw [← HOP.out, List.getElem?_map, hz]; rfl
                  have hx0p : x0.p = z.p := by
                    have h1 : (ln.map Mx.p)[0]? = some x0.p := by rw [List.getElem?_map, hx0]; rfl
                    rw [HR.out, List.getElem?_drop, Nat.add_zero, hzp] at h1
                    injection h1 with h1
                    exact h1.symm
                  have HT := fun W (h : Below wr.heap.size wr W) => Lib.hid (take_ok (cap := cap) (N1.out.below h) (by omega) hx0)
                  rw [HR.out, hx0p, show (WL.drop k).eraseIdx 0 = WL.drop (k + 1) by rw [List.eraseIdx_zero, List.tail_drop]] at HT
                  have HZM := Lib.hid hzm
                  subst hQ
                  have hk0 : (0 : Int) ≤ (k : Int) := by omega
                  have hkn : (k : Int) < (n : Int) := by omega
                  unfold nv at HT
                  clear hz hzm hcs hb2 hx0 hzp hx0p NW
                  go_upto_region 28 with fail
                  clear c0 c1 c2 c3 c4 c5
                  have bb : Below wr.heap.size wr (wr.alloc (.cells #[.int .i64 z.k, .int .i64 z.f, .int .i64 z.t, .int .i64 z.i, .slice z.A z.n z.c, .slice z.B z.m z.d] 39)) := (Below.refl _ wr).alloc (Nat.le_refl _) _
                  have L2 := Lib.hid (L1.out.trans (bb.mono L1.out.size))
                  have X2 := Lib.hid (Cells.below X1.out bb)
                  have O2 := Lib.hid (O1.out.below bb)
                  have P2 : Hid (MBox (wr.alloc (.cells #[.int .i64 z.k, .int .i64 z.f, .int .i64 z.t, .int .i64 z.i, .slice z.A z.n z.c, .slice z.B z.m z.d] 39)) wr.heap.size z) := Cells.new _ _ _
                  have HT := Lib.hid (HT _ bb).out
                  have Z2 := Lib.hid (HZM.out.below bb)
                  obtain ⟨p, hp⟩ : ∃ p, p = wr.heap.size := ⟨_, rfl⟩
                  rw [← hp] at P2
                  rw [← hp]
                  clear bb hp L1 X1 O1 HZM N1 HR
                  generalize wr.alloc (.cells #[.int .i64 z.k, .int .i64 z.f, .int .i64 z.t, .int .i64 z.i, .slice z.A z.n z.c, .slice z.B z.m z.d] 39) = w4 at *
                  obtain ⟨k0, k1⟩ := NBox.cells X2.out
                  go_upto_region 29 with (first | (go_at_call 30; refine HT.out.mono ?_; rintro e w5 ⟨Q2, n2, c2, l2, y, rfl, hO, hP2, hyp, hya, -, -, -, hb⟩; have L5 := Lib.hid (L2.out.trans (hb.mono L2.out.size)); have X5 := Lib.hid (Cells.below X2.out hb); have P5 := Lib.hid (Cells.below P2.out hb); have O5 := Lib.hid (O2.out.below hb); have Z5 := Lib.hid (Z2.out.below hb); have NO := Lib.hid (hO.net (by rw [← hO.len, ← List.length_map (f := Mx.p), hP2, List.length_drop, HWL.out]; omega)); have NBL : Hid (∀ x ∈ l2, ∀ q, Bl x q → q ≠ g) := (fun x hx q hq => by have h1 := hO.low x hx q hq; have h2 := Cells.lt X2.out; omega); have HO := Lib.hid hO; have HP2 := Lib.hid hP2; have HYP := Lib.hid hyp; have HYA := Lib.hid hya; (try unfold nv mxv); clear hb hO hP2 hyp hya k0 k1) | fail)
                  have A6 : Below w5.heap.size w5 ((w5.alloc (.cells #[.int .i64 (cap : Int), .slice Q2 n2 c2] 28)).alloc (.cells #[.int .i64 y.k, .int .i64 y.f, .int .i64 y.t, .int .i64 y.i, .slice y.A y.n y.c, .slice y.B y.m y.d] 39)) := ((Below.refl _ w5).alloc (Nat.le_refl _) _).alloc (by simp) _
                  have L6' := Lib.hid (L5.out.trans (A6.mono L5.out.size))
                  have X6' := Lib.hid (Cells.below X5.out A6)
                  have P6 := Lib.hid (Cells.below P5.out A6)
                  have O6 := Lib.hid (O5.out.below A6)
                  have T6 : Hid (NBox ((w5.alloc (.cells #[.int .i64 (cap : Int), .slice Q2 n2 c2] 28)).alloc (.cells #[.int .i64 y.k, .int .i64 y.f, .int .i64 y.t, .int .i64 y.i, .slice y.A y.n y.c, .slice y.B y.m y.d] 39)) w5.heap.size cap Q2 n2 c2) := Cells.alloc (Cells.new _ _ _) _
                  have Y6 : Hid (MBox ((w5.alloc (.cells #[.int .i64 (cap : Int), .slice Q2 n2 c2] 28)).alloc (.cells #[.int .i64 y.k, .int .i64 y.f, .int .i64 y.t, .int .i64 y.i, .slice y.A y.n y.c, .slice y.B y.m y.d] 39)) (w5.heap.size + 1) y) := by
                    have := Cells.new (w5.alloc (.cells #[.int .i64 (cap : Int), .slice Q2 n2 c2] 28)) #[.int .i64 y.k, .int .i64 y.f, .int .i64 y.t, .int .i64 y.i, .slice y.A y.n y.c, .slice y.B y.m y.d] 39
                    rw [World.size_alloc] at this
                    exact this
                  have HO6 := Lib.hid (HO.out.below A6)
                  have HSM := Lib.hid (sameMsg_any (HYA.out.below A6) (Z5.out.below A6))
                  rw [decide_eq_true HYP.out] at HSM
                  have GL : Hid (g < w5.heap.size) := Cells.lt X5.out
                  obtain ⟨g5, hg5⟩ : ∃ g5, g5 = w5.heap.size := ⟨_, rfl⟩
                  rw [← hg5] at T6 Y6 GL
                  rw [← hg5]
                  clear A6 hg5 L5 X5 P5 O5 HO HYA Z5 L2 X2 P2 O2 Z2
                  generalize ((w5.alloc (.cells #[.int .i64 (cap : Int), .slice Q2 n2 c2] 28)).alloc (.cells #[.int .i64 y.k, .int .i64 y.f, .int .i64 y.t, .int .i64 y.i, .slice y.A y.n y.c, .slice y.B y.m y.d] 39)) = w6' at *
                  obtain ⟨m0, m1, m2, m3, m4, m5⟩ := MBox.cells P6.out
                  obtain ⟨u0, u1, u2, u3, u4, u5⟩ := MBox.cells Y6.out
                  unfold mxv at HSM
                  go_upto_region 31 with (first | (go_at_call 19; refine HSM.out.mono ?_; rintro e w7' ⟨rfl, hb⟩; have L7' := Lib.hid (L6'.out.trans (hb.mono L6'.out.size)); have X7' := Lib.hid (Cells.below X6'.out hb); have T7' := Lib.hid (Cells.below T6.out hb); have O7' := Lib.hid (O6.out.below hb); have HO7 := Lib.hid (HO6.out.below hb); clear hb m0 m1 m2 m3 m4 m5 u0 u1 u2 u3 u4 u5) | fail)
                  obtain ⟨t0, t1⟩ := NBox.cells T7'.out
                  obtain ⟨x0', x1'⟩ := NBox.cells X7'.out
                  have f0 := Cells.frozen X7'.out 0
                  have f1 := Cells.frozen X7'.out 1
                  have bt := Mov.set2 w7' g (.int .i64 (cap : Int)) (.slice Q2 n2 c2)
                  have XF := Lib.hid (Cells.set2 X7'.out (.int .i64 (cap : Int)) (.slice Q2 n2 c2))
                  have LF := Lib.hid (L7'.out.trans (bt.up L7'.out.size EG.out))
                  have NF := Lib.hid ((HO7.out.mov X7'.out (by decide) NBL.out bt).net (by rw [← HO7.out.len, ← List.length_map (f := Mx.p), HP2.out, List.length_drop, HWL.out]; omega))
                  have OF := Lib.hid (O7'.out.mov X7'.out (by decide) (fun x hx q hq => by have h1 := HOB.out x hx q hq; have h2 := EG.out; omega) bt)
                  clear bt
                  go_wp2_with fail
                  go_roundw
                  case rel => exact ⟨k + 1, Q2, n2, c2, l2, by go_num, by omega, LF.out, XF.out, NF.out, HP2.out, OF.out⟩
                  case measure => simp [intOf]; omega
                · have hq0 : q = 0 := by have := HQN.out; omega
                  subst hq0
                  obtain ⟨k0, k1⟩ := NBox.cells X1.out
                  go_wp2_with fail
                  go_ret
                  exact ⟨by rfl, L1.out⟩
    · skip
      go_wp2_with fail
      go_ret
      exact ⟨by rfl, L2.out⟩
  · skip
    go_enter Try.func6, Try.ntmps6
    go_wp2_with fail
    refine HLV.out.mono ?_
    rintro e w1 ⟨rfl, hb⟩
    have L1 := Lib.hid hb
    clear hb HLV
    go_wp2_with fail
    refine (HBG _ (HM.out.below L1.out)).out.mono ?_
    rintro e w2 ⟨⟨b, rfl⟩, hb⟩
    have L2 := Lib.hid (L1.out.trans (hb.mono L1.out.size))
    clear hb HBG
    rcases b
    · skip
      go_wp2_with fail
      go_ret
      exact ⟨by rfl, L2.out⟩
    · skip
      go_wp2_with fail
      go_ret
      exact ⟨by rfl, L2.out⟩
end Net
end Go.Proofs.Ytamahknnppjegaa
