/-
  A WALK: the document's Give.
-/
import Derived.Test.YtjoemlifpbjdbaaSpaRefT
namespace Go.Proofs.Ytjoemlifpbjdbaa
open Go.RowKit Mem
namespace Spa

def hitB (o e : Int) (s : Sp) : Bool := decide (0 ≤ o) && (decide (0 ≤ s.own) && decide (e ≤ s.ep))
theorem stale_hit {ps : List Sp} {o e : Int} (h : May ps) (ho : mayOwn o e = true) : staleB ps o e = ps.any (hitB o e) := by
  unfold staleB hitB
  have e1 : (o != -1) = decide (0 ≤ o) := by
    rw [Bool.eq_iff_iff]
    have := mayOwn_iff.1 ho
    simp
    omega
  rw [e1]
  rcases decide (0 ≤ o)
  · simp
  · simp only [Bool.true_and]
    induction ps with
    | nil => rfl
    | cons s r ih =>
      rw [List.any_cons, List.any_cons, ih (fun x hx => h x (by simp [hx]))]
      have e2 : (s.own != -1) = decide (0 ≤ s.own) := by
        rw [Bool.eq_iff_iff]
        have := mayOwn_iff.1 (h s (by simp))
        simp
        omega
      rw [e2]
theorem set_snoc {l : List Sp} {k : Nat} {x : Sp} (hx : l[k]? = some x) (a b o e : Int) : (l.take (k + 1)).map (setS a b o e) = (l.take k).map (setS a b o e) ++ [setS a b o e x] := by
  rw [take_snoc hx, List.map_append]; rfl

set_option maxRecDepth 100000 in
set_option maxHeartbeats 12800000 in
theorem refGive_any {A : Option Addr} {n c : Nat} {l : List Sp} {w : World} (a b o e : Int) (h : RowL w A n c l) (hn : n ≤ 90000) :
    Calls Try.prog 15 #[.slice A n c, .int .i64 a, .int .i64 b, .int .i64 o, .int .i64 e] w (GaveS w (giveP l a b o e)) := by
  have HR := Lib.hid h
  have hbig := h.big
  have hlen := Lib.hid h.len
  have HPP := fun w (h : RowL w A n c l) => Lib.hid (refParts_any a b h (by omega))
  have HM := fun w => Lib.hid (owner_any o e w)
  clear h
  rcases hr : rangeB l a b
  · have HG : Hid (giveP l a b o e = ([], 1)) := by show _ = _; unfold giveP; rw [hr]; rfl
    have HP2 : Hid (partsP l a b = ([], 1)) := by show _ = _; unfold partsP; rw [hr]; rfl
    rw [HP2.out] at HPP
    go_enter Try.func15, Try.ntmps15
    go_wp2_with fail
    refine (HPP w HR.out).out.mono ?_
    rintro en w2 ⟨B, d, rfl, hO, hb⟩
    have L2 := Lib.hid hb
    clear hO hb
    go_wp2_with fail
    go_ret2
    rw [HG.out]
    exact GaveS.none_ L2.out
  · obtain ⟨hok, ha, hab, hbN⟩ := rangeB_iff.1 hr
    have HP2 : Hid (partsP l a b = (partsS l a b, 0)) := by show _ = _; unfold partsP; rw [hr]; rfl
    rw [HP2.out] at HPP
    rcases hm : mayOwn o e
    · have HG : Hid (giveP l a b o e = ([], 1)) := by show _ = _; unfold giveP; rw [hr, hm]; rfl
      rw [hm] at HM
      clear hok ha hab hbN
      go_enter Try.func15, Try.ntmps15
      go_wp2_with fail
      refine (HPP w HR.out).out.mono ?_
      rintro en w2 ⟨B, d, rfl, hO, hb⟩
      have L2 := Lib.hid hb
      clear hO hb
      go_wp2_with fail
      refine (HM w2).out.mono ?_
      rintro en w3 ⟨rfl, rfl⟩
      go_wp2_with fail
      go_ret2
      rw [HG.out]
      exact GaveS.none_ L2.out
    · have HG : Hid (giveP l a b o e = bif staleB (partsS l a b) o e then ([], 61) else (giveS l a b o e, 0)) := by show _ = _; unfold giveP; rw [hr, hm]; rfl
      have HST := Lib.hid (stale_hit (partsS_may (ok_may hok) a b) hm)
      have HGO := Lib.hid (given_ok (a := a) (b := b) hok hm)
      have HGJ := Lib.hid (given_join (o := o) (e := e) (ok_ch hok) ha hab hbN)
      have HCH := Lib.hid (ok_ch hok)
      have HPL := Lib.hid (partsS_len l a b)
      rw [hm] at HM
      clear hok ha hab hbN hr hm
      generalize hPS : partsS l a b = PS at *
      clear hPS
      go_enter Try.func15, Try.ntmps15
      go_wp2_with fail
      refine (HPP w HR.out).out.mono ?_
      rintro en w2 ⟨B, d, rfl, hO, hb⟩
      have L2 := Lib.hid hb
      have hpl : PS.length ≤ 90000 := by have := HPL.out; have := hlen.out; omega
      have R2 := Lib.hid (OwnsL.row hO (by show PS.length ≤ _; omega))
      clear hO hb HPP HPL HP2
      simp only at R2
      obtain ⟨pn, hpn⟩ : ∃ pn, PS.length = pn := ⟨_, rfl⟩
      rw [hpn] at R2 hpl
      have hplen := Lib.hid hpn
      simp only [hpn]
      clear hpn
      go_wp2_with fail
      refine (HM w2).out.mono ?_
      rintro en w3 ⟨rfl, rfl⟩
      clear HM
      go_wp2_with fail
      go_loopw [15, 36] (fun _ i wr => ∃ k : Nat, i = .int .i64 k ∧ k ≤ pn ∧ Hid (Below w3.heap.size w3 wr ∧ ∀ j x, j < k → PS[j]? = some x → hitB o e x = false)) (fun _ i _ => pn - (intOf i).toNat)
      case atStart => exact ⟨0, rfl, by omega, Below.refl _ _, fun j x hj => by omega⟩
      case round =>
        obtain ⟨k, rfl, hk, hH⟩ := hrel
        by_cases hlt : k < pn
        · obtain ⟨x, hx⟩ := R2.out.get hlt
          obtain ⟨g, q, hB, d0, d1, d2, d3⟩ := RowS.span_at (R2.out.below hH.out.1) hx
          subst hB
          have hk0 : (0 : Int) ≤ (k : Int) := by omega
          have hkn : (k : Int) < (pn : Int) := by omega
          have HX := Lib.hid hx
          clear hx
          have A1 : Hid (Below wr.heap.size wr (wr.alloc (.cells #[.int .i64 x.fr, .int .i64 x.to, .int .i64 x.own, .int .i64 x.ep] 32))) := (Below.refl _ wr).alloc (Nat.le_refl _) _
          have B1 : Hid (LBox (wr.alloc (.cells #[.int .i64 x.fr, .int .i64 x.to, .int .i64 x.own, .int .i64 x.ep] 32)) wr.heap.size x) := Cells.new _ _ _
          obtain ⟨n0, n1, n2, n3⟩ := LBox.cells B1.out
          go_upto_region 7 with fail
          generalize wr.alloc (.cells #[.int .i64 x.fr, .int .i64 x.to, .int .i64 x.own, .int .i64 x.ep] 32) = w1 at *
          clear d0 d1 d2 d3
          have L1 := Lib.hid (hH.out.1.trans (A1.out.mono hH.out.1.size))
          have NEXT : Hid (hitB o e x = false → ∀ j y, j < k + 1 → PS[j]? = some y → hitB o e y = false) := by
            show _ → _
            intro hf j y hj hy
            by_cases h1 : j = k
            · subst h1
              have := HX.out.symm.trans hy
              injection this with this; subst this; exact hf
            · exact hH.out.2 j y (by omega) hy
          rcases f1 : decide (0 ≤ o)
          · have HN := Lib.hid (NEXT.out (by unfold hitB; rw [f1]; rfl))
            go_wp2_with fail
            go_roundw
            case rel => exact ⟨k + 1, by go_num, by omega, L1.out, HN.out⟩
            case measure => simp [intOf]; omega
          · rcases f2 : decide (0 ≤ x.own)
            · have HN := Lib.hid (NEXT.out (by unfold hitB; rw [f1, f2]; rfl))
              go_wp2_with fail
              go_roundw
              case rel => exact ⟨k + 1, by go_num, by omega, L1.out, HN.out⟩
              case measure => simp [intOf]; omega
            · rcases f3 : decide (e ≤ x.ep)
              · have HN := Lib.hid (NEXT.out (by unfold hitB; rw [f1, f2, f3]; rfl))
                go_wp2_with fail
                go_roundw
                case rel => exact ⟨k + 1, by go_num, by omega, L1.out, HN.out⟩
                case measure => simp [intOf]; omega
              · have HS : Hid (staleB PS o e = true) := by
                  show _ = _
                  rw [HST.out]
                  exact List.any_eq_true.2 ⟨x, List.mem_of_getElem? HX.out, by unfold hitB; rw [f1, f2, f3]; rfl⟩
                go_wp2_with fail
                go_ret2
                rw [HG.out, HS.out]
                exact GaveS.none_ (L2.out.trans (L1.out.mono L2.out.size))
        · have HS : Hid (staleB PS o e = false) := by
            show _ = _
            rw [HST.out, List.any_eq_false]
            intro x hx
            obtain ⟨i, hi⟩ := List.mem_iff_getElem?.1 hx
            rw [hH.out.2 i x (by have := (List.getElem?_eq_some_iff.1 hi).1; have := hplen.out; omega) hi]; simp
          rw [HS.out, cond_false] at HG
          have LW := Lib.hid (L2.out.trans (hH.out.1.mono L2.out.size))
          clear HS HST hH hplen R2 L2
          have HC1 := Lib.hid (refcut_any a (HR.out.below LW.out) (by omega))
          go_wp2_with fail
          refine HC1.out.mono ?_
          rintro en w4 ⟨⟨B1, m1, d1, rfl, hO⟩, hb⟩
          have L4 := Lib.hid (LW.out.trans (hb.mono LW.out.size))
          have hm1 : m1 ≤ n + 1 := by rw [← hO.2]; have := cutS_len1 HCH.out a; have := hlen.out; omega
          have R4 := Lib.hid (OwnsL.row hO (by omega))
          clear hb hO HC1
          have HC2 := Lib.hid (refcut_any b R4.out (by omega))
          go_wp2_with fail
          refine HC2.out.mono ?_
          rintro en w5 ⟨⟨B2, m2, d2, rfl, hO⟩, hb⟩
          have L5 := Lib.hid (L4.out.trans (hb.mono L4.out.size))
          have hm2 : m2 ≤ n + 2 := by rw [← hO.2]; have := cutS_len1 (cutS_ch HCH.out a) b; have := R4.out.len; omega
          have R5 := Lib.hid (OwnsL.row hO (by omega))
          have hm2b := R5.out.big
          have hl5 := Lib.hid R5.out.len
          clear hb hO HC2 R4 hm1
          have HGV : Hid (given l a b o e = (cutS (cutS l a) b).map (setS a b o e)) := rfl
          generalize cutS (cutS l a) b = CL at *
          go_wp2_with fail
          go_loopw [16, 18, 60] (fun s _ i wr => ∃ (k : Nat) (X : Option Addr) (q f : Nat), i = .int .i64 k ∧ s = .slice X q f ∧ k ≤ m2 ∧ q ≤ k ∧ Hid (Below w5.heap.size w5 wr ∧ OwnsL w5.heap.size wr (.slice X q f) q ((CL.take k).map (setS a b o e)))) (fun _ _ i _ => m2 - (intOf i).toNat)
          case atStart => exact ⟨0, none, 0, 0, rfl, rfl, by omega, by omega, Below.refl _ _, OwnsL.nil _ _⟩
          case round =>
            obtain ⟨k, X, q, f, rfl, rfl, hk, hq, hH⟩ := hrel
            by_cases hlt : k < m2
            · obtain ⟨x, hx⟩ := R5.out.get hlt
              obtain ⟨g, u, hB, d0, d1, d2, d3⟩ := RowS.span_at (R5.out.below hH.out.1) hx
              subst hB
              have hk0 : (0 : Int) ≤ (k : Int) := by omega
              have hkn : (k : Int) < (m2 : Int) := by omega
              have hqk : q ≤ 1000000 := by omega
              have HW := Lib.hid (set_snoc hx a b o e)
              clear hx
              have A1 : Hid (Below wr.heap.size wr (wr.alloc (.cells #[.int .i64 x.fr, .int .i64 x.to, .int .i64 x.own, .int .i64 x.ep] 32))) := (Below.refl _ wr).alloc (Nat.le_refl _) _
              have B1 : Hid (LBox (wr.alloc (.cells #[.int .i64 x.fr, .int .i64 x.to, .int .i64 x.own, .int .i64 x.ep] 32)) wr.heap.size x) := Cells.new _ _ _
              have N1 : Hid (w5.heap.size ≤ wr.heap.size) := hH.out.1.size
              have OFX := Lib.hid (OwnsL.off hH.out.2 (Nat.le_refl _))
              obtain ⟨n0, n1, n2, n3⟩ := LBox.cells B1.out
              go_upto_region 14 with fail
              generalize wr.alloc (.cells #[.int .i64 x.fr, .int .i64 x.to, .int .i64 x.own, .int .i64 x.ep] 32) = w1 at *
              clear d0 d1 d2 d3
              have M1 := Lib.hid (hH.out.1.trans (A1.out.mono hH.out.1.size))
              have L1 := Lib.hid (L5.out.trans (M1.out.mono L5.out.size))
              have X1 := Lib.hid (OwnsL.below hH.out.2 A1.out)
              rcases f1 : decide (a ≤ x.fr)
              · have hff : (decide (a ≤ x.fr) && decide (x.to ≤ b)) = false := by rw [f1]; rfl
                have HF : Hid (setS a b o e x = x) := by show _ = _; unfold setS; rw [hff]; rfl
                rw [HF.out] at HW
                have A3 : Hid (Below w1.heap.size w1 (w1.alloc (.cells #[.int .i64 x.fr, .int .i64 x.to, .int .i64 x.own, .int .i64 x.ep] 32))) := (Below.refl _ w1).alloc (Nat.le_refl _) _
                have B3 : Hid (LBox (w1.alloc (.cells #[.int .i64 x.fr, .int .i64 x.to, .int .i64 x.own, .int .i64 x.ep] 32)) w1.heap.size x) := Cells.new _ _ _
                have X3 := Lib.hid (OwnsL.alloc X1.out (.cells #[.int .i64 x.fr, .int .i64 x.to, .int .i64 x.own, .int .i64 x.ep] 32))
                have LL : Hid (Below w.heap.size w (w1.alloc (.cells #[.int .i64 x.fr, .int .i64 x.to, .int .i64 x.own, .int .i64 x.ep] 32))) := L1.out.alloc L1.out.size _
                have MM : Hid (Below w5.heap.size w5 (w1.alloc (.cells #[.int .i64 x.fr, .int .i64 x.to, .int .i64 x.own, .int .i64 x.ep] 32))) := M1.out.alloc M1.out.size _
                go_wp2_with (at_builtin
                             refine wpList_append_l rfl (.tmp 78) (.tmp 80) rfl rfl w5.heap.size _ q _ rfl X3.out _ 1 1 [x] rfl (RowS.one B3.out) (by omega) MM.out.size ?_
                             intro A' c' w' h1 h2 h3
                             have L6 := Lib.hid (MM.out.trans (below_row X3.out h2 MM.out.size))
                             have O6 := Lib.hid h1
                             clear h1 h2 h3)
                go_roundw
                case rel => exact ⟨k + 1, A', q + 1, c', by go_num, rfl, by omega, by omega, L6.out, by rw [HW.out]; exact O6.out⟩
                case measure => simp [intOf]; omega
              · rcases f2 : decide (x.to ≤ b)
                · have hff : (decide (a ≤ x.fr) && decide (x.to ≤ b)) = false := by rw [f1, f2]; rfl
                  have HF : Hid (setS a b o e x = x) := by show _ = _; unfold setS; rw [hff]; rfl
                  rw [HF.out] at HW
                  have A3 : Hid (Below w1.heap.size w1 (w1.alloc (.cells #[.int .i64 x.fr, .int .i64 x.to, .int .i64 x.own, .int .i64 x.ep] 32))) := (Below.refl _ w1).alloc (Nat.le_refl _) _
                  have B3 : Hid (LBox (w1.alloc (.cells #[.int .i64 x.fr, .int .i64 x.to, .int .i64 x.own, .int .i64 x.ep] 32)) w1.heap.size x) := Cells.new _ _ _
                  have X3 := Lib.hid (OwnsL.alloc X1.out (.cells #[.int .i64 x.fr, .int .i64 x.to, .int .i64 x.own, .int .i64 x.ep] 32))
                  have LL : Hid (Below w.heap.size w (w1.alloc (.cells #[.int .i64 x.fr, .int .i64 x.to, .int .i64 x.own, .int .i64 x.ep] 32))) := L1.out.alloc L1.out.size _
                  have MM : Hid (Below w5.heap.size w5 (w1.alloc (.cells #[.int .i64 x.fr, .int .i64 x.to, .int .i64 x.own, .int .i64 x.ep] 32))) := M1.out.alloc M1.out.size _
                  go_wp2_with (at_builtin
                               refine wpList_append_l rfl (.tmp 78) (.tmp 80) rfl rfl w5.heap.size _ q _ rfl X3.out _ 1 1 [x] rfl (RowS.one B3.out) (by omega) MM.out.size ?_
                               intro A' c' w' h1 h2 h3
                               have L6 := Lib.hid (MM.out.trans (below_row X3.out h2 MM.out.size))
                               have O6 := Lib.hid h1
                               clear h1 h2 h3)
                  go_roundw
                  case rel => exact ⟨k + 1, A', q + 1, c', by go_num, rfl, by omega, by omega, L6.out, by rw [HW.out]; exact O6.out⟩
                  case measure => simp [intOf]; omega
                · have HF : Hid (setS a b o e x = ⟨x.fr, x.to, o, e⟩) := by show _ = _; unfold setS; rw [f1, f2]; rfl
                  rw [HF.out] at HW
                  obtain ⟨p, hp⟩ : ∃ p, wr.heap.size = p := ⟨_, rfl⟩
                  rw [hp] at B1 OFX N1 n0 n1 n2 n3
                  (try simp only [hp])
                  obtain ⟨z0, z1, z2, z3⟩ := LBox.frozen B1.out
                  have Q6 : Hid (LBox ((w1.setCell ⟨p, 2, none⟩ (.int .i64 o)).setCell ⟨p, 3, none⟩ (.int .i64 e)) p ⟨x.fr, x.to, o, e⟩) := Cells.set_ (Cells.set_ B1.out 2 (.int .i64 o)) 3 (.int .i64 e)
                  have M6 : Hid (Below w5.heap.size w5 ((w1.setCell ⟨p, 2, none⟩ (.int .i64 o)).setCell ⟨p, 3, none⟩ (.int .i64 e))) := belowk (belowk M1.out N1.out _ _) N1.out _ _
                  have BU : But p w1 ((w1.setCell ⟨p, 2, none⟩ (.int .i64 o)).setCell ⟨p, 3, none⟩ (.int .i64 e)) := (But.set1 _ _ _ _).trans (But.set1 _ _ _ _)
                  have X6 : Hid (OwnsL w5.heap.size ((w1.setCell ⟨p, 2, none⟩ (.int .i64 o)).setCell ⟨p, 3, none⟩ (.int .i64 e)) (.slice X q f) q ((CL.take k).map (setS a b o e))) := OwnsL.kept X1.out BU.by_ (.inr OFX.out)
                  clear BU
                  go_upto_region 17 with fail
                  (try simp only [hp])
                  clear n0 n1 n2 n3 z0 z1 z2 z3 M1 L1 X1 B1 A1
                  generalize (w1.setCell ⟨p, 2, none⟩ (.int .i64 o)).setCell ⟨p, 3, none⟩ (.int .i64 e) = w6 at *
                  obtain ⟨n0, n1, n2, n3⟩ := LBox.cells Q6.out
                  have M7 : Hid (Below w5.heap.size w5 (w6.alloc (.cells #[.int .i64 x.fr, .int .i64 x.to, .int .i64 o, .int .i64 e] 32))) := M6.out.alloc M6.out.size _
                  have B7 : Hid (LBox (w6.alloc (.cells #[.int .i64 x.fr, .int .i64 x.to, .int .i64 o, .int .i64 e] 32)) w6.heap.size ⟨x.fr, x.to, o, e⟩) := Cells.new _ _ _
                  have X7 := Lib.hid (OwnsL.alloc X6.out (.cells #[.int .i64 x.fr, .int .i64 x.to, .int .i64 o, .int .i64 e] 32))
                  go_wp2_with (at_builtin
                               refine wpList_append_l rfl (.tmp 78) (.tmp 80) rfl rfl w5.heap.size _ q _ rfl X7.out _ 1 1 [⟨x.fr, x.to, o, e⟩] rfl (RowS.one B7.out) (by omega) M7.out.size ?_
                               intro A' c' w' h1 h2 h3
                               have L8 := Lib.hid (M7.out.trans (below_row X7.out h2 M7.out.size))
                               have O8 := Lib.hid h1
                               clear h1 h2 h3)
                  go_roundw
                  case rel => exact ⟨k + 1, A', q + 1, c', by go_num, rfl, by omega, by omega, L8.out, by rw [HW.out]; exact O8.out⟩
                  case measure => simp [intOf]; omega
            · have hkn : CL.take k = CL := List.take_of_length_le (by have := hl5.out; omega)
              have h := hH.out
              rw [hkn, ← HGV.out] at h
              have HE := Lib.hid h
              clear h hkn hH
              have L9 := Lib.hid (L5.out.trans (HE.out.1.mono L5.out.size))
              have hge := HE.out.2.2
              have HJ := Lib.hid (refJoin_any (OwnsL.row HE.out.2 (by omega)) (by omega))
              have HJP : Hid (joinP (given l a b o e) = (giveS l a b o e, 0)) := by show _ = _; unfold joinP; rw [HGO.out, cond_true, HGJ.out]
              rw [HJP.out, ← HG.out] at HJ
              clear hge
              go_wp2_with fail
              refine HJ.out.mono ?_
              rintro en w9 ⟨B9, d9, rfl, hO, hb⟩
              have HFIN : Hid (GaveS w (giveP l a b o e) (.returned (.tuple #[.slice B9 (giveP l a b o e).1.length d9, .int .i64 (giveP l a b o e).2])) w9) := ⟨B9, d9, rfl, hO.mono L9.out.size, L9.out.trans (hb.mono L9.out.size)⟩
              clear hO hb HJ
              generalize giveP l a b o e = gp at *
              go_wp2_with fail
              go_ret2
              exact HFIN.out
end Spa
end Go.Proofs.Ytjoemlifpbjdbaa
