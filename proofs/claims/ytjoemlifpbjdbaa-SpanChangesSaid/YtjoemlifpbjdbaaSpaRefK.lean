/-
  A WALK: the document's Take.
-/
import Derived.Test.YtjoemlifpbjdbaaSpaRefP
import Derived.Test.YtjoemlifpbjdbaaSpaJoinR
namespace Go.Proofs.Ytjoemlifpbjdbaa
open Go.RowKit Mem
namespace Spa

theorem map_snoc {l : List Sp} {k : Nat} {x : Sp} (hx : l[k]? = some x) (o : Int) : (l.take (k + 1)).map (freeS o) = (l.take k).map (freeS o) ++ [freeS o x] := by
  rw [take_snoc hx, List.map_append]; rfl

set_option maxRecDepth 100000 in
set_option maxHeartbeats 6400000 in
theorem refTake_any {A : Option Addr} {n c : Nat} {l : List Sp} {w : World} (o : Int) (h : RowL w A n c l) (hn : n ≤ 400000) :
    Calls Try.prog 17 #[.slice A n c, .int .i64 o] w (GaveSS w (takeP l o)) := by
  have HR := Lib.hid h
  have hbig := h.big
  have hlen := Lib.hid h.len
  clear h
  unfold takeP
  rcases hok : okS l
  · have HC := fun w (h : RowL w A n c l) => Lib.hid (refCheck_badT h hok)
    go_enter Try.func17, Try.ntmps17
    go_wp2_with fail
    refine (HC w HR.out).out.mono ?_
    rintro e w2 ⟨rfl, hb⟩
    have L2 := Lib.hid hb
    clear hb
    go_wp2_with fail
    go_ret3
    exact GaveSS.none_ L2.out
  · have HC := fun w (h : RowL w A n c l) => Lib.hid (refCheck_okT h hok)
    have HFO := Lib.hid (free_ok hok o)
    clear hok
    unfold hostB
    rcases e1 : decide (o < 0)
    · rw [decide_eq_true (show 0 ≤ o by have := of_decide_eq_false e1; omega)]
      rcases e2 : decide (8 ≤ o)
      · rw [decide_eq_true (show o < 8 by have := of_decide_eq_false e2; omega)]
        go_enter Try.func17, Try.ntmps17
        go_wp2_with fail
        refine (HC w HR.out).out.mono ?_
        rintro e w2 ⟨rfl, hb⟩
        have L2 := Lib.hid hb
        clear hb HC
        go_wp2_with fail
        go_loopw [7, 8, 10, 24] (fun s t _ i wr => ∃ (k : Nat) (X : Option Addr) (a f : Nat) (Y : Option Addr) (b g : Nat), i = .int .i64 k ∧ s = .slice X a f ∧ t = .slice Y b g ∧ k ≤ n ∧ a ≤ k ∧ b ≤ k ∧ Hid (Below w.heap.size w wr ∧ OwnsL w.heap.size wr (.slice X a f) a ((l.take k).map (freeS o)) ∧ OwnsL w.heap.size wr (.slice Y b g) b (wereS (l.take k) o) ∧ Far (.slice X a f) (.slice Y b g))) (fun _ _ _ i _ => n - (intOf i).toNat)
        case atStart => exact ⟨0, none, 0, 0, none, 0, 0, rfl, rfl, rfl, by omega, by omega, by omega, L2.out, OwnsL.nil _ _, OwnsL.nil _ _, .inl rfl⟩
        case round =>
          obtain ⟨k, X, a, f, Y, b, g, rfl, rfl, rfl, hk, ha, hb, hH⟩ := hrel
          by_cases hlt : k < n
          · obtain ⟨x, hx⟩ := HR.out.get hlt
            obtain ⟨u, q, hA, d0, d1, d2, d3⟩ := RowS.span_at (HR.out.below hH.out.1) hx
            subst hA
            have hk0 : (0 : Int) ≤ (k : Int) := by omega
            have hkn : (k : Int) < (n : Int) := by omega
            have hak : a ≤ 1000000 := by omega
            have hbk : b ≤ 1000000 := by omega
            have HM := Lib.hid (map_snoc hx o)
            have HWE := Lib.hid (were_snoc hx o)
            clear hx
            have A1 : Hid (Below wr.heap.size wr (wr.alloc (.cells #[.int .i64 x.fr, .int .i64 x.to, .int .i64 x.own, .int .i64 x.ep] 32))) := (Below.refl _ wr).alloc (Nat.le_refl _) _
            have B1 : Hid (LBox (wr.alloc (.cells #[.int .i64 x.fr, .int .i64 x.to, .int .i64 x.own, .int .i64 x.ep] 32)) wr.heap.size x) := Cells.new _ _ _
            obtain ⟨n0, n1, n2, n3⟩ := LBox.cells B1.out
            go_upto_region 8 with fail
            generalize wr.alloc (.cells #[.int .i64 x.fr, .int .i64 x.to, .int .i64 x.own, .int .i64 x.ep] 32) = w1 at *
            clear d0 d1 d2 d3
            have L1 := Lib.hid (hH.out.1.trans (A1.out.mono hH.out.1.size))
            have X1 := Lib.hid (OwnsL.below hH.out.2.1 A1.out)
            have Y1 := Lib.hid (OwnsL.below hH.out.2.2.1 A1.out)
            have OFX := Lib.hid (OwnsL.off hH.out.2.1 (Nat.le_refl _))
            have OFY := Lib.hid (OwnsL.off hH.out.2.2.1 (Nat.le_refl _))
            have FXY := Lib.hid hH.out.2.2.2
            have HSW := Lib.hid hH.out.1.size
            have A3 : Hid (Below w.heap.size w (w1.alloc (.cells #[.int .i64 x.fr, .int .i64 x.to, .int .i64 x.own, .int .i64 x.ep] 32))) := L1.out.alloc L1.out.size _
            have B3 : Hid (LBox (w1.alloc (.cells #[.int .i64 x.fr, .int .i64 x.to, .int .i64 x.own, .int .i64 x.ep] 32)) w1.heap.size x) := Cells.new _ _ _
            have Q3 := Lib.hid (Cells.alloc B1.out (.cells #[.int .i64 x.fr, .int .i64 x.to, .int .i64 x.own, .int .i64 x.ep] 32))
            have X3 := Lib.hid (OwnsL.alloc X1.out (.cells #[.int .i64 x.fr, .int .i64 x.to, .int .i64 x.own, .int .i64 x.ep] 32))
            have Y3 := Lib.hid (OwnsL.alloc Y1.out (.cells #[.int .i64 x.fr, .int .i64 x.to, .int .i64 x.own, .int .i64 x.ep] 32))
            rcases f1 : (x.own == o)
            · have HF : Hid (freeS o x = x) := by show _ = _; unfold freeS; rw [f1]; rfl
              rw [HF.out] at HM
              rw [f1, cond_false, List.append_nil] at HWE
              go_wp2_with (at_builtin
                           refine wpList_append_l rfl (.tmp 38) (.tmp 40) rfl rfl w.heap.size _ a _ rfl X3.out _ 1 1 [x] rfl (RowS.one B3.out) (by omega) A3.out.size ?_
                           intro A' c' w' h1 h2 h3
                           have L5 := Lib.hid (A3.out.trans (below_row X3.out h2 A3.out.size))
                           have O5 := Lib.hid h1
                           have Y5 := Lib.hid (OwnsL.kept Y3.out h2 FXY.out.symm)
                           have F5 : Hid (Far (.slice A' (a + 1) c') (.slice Y b g)) := Far.step FXY.out Y3.out h3
                           clear h1 h2 h3)
              go_roundw
              case rel => exact ⟨k + 1, A', a + 1, c', Y, b, g, by go_num, rfl, rfl, by omega, by omega, by omega, L5.out, by rw [HM.out]; exact O5.out, by rw [HWE.out]; exact Y5.out, F5.out⟩
              case measure => simp [intOf]; omega
            · have HF : Hid (freeS o x = ⟨x.fr, x.to, -1, 0⟩) := by show _ = _; unfold freeS; rw [f1]; rfl
              rw [HF.out] at HM
              rw [f1, cond_true] at HWE
              have HLT : Hid (wr.heap.size < w1.heap.size) := Cells.lt B1.out
              go_upto_region 10 with (at_builtin
                                      refine wpList_append_l rfl (.tmp 32) (.tmp 34) rfl rfl w.heap.size _ b _ rfl Y3.out _ 1 1 [x] rfl (RowS.one B3.out) (by omega) A3.out.size ?_
                                      intro A' c' w' h1 h2 h3
                                      have L5 := Lib.hid (A3.out.trans (below_row Y3.out h2 A3.out.size))
                                      have Y5 := Lib.hid h1
                                      have X5 := Lib.hid (OwnsL.kept X3.out h2 FXY.out)
                                      have Q5 := Lib.hid (Cells.grown Q3.out h2 OFY.out)
                                      have F5 : Hid (Far (.slice A' (b + 1) c') (.slice X a f)) := Far.step FXY.out.symm X3.out h3
                                      have G5 : Hid ((Value.slice A' (b + 1) c').ownBlock ≠ some wr.heap.size) := by
                                        show _ ≠ _
                                        rcases h3 with h3 | h3
                                        · rw [h3]; exact OFY.out
                                        · rw [h3]; intro e; injection e with e; have := HLT.out; simp at e; omega
                                      clear h1 h2 h3)
              clear n0 n1 n2 n3 A3 B3 Q3 X3 Y3 X1 Y1 L1 B1 A1 OFY FXY HLT hH
              obtain ⟨p, hp⟩ : ∃ p, wr.heap.size = p := ⟨_, rfl⟩
              rw [hp] at Q5 G5 OFX HSW
              obtain ⟨n0, n1, n2, n3⟩ := LBox.cells Q5.out
              obtain ⟨z0, z1, z2, z3⟩ := LBox.frozen Q5.out
              have Q6 : Hid (LBox ((w'.setCell ⟨p, 2, none⟩ (.int .i64 (-1))).setCell ⟨p, 3, none⟩ (.int .i64 0)) p ⟨x.fr, x.to, -1, 0⟩) := Cells.set_ (Cells.set_ Q5.out 2 (.int .i64 (-1))) 3 (.int .i64 0)
              have L6 : Hid (Below w.heap.size w ((w'.setCell ⟨p, 2, none⟩ (.int .i64 (-1))).setCell ⟨p, 3, none⟩ (.int .i64 0))) := belowk (belowk L5.out HSW.out _ _) HSW.out _ _
              have BU : But p w' ((w'.setCell ⟨p, 2, none⟩ (.int .i64 (-1))).setCell ⟨p, 3, none⟩ (.int .i64 0)) := (But.set1 _ _ _ _).trans (But.set1 _ _ _ _)
              have X6 : Hid (OwnsL w.heap.size ((w'.setCell ⟨p, 2, none⟩ (.int .i64 (-1))).setCell ⟨p, 3, none⟩ (.int .i64 0)) (.slice X a f) a ((l.take k).map (freeS o))) := OwnsL.kept X5.out BU.by_ (.inr OFX.out)
              have Y6 : Hid (OwnsL w.heap.size ((w'.setCell ⟨p, 2, none⟩ (.int .i64 (-1))).setCell ⟨p, 3, none⟩ (.int .i64 0)) (.slice A' (b + 1) c') (b + 1) (wereS (l.take k) o ++ [x])) := OwnsL.kept Y5.out BU.by_ (.inr G5.out)
              clear BU
              (try simp only [hp])
              go_upto_region 12 with fail
              (try simp only [hp])
              clear n0 n1 n2 n3 z0 z1 z2 z3 L5 Y5 X5 Q5 G5
              generalize (w'.setCell ⟨p, 2, none⟩ (.int .i64 (-1))).setCell ⟨p, 3, none⟩ (.int .i64 0) = w6 at *
              obtain ⟨n0, n1, n2, n3⟩ := LBox.cells Q6.out
              have A7 : Hid (Below w.heap.size w (w6.alloc (.cells #[.int .i64 x.fr, .int .i64 x.to, .int .i64 (-1), .int .i64 0] 32))) := L6.out.alloc L6.out.size _
              have B7 : Hid (LBox (w6.alloc (.cells #[.int .i64 x.fr, .int .i64 x.to, .int .i64 (-1), .int .i64 0] 32)) w6.heap.size ⟨x.fr, x.to, -1, 0⟩) := Cells.new _ _ _
              have X7 := Lib.hid (OwnsL.alloc X6.out (.cells #[.int .i64 x.fr, .int .i64 x.to, .int .i64 (-1), .int .i64 0] 32))
              have Y7 := Lib.hid (OwnsL.alloc Y6.out (.cells #[.int .i64 x.fr, .int .i64 x.to, .int .i64 (-1), .int .i64 0] 32))
              go_wp2_with (at_builtin
                           refine wpList_append_l rfl (.tmp 38) (.tmp 40) rfl rfl w.heap.size _ a _ rfl X7.out _ 1 1 [⟨x.fr, x.to, -1, 0⟩] rfl (RowS.one B7.out) (by omega) A7.out.size ?_
                           intro A2 c2 w8 h1 h2 h3
                           have L8 := Lib.hid (A7.out.trans (below_row X7.out h2 A7.out.size))
                           have X8 := Lib.hid h1
                           have Y8 := Lib.hid (OwnsL.kept Y7.out h2 F5.out)
                           have F8 : Hid (Far (.slice A2 (a + 1) c2) (.slice A' (b + 1) c')) := Far.step F5.out.symm Y7.out h3
                           clear h1 h2 h3)
              go_roundw
              case rel => exact ⟨k + 1, A2, a + 1, c2, A', b + 1, c', by go_num, rfl, rfl, by omega, by omega, by omega, L8.out, by rw [HM.out]; exact X8.out, by rw [HWE.out]; exact Y8.out, F8.out⟩
              case measure => simp [intOf]; omega
          · have hkn : l.take k = l := List.take_of_length_le (by have := hlen.out; omega)
            have h := hH.out
            rw [hkn] at h
            have RX := Lib.hid (OwnsL.row h.2.1 (by omega))
            have RY := Lib.hid (OwnsL.row h.2.2.1 (by omega))
            have L9 := Lib.hid h.1
            clear h hkn hH
            have HJ := Lib.hid (refJoin_any RX.out (by omega))
            have HJP : Hid (joinP (l.map (freeS o)) = (takeS l o, 0)) := by show _ = _; unfold joinP; rw [HFO.out]; rfl
            rw [HJP.out] at HJ
            have hjl := Lib.hid (joinF_len [] (l.map (freeS o)))
            go_wp2_with fail
            refine HJ.out.mono ?_
            rintro e w9 ⟨B, d, rfl, hO, hb⟩
            have LA := Lib.hid (L9.out.trans (hb.mono L9.out.size))
            have RA := Lib.hid (OwnsL.row hO (by have := hjl.out; have := hlen.out; simp only [List.length_map, List.length_nil] at *; show (joinF [] _).length ≤ _; omega))
            have RB := Lib.hid (RowS.below RY.out hb)
            clear hb hO HJ
            go_wp2_with fail
            go_ret3
            exact GaveSS.of RA.out RB.out LA.out
      · rw [decide_eq_false (show ¬ o < 8 by have := of_decide_eq_true e2; omega), Bool.and_false]
        go_enter Try.func17, Try.ntmps17
        go_wp2_with fail
        refine (HC w HR.out).out.mono ?_
        rintro e w2 ⟨rfl, hb⟩
        have L2 := Lib.hid hb
        clear hb
        go_wp2_with fail
        go_ret3
        exact GaveSS.none_ L2.out
    · rw [decide_eq_false (show ¬ 0 ≤ o by have := of_decide_eq_true e1; omega), Bool.false_and]
      go_enter Try.func17, Try.ntmps17
      go_wp2_with fail
      refine (HC w HR.out).out.mono ?_
      rintro e w2 ⟨rfl, hb⟩
      have L2 := Lib.hid hb
      clear hb
      go_wp2_with fail
      go_ret3
      exact GaveSS.none_ L2.out
end Spa
end Go.Proofs.Ytjoemlifpbjdbaa
