/-
  THE STATEMENT SpanChanges: any spans cut, joined, given, and taken; those handed in stay as they were. For every input.
-/
import Derived.Test.YtjoemlifpbjdbaaSpaLive
import Derived.Test.YtjoemlifpbjdbaaSpaCut
import Derived.Test.YtjoemlifpbjdbaaSpaRefG
import Derived.Test.YtjoemlifpbjdbaaSpaRefK
import Derived.Test.YtjoemlifpbjdbaaSpaStale
import Derived.BigQuiet
namespace Go.Proofs.Ytjoemlifpbjdbaa
open Go.ChangeShapes Go.WideShapes Go.ChangeAt Go.RowKit Mem
namespace Spa

theorem cutP_len {l : List Sp} {ps : List Int} : (cutP l ps).1.length ≤ l.length + ps.length := by
  unfold cutP
  rcases e : (okS l && !atB l ps)
  · exact Nat.zero_le _
  · simp only [Bool.and_eq_true] at e
    exact cutsS_len (ok_ch e.1) ps
theorem joinP_len (l : List Sp) : (joinP l).1.length ≤ l.length := by
  unfold joinP
  rcases e : okS l
  · exact Nat.zero_le _
  · have := joinF_len [] l
    show (joinF [] l).length ≤ _
    simpa using this
theorem giveP_len (l : List Sp) (a b o e : Int) : (giveP l a b o e).1.length ≤ 2 * l.length + 1 := by
  rcases giveP_cases l a b o e with ⟨h, -⟩ | h | ⟨h, -⟩ <;> rw [h]
  · exact Nat.zero_le _
  · exact Nat.zero_le _
  · exact giveS_len l a b o e
theorem takeP_len (l : List Sp) (o : Int) : (takeP l o).1.length ≤ l.length ∧ (takeP l o).2.1.length ≤ l.length := by
  unfold takeP
  rcases e : (okS l && hostB o)
  · exact ⟨Nat.zero_le _, Nat.zero_le _⟩
  · have := joinF_len [] (l.map (freeS o))
    refine ⟨?_, List.length_filter_le _ _⟩
    show (joinF [] (l.map (freeS o))).length ≤ _
    simpa using this

set_option maxRecDepth 100000 in
set_option maxHeartbeats 25600000 in
theorem spanChanges_walk {A B : Option Addr} {n c m d : Nat} {l : List Sp} {ps : List Int} {w : World} (a b o e : Int) (h : RowL w A n c l) (h2 : Row ci w B m d ps) :
    Calls Try.prog 3 #[.slice A n c, .slice B m d, .int .i64 a, .int .i64 b, .int .i64 o, .int .i64 e] w fun en w' => en = .returned (.bool true) ∧ Below w.heap.size w w' := by
  have HR := Lib.hid h
  have HS := Lib.hid h2
  have hbig := h.big
  have hbig2 := h2.big
  have hlen := Lib.hid h.len
  have hlps := Lib.hid h2.len
  clear h h2
  rcases f1 : decide ((200 : Int) < (n : Int))
  · rcases f2 : decide ((100 : Int) < (m : Int))
    · have hn : n ≤ 200 := by have := of_decide_eq_false f1; omega
      have hm : m ≤ 100 := by have := of_decide_eq_false f2; omega
      have HCU := fun w (h : RowL w A n c l) (h2 : Row ci w B m d ps) => Lib.hid (cut_any h h2 (by omega) (by omega))
      have HCR := fun w (h : RowL w A n c l) (h2 : Row ci w B m d ps) => Lib.hid (refCut_any h h2 (by omega) (by omega))
      have HJU := fun w (h : RowL w A n c l) => Lib.hid (join_any h (by omega))
      have HJR := fun w (h : RowL w A n c l) => Lib.hid (refJoin_any h (by omega))
      have HGU := fun w (h : RowL w A n c l) => Lib.hid (give_any a b o e h (by omega))
      have HGR := fun w (h : RowL w A n c l) => Lib.hid (refGive_any a b o e h (by omega))
      have HTU := fun w (h : RowL w A n c l) => Lib.hid (take_any o h (by omega))
      have HTR := fun w (h : RowL w A n c l) => Lib.hid (refTake_any o h (by omega))
      have k1 := cutP_len (l := l) (ps := ps)
      have k2 := joinP_len l
      have k3 := giveP_len l a b o e
      have k4 := takeP_len l o
      have hl := hlen.out
      have hp := hlps.out
      rcases hcp : cutP l ps with ⟨cl, ce⟩
      rcases hjp : joinP l with ⟨jl, je⟩
      rcases hgp : giveP l a b o e with ⟨gl, ge⟩
      rcases htp : takeP l o with ⟨tl, wl, te⟩
      rw [hcp] at HCU HCR k1
      rw [hjp] at HJU HJR k2
      rw [hgp] at HGU HGR k3
      rw [htp] at HTU HTR k4
      simp only at k1 k2 k3 k4
      obtain ⟨cn, hcn⟩ : ∃ q, cl.length = q := ⟨_, rfl⟩
      obtain ⟨jn, hjn⟩ : ∃ q, jl.length = q := ⟨_, rfl⟩
      obtain ⟨gn, hgn⟩ : ∃ q, gl.length = q := ⟨_, rfl⟩
      obtain ⟨tn, htn⟩ : ∃ q, tl.length = q := ⟨_, rfl⟩
      obtain ⟨wn, hwn⟩ : ∃ q, wl.length = q := ⟨_, rfl⟩
      have c1 : cn ≤ 1000 := by omega
      have c2 : jn ≤ 1000 := by omega
      have c3 : gn ≤ 1000 := by omega
      have c4 : tn ≤ 1000 := by omega
      have c5 : wn ≤ 1000 := by omega
      clear k1 k2 k3 k4 hl hp hcp hjp hgp htp
      go_enter Try.func3, Try.ntmps3
      go_wp2_with fail
      refine (live_any w).mono ?_
      rintro en w1 ⟨rfl, hb⟩
      have L1 := Lib.hid hb
      clear hb
      go_upto_region 5 with (at_builtin
                             refine wpList_append_l rfl (.const (.slice none 0 0)) (.tmp 32) rfl rfl w1.heap.size _ 0 [] rfl (OwnsL.nil _ _) A n c l rfl (HR.out.below L1.out) (by omega) (Nat.le_refl _) ?_
                             intro W0 wc w2 h1 h2 h3
                             have L2 := Lib.hid (L1.out.trans ((below_row (OwnsL.nil w1.heap.size w1) h2 (Nat.le_refl _)).mono L1.out.size))
                             have W2 : Hid (RowL w2 W0 (0 + n) wc l) := OwnsL.row h1 (by omega)
                             clear h1 h2 h3)
      rw [Nat.zero_add] at W2
      (try simp only [Nat.zero_add])
      have hwcap := W2.out.big
      -- cut
      go_wp2_with fail
      refine (HCU w2 (HR.out.below L2.out) (HS.out.below L2.out)).out.mono ?_
      rintro en w3 ⟨C, cc, rfl, hO, hb⟩
      have L3 := Lib.hid (L2.out.trans (hb.mono L2.out.size))
      have C3 := Lib.hid (OwnsL.row hO (by simp only; omega))
      have W3 := Lib.hid (RowS.below W2.out hb)
      clear hb hO HCU W2
      simp only [hcn] at C3 ⊢
      go_wp2_with fail
      refine (HCR w3 (HR.out.below L3.out) (HS.out.below L3.out)).out.mono ?_
      rintro en w4 ⟨D, dc, rfl, hO, hb⟩
      have L4 := Lib.hid (L3.out.trans (hb.mono L3.out.size))
      have D4 := Lib.hid (OwnsL.row hO (by simp only; omega))
      have C4 := Lib.hid (RowS.below C3.out hb)
      have W4 := Lib.hid (RowS.below W3.out hb)
      clear hb hO HCR W3 C3
      simp only [hcn] at D4 ⊢
      have S4 := Lib.hid (same_any C4.out D4.out (by omega))
      go_wp2_with fail
      refine S4.out.mono ?_
      rintro en w5 ⟨rfl, hb⟩
      have L5 := Lib.hid (L4.out.trans (hb.mono L4.out.size))
      have W5 := Lib.hid (RowS.below W4.out hb)
      clear hb S4 C4 D4 W4
      -- join
      go_wp2_with fail
      refine (HJU w5 (HR.out.below L5.out)).out.mono ?_
      rintro en w6 ⟨E, ec, rfl, hO, hb⟩
      have L6 := Lib.hid (L5.out.trans (hb.mono L5.out.size))
      have E6 := Lib.hid (OwnsL.row hO (by simp only; omega))
      have W6 := Lib.hid (RowS.below W5.out hb)
      clear hb hO HJU W5
      simp only [hjn] at E6 ⊢
      go_wp2_with fail
      refine (HJR w6 (HR.out.below L6.out)).out.mono ?_
      rintro en w7 ⟨F, fc, rfl, hO, hb⟩
      have L7 := Lib.hid (L6.out.trans (hb.mono L6.out.size))
      have F7 := Lib.hid (OwnsL.row hO (by simp only; omega))
      have E7 := Lib.hid (RowS.below E6.out hb)
      have W7 := Lib.hid (RowS.below W6.out hb)
      clear hb hO HJR W6 E6
      simp only [hjn] at F7 ⊢
      have S7 := Lib.hid (same_any E7.out F7.out (by omega))
      go_wp2_with fail
      refine S7.out.mono ?_
      rintro en w8 ⟨rfl, hb⟩
      have L8 := Lib.hid (L7.out.trans (hb.mono L7.out.size))
      have W8 := Lib.hid (RowS.below W7.out hb)
      clear hb S7 E7 F7 W7
      -- give
      go_wp2_with fail
      refine (HGU w8 (HR.out.below L8.out)).out.mono ?_
      rintro en w9 ⟨G, gc, rfl, hO, hb⟩
      have L9 := Lib.hid (L8.out.trans (hb.mono L8.out.size))
      have G9 := Lib.hid hO
      have M9 := Lib.hid hb
      clear hb hO HGU
      simp only [hgn] at G9 ⊢
      go_wp2_with fail
      refine (HGR w9 (HR.out.below L9.out)).out.mono ?_
      rintro en w10 ⟨I, ic, rfl, hO, hb⟩
      have L10 := Lib.hid (L9.out.trans (hb.mono L9.out.size))
      have I10 := Lib.hid (OwnsL.row hO (by simp only; omega))
      have G10 := Lib.hid (OwnsL.below G9.out hb)
      have M10 := Lib.hid (M9.out.trans (hb.mono M9.out.size))
      clear hb hO HGR M9 G9
      simp only [hgn] at I10 ⊢
      have S10 := Lib.hid (same_any (OwnsL.row G10.out (by omega)) I10.out (by omega))
      go_wp2_with fail
      refine S10.out.mono ?_
      rintro en w11 ⟨rfl, hb⟩
      have L11 := Lib.hid (L10.out.trans (hb.mono L10.out.size))
      have G11 := Lib.hid (OwnsL.below G10.out hb)
      have M11 := Lib.hid (M10.out.trans (hb.mono M10.out.size))
      clear hb S10 G10 I10 M10 L9 L10 L11
      go_wp2_with fail
      go_loopw [19, 103] (fun _ i wr => ∃ k : Nat, i = .int .i64 k ∧ k ≤ gn ∧ Hid (Below w8.heap.size w8 wr ∧ ∃ xs, OwnsL w8.heap.size wr (.slice G gn gc) gn xs)) (fun _ i _ => gn - (intOf i).toNat)
      case atStart => exact ⟨0, rfl, by omega, M11.out, _, G11.out⟩
      case round =>
        obtain ⟨k, rfl, hk, hH⟩ := hrel
        by_cases hlt : k < gn
        · obtain ⟨hB, xs, hO⟩ := hH.out
          obtain ⟨x, hx⟩ : ∃ x, xs[k]? = some x := ⟨_, List.getElem?_eq_getElem (by have := hO.2; omega)⟩
          obtain ⟨g, hG, hge, hgl, ⟨q0, q1, q2, q3⟩, hfz, hput⟩ := OwnsL.put hO hx
          have hG' := hG
          subst hG'
          have hk0 : (0 : Int) ≤ (k : Int) := by omega
          have hkn : (k : Int) < (gn : Int) := by omega
          have hf2 := hfz (k * 4 + 2)
          have O2 := Lib.hid (hput 2 (.int .i64 9) ⟨x.fr, x.to, 9, x.ep⟩ (by omega) rfl)
          have B2 : Hid (Below w8.heap.size w8 (wr.setCell ⟨g, k * 4 + 2, none⟩ (.int .i64 9))) := belowk hB hge _ _
          clear hput hfz hB hO hx hH q0 q1 q3
          go_wp2_with fail
          go_roundw
          case rel => exact ⟨k + 1, by go_num, by omega, B2.out, _, O2.out⟩
          case measure => simp [intOf]; omega
        · have L12 := Lib.hid (L8.out.trans (hH.out.1.mono L8.out.size))
          have W12 := Lib.hid (RowS.below W8.out hH.out.1)
          clear hH
          go_wp2_with fail
          refine (HTU wr (HR.out.below L12.out)).out.mono ?_
          rintro en w13 ⟨T, tc, U, uc, rfl, hT, hU, hb⟩
          have L13 := Lib.hid (L12.out.trans (hb.mono L12.out.size))
          have W13 := Lib.hid (RowS.below W12.out hb)
          simp only [htn, hwn] at hT hU ⊢
          have T13 := Lib.hid hT
          have U13 := Lib.hid hU
          clear hb hT hU HTU W12
          go_wp2_with fail
          refine (HTR w13 (HR.out.below L13.out)).out.mono ?_
          rintro en w14 ⟨X, xc, Y, yc, rfl, hT, hU, hb⟩
          have L14 := Lib.hid (L13.out.trans (hb.mono L13.out.size))
          have W14 := Lib.hid (RowS.below W13.out hb)
          have T14 := Lib.hid (RowS.below T13.out hb)
          have U14 := Lib.hid (RowS.below U13.out hb)
          simp only [htn, hwn] at hT hU ⊢
          have S14 := Lib.hid (same_any T14.out hT (by omega))
          have Y14 := Lib.hid hU
          clear hb hT hU HTR W13 T13 U13
          go_wp2_with fail
          refine S14.out.mono ?_
          rintro en w15 ⟨rfl, hb⟩
          have L15 := Lib.hid (L14.out.trans (hb.mono L14.out.size))
          have W15 := Lib.hid (RowS.below W14.out hb)
          have S15 := Lib.hid (same_any (RowS.below U14.out hb) (RowS.below Y14.out hb) (by omega))
          clear hb S14 W14 T14 U14 Y14
          go_wp2_with fail
          refine S15.out.mono ?_
          rintro en w16 ⟨rfl, hb⟩
          have L16 := Lib.hid (L15.out.trans (hb.mono L15.out.size))
          have S16 := Lib.hid (same_any (HR.out.below L16.out) (RowS.below W15.out hb) (by omega))
          clear hb S15 W15
          go_wp2_with fail
          refine S16.out.mono ?_
          rintro en w17 ⟨rfl, hb⟩
          have L17 := Lib.hid (L16.out.trans (hb.mono L16.out.size))
          clear hb S16
          go_wp2_with fail
          go_ret
          exact ⟨rfl, L17.out⟩
    · go_enter Try.func3, Try.ntmps3
      go_wp2_with fail
      refine (live_any w).mono ?_
      rintro en w1 ⟨rfl, hb⟩
      have L1 := Lib.hid hb
      clear hb
      go_wp2_with fail
      go_ret
      exact ⟨rfl, L1.out⟩
  · go_enter Try.func3, Try.ntmps3
    go_wp2_with fail
    refine (live_any w).mono ?_
    rintro en w1 ⟨rfl, hb⟩
    have L1 := Lib.hid hb
    clear hb
    go_wp2_with fail
    go_ret
    exact ⟨rfl, L1.out⟩
end Spa
end Go.Proofs.Ytjoemlifpbjdbaa
