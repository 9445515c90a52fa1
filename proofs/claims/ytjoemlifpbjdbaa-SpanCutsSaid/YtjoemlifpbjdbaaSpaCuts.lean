/-
  THE STATEMENT SpanCuts: cut and joined, it is the same whose blocks are whose; no span goes over a place at which it was cut. For every input.
-/
import Derived.Test.YtjoemlifpbjdbaaSpaLive
import Derived.Test.YtjoemlifpbjdbaaSpaCut
import Derived.Test.YtjoemlifpbjdbaaSpaRefChk
import Derived.BigQuiet
namespace Go.Proofs.Ytjoemlifpbjdbaa
open Go.ChangeShapes Go.WideShapes Go.ChangeAt Go.RowKit Mem
namespace Spa

set_option maxRecDepth 100000 in
set_option maxHeartbeats 12800000 in
theorem spanCuts_walk {A B : Option Addr} {n c m d : Nat} {l : List Sp} {ps : List Int} {w : World} (h : RowL w A n c l) (h2 : Row ci w B m d ps) :
    Calls Try.prog 5 #[.slice A n c, .slice B m d] w fun en w' => en = .returned (.bool true) ∧ Below w.heap.size w w' := by
  have HR := Lib.hid h
  have HS := Lib.hid h2
  have hbig := h.big
  have hbig2 := h2.big
  have hlen := Lib.hid h.len
  have hlps := Lib.hid h2.len
  clear h h2
  rcases f1 : decide ((100 : Int) < (n : Int))
  · rcases f2 : decide ((50 : Int) < (m : Int))
    · have hn : n ≤ 100 := by have := of_decide_eq_false f1; omega
      have hm : m ≤ 50 := by have := of_decide_eq_false f2; omega
      rcases hok : okS l
      · have HC := fun w (h : RowL w A n c l) => Lib.hid (refCheck_badT h hok)
        clear hok
        go_enter Try.func5, Try.ntmps5
        go_wp2_with fail
        refine (live_any w).mono ?_
        rintro en w1 ⟨rfl, hb⟩
        have L1 := Lib.hid hb
        clear hb
        go_wp2_with fail
        refine (HC w1 (HR.out.below L1.out)).out.mono ?_
        rintro en w2 ⟨rfl, hb⟩
        have L2 := Lib.hid (L1.out.trans (hb.mono L1.out.size))
        clear hb
        go_wp2_with fail
        go_ret
        exact ⟨rfl, L2.out⟩
      · have HC := fun w (h : RowL w A n c l) => Lib.hid (refCheck_okT h hok)
        have HJP : Hid (joinP l = (joinS l, 0)) := by show _ = _; unfold joinP; rw [hok]; rfl
        have HJP2 : Hid (joinP (joinS l) = (joinS l, 0)) := by show _ = _; unfold joinP; rw [joinS_ok hok, join_again (ok_ch hok)]; rfl
        have HJO := Lib.hid (joinS_ok hok)
        have HJL : Hid ((joinS l).length ≤ 100) := by
          show _ ≤ _
          have := joinF_len [] l
          have := hlen.out
          unfold joinS
          simp only [List.length_nil] at *; omega
        have HJ := fun w (h : RowL w A n c l) => Lib.hid (join_any h (by omega))
        rw [HJP.out] at HJ
        have HCO := Lib.hid (cutsS_ok hok ps)
        have HCL := Lib.hid (cutsS_len (ok_ch hok) ps)
        have HCJ : Hid (joinP (cutsS l ps) = (joinS l, 0)) := by show _ = _; unfold joinP; rw [cutsS_ok hok, cond_true, cut_join (ok_ch hok)]
        have HCC := Lib.hid (fun p (hp : p ∈ ps) s (hs : s ∈ cutsS l ps) => cutsS_cut l ps hp s hs)
        have HCU := fun w (h : RowL w A n c l) (h2 : Row ci w B m d ps) => Lib.hid (cut_any h h2 (by omega) (by omega))
        have HCP : Hid (cutP l ps = bif !atB l ps then (cutsS l ps, 0) else ([], 1)) := by show _ = _; unfold cutP; rw [hok, Bool.true_and]
        rw [HCP.out] at HCU
        clear hok HJP HCP
        generalize cutsS l ps = CL at *
        generalize joinS l = JL at *
        obtain ⟨jn, hjn⟩ : ∃ jn, JL.length = jn := ⟨_, rfl⟩
        have hjl : jn ≤ 100 := by rw [← hjn]; exact HJL.out
        go_enter Try.func5, Try.ntmps5
        go_wp2_with fail
        refine (live_any w).mono ?_
        rintro en w1 ⟨rfl, hb⟩
        have L1 := Lib.hid hb
        clear hb
        go_wp2_with fail
        refine (HC w1 (HR.out.below L1.out)).out.mono ?_
        rintro en w2 ⟨rfl, hb⟩
        have L2 := Lib.hid (L1.out.trans (hb.mono L1.out.size))
        clear hb HC
        go_wp2_with fail
        refine (HJ w2 (HR.out.below L2.out)).out.mono ?_
        rintro en w3 ⟨J, jc, rfl, hO, hb⟩
        have L3 := Lib.hid (L2.out.trans (hb.mono L2.out.size))
        have J3 := Lib.hid (OwnsL.row hO (by simp only; omega))
        clear hb hO HJ
        simp only [hjn] at J3 ⊢
        have HJ2 := Lib.hid (join_any J3.out (by omega))
        rw [HJP2.out] at HJ2
        go_wp2_with fail
        refine HJ2.out.mono ?_
        rintro en w4 ⟨K, kc, rfl, hO, hb⟩
        have L4 := Lib.hid (L3.out.trans (hb.mono L3.out.size))
        have K4 := Lib.hid (OwnsL.row hO (by simp only; omega))
        have J4 := Lib.hid (RowS.below J3.out hb)
        clear hb hO HJ2 J3
        simp only [hjn] at K4 ⊢
        have HSA := Lib.hid (same_any J4.out K4.out (by omega))
        go_wp2_with fail
        refine HSA.out.mono ?_
        rintro en w5 ⟨rfl, hb⟩
        have L5 := Lib.hid (L4.out.trans (hb.mono L4.out.size))
        have J5 := Lib.hid (RowS.below J4.out hb)
        clear hb J4 K4 HSA
        have HCJ5 := Lib.hid (refCheck_okT J5.out HJO.out)
        go_wp2_with fail
        refine HCJ5.out.mono ?_
        rintro en w6 ⟨rfl, hb⟩
        have L6 := Lib.hid (L5.out.trans (hb.mono L5.out.size))
        have J6 := Lib.hid (RowS.below J5.out hb)
        clear hb J5 HCJ5
        rcases hat : atB l ps
        · rw [hat] at HCU
          simp only [Bool.not_false, cond_true] at HCU
          obtain ⟨cn, hcn⟩ : ∃ cn, CL.length = cn := ⟨_, rfl⟩
          have hcl : cn ≤ 150 := by have h1 := HCL.out; have h2 := hlen.out; have h3 := hlps.out; omega
          go_wp2_with fail
          refine (HCU w6 (HR.out.below L6.out) (HS.out.below L6.out)).out.mono ?_
          rintro en w7 ⟨C, cc, rfl, hO, hb⟩
          have L7 := Lib.hid (L6.out.trans (hb.mono L6.out.size))
          have C7 := Lib.hid (OwnsL.row hO (by simp only; omega))
          have J7 := Lib.hid (RowS.below J6.out hb)
          clear hb hO HCU J6
          simp only [hcn] at C7 ⊢
          have hcbig : cn ≤ 140737488351232 := by omega
          go_wp2_with fail
          go_loopw [13, 76] (fun _ i wr => ∃ k : Nat, i = .int .i64 k ∧ k ≤ cn ∧ Hid (Below w7.heap.size w7 wr)) (fun _ i _ => cn - (intOf i).toNat)
          case atStart => exact ⟨0, rfl, by omega, Below.refl _ _⟩
          case round =>
            obtain ⟨k, rfl, hk, hH⟩ := hrel
            by_cases hlt : k < cn
            · obtain ⟨x, hx⟩ := C7.out.get hlt
              obtain ⟨g, q, hA, d0, d1, d2, d3⟩ := RowS.span_at (C7.out.below hH.out) hx
              subst hA
              have hk0 : (0 : Int) ≤ (k : Int) := by omega
              have hkn : (k : Int) < (cn : Int) := by omega
              have HXM := Lib.hid (List.mem_of_getElem? hx)
              clear hx
              have A1 : Hid (Below wr.heap.size wr (wr.alloc (.cells #[.int .i64 x.fr, .int .i64 x.to, .int .i64 x.own, .int .i64 x.ep] 32))) := (Below.refl _ wr).alloc (Nat.le_refl _) _
              have B1 : Hid (LBox (wr.alloc (.cells #[.int .i64 x.fr, .int .i64 x.to, .int .i64 x.own, .int .i64 x.ep] 32)) wr.heap.size x) := Cells.new _ _ _
              obtain ⟨n0, n1, n2, n3⟩ := LBox.cells B1.out
              go_upto_region 15 with fail
              generalize wr.alloc (.cells #[.int .i64 x.fr, .int .i64 x.to, .int .i64 x.own, .int .i64 x.ep] 32) = w8 at *
              clear d0 d1 d2 d3
              have M8 := Lib.hid (hH.out.trans (A1.out.mono hH.out.size))
              have L8 := Lib.hid (L7.out.trans (M8.out.mono L7.out.size))
              obtain ⟨sb, hsb⟩ : ∃ sb, wr.heap.size = sb := ⟨_, rfl⟩
              rw [hsb] at n0 n1 n2 n3 B1
              simp only [hsb]
              clear hsb A1 hH n2 n3
              go_loopw [15, 82] (fun _ i wi => wi = w8 ∧ ∃ j : Nat, i = .int .i64 j ∧ j ≤ m) (fun _ i _ => m - (intOf i).toNat)
              case atStart => exact ⟨rfl, 0, rfl, by omega⟩
              case round =>
                obtain ⟨hw, j, rfl, hj⟩ := hrel
                subst hw
                by_cases hlj : j < m
                · obtain ⟨p, hp⟩ := HS.out.get hlj
                  obtain ⟨b, o, hB, c0⟩ := (HS.out.below L8.out).cell hp
                  subst hB
                  have c0' : wr.cell? ⟨b, o + j, none⟩ = some (.int .i64 p) := c0
                  have hj0 : (0 : Int) ≤ (j : Int) := by omega
                  have hjm : (j : Int) < (m : Int) := by omega
                  have HNO := Lib.hid (HCC.out p (List.mem_of_getElem? hp) x HXM.out)
                  clear hp c0
                  rcases g1 : decide (x.fr < p)
                  · go_wp2_with fail
                    go_roundw
                    case rel => exact ⟨by trivial, j + 1, by go_num, by omega⟩
                    case measure => simp [intOf]; omega
                  · have g2 : decide (p < x.to) = false := decide_eq_false (fun h => HNO.out ⟨of_decide_eq_true g1, h⟩)
                    go_wp2_with fail
                    go_roundw
                    case rel => exact ⟨by trivial, j + 1, by go_num, by omega⟩
                    case measure => simp [intOf]; omega
                · go_wp2_with fail
                  go_roundw
                  case rel => exact ⟨k + 1, by go_num, by omega, M8.out⟩
                  case measure => simp [intOf]; omega
            · have L8 := Lib.hid (L7.out.trans (hH.out.mono L7.out.size))
              have C8 := Lib.hid (RowS.below C7.out hH.out)
              have J8 := Lib.hid (RowS.below J7.out hH.out)
              clear hH C7 J7
              have HJ9 := Lib.hid (join_any C8.out (by omega))
              rw [HCJ.out] at HJ9
              go_wp2_with fail
              refine HJ9.out.mono ?_
              rintro en w9 ⟨E, ec, rfl, hO, hb⟩
              have L9 := Lib.hid (L8.out.trans (hb.mono L8.out.size))
              have E9 := Lib.hid (OwnsL.row hO (by simp only; omega))
              have C9 := Lib.hid (RowS.below C8.out hb)
              have J9 := Lib.hid (RowS.below J8.out hb)
              clear hb hO HJ9 C8 J8
              simp only [hjn] at E9 ⊢
              have HC9 := Lib.hid (refCheck_okT C9.out HCO.out)
              go_wp2_with fail
              refine HC9.out.mono ?_
              rintro en w10 ⟨rfl, hb⟩
              have L10 := Lib.hid (L9.out.trans (hb.mono L9.out.size))
              have HS10 := Lib.hid (same_any (RowS.below E9.out hb) (RowS.below J9.out hb) (by omega))
              clear hb E9 C9 J9 HC9
              go_wp2_with fail
              refine HS10.out.mono ?_
              rintro en w11 ⟨rfl, hb⟩
              have L11 := Lib.hid (L10.out.trans (hb.mono L10.out.size))
              clear hb HS10
              go_wp2_with fail
              go_ret
              exact ⟨rfl, L11.out⟩
        · rw [hat] at HCU
          simp only [Bool.not_true, cond_false] at HCU
          go_wp2_with fail
          refine (HCU w6 (HR.out.below L6.out) (HS.out.below L6.out)).out.mono ?_
          rintro en w7 ⟨C, cc, rfl, hO, hb⟩
          have L7 := Lib.hid (L6.out.trans (hb.mono L6.out.size))
          clear hb hO HCU
          go_wp2_with fail
          go_ret
          exact ⟨rfl, L7.out⟩
    · go_enter Try.func5, Try.ntmps5
      go_wp2_with fail
      refine (live_any w).mono ?_
      rintro en w1 ⟨rfl, hb⟩
      have L1 := Lib.hid hb
      clear hb
      go_wp2_with fail
      go_ret
      exact ⟨rfl, L1.out⟩
  · go_enter Try.func5, Try.ntmps5
    go_wp2_with fail
    refine (live_any w).mono ?_
    rintro en w1 ⟨rfl, hb⟩
    have L1 := Lib.hid hb
    clear hb
    go_wp2_with fail
    go_ret
    exact ⟨rfl, L1.out⟩
end Spa
end Go.Proofs.Ytjoemlifpbjdbaa
