/-
  THE STATEMENT SpanStale: what is under an epoch is given away under a greater one alone. For every input.
-/
import Derived.Test.YtjoemlifpbjdbaaSpaLive
import Derived.BigQuiet
namespace Go.Proofs.Ytjoemlifpbjdbaa
open Go.ChangeShapes Go.WideShapes Go.ChangeAt Go.RowKit Mem
namespace Spa

theorem giveP_cases (l : List Sp) (a b o e : Int) : (giveP l a b o e = ([], 1) ∧ (rangeB l a b && mayOwn o e) = false) ∨ giveP l a b o e = ([], 61) ∨ (giveP l a b o e = (giveS l a b o e, 0) ∧ rangeB l a b = true ∧ mayOwn o e = true) := by
  unfold giveP
  rcases e1 : rangeB l a b
  · exact .inl ⟨rfl, rfl⟩
  · rcases e2 : mayOwn o e
    · exact .inl ⟨rfl, rfl⟩
    · rcases e3 : staleB (partsS l a b) o e
      · exact .inr (.inr ⟨rfl, rfl, rfl⟩)
      · exact .inr (.inl rfl)
theorem parts_given {l : List Sp} {N a b o e : Int} (h : Ch 0 l N) (h0 : 0 ≤ a) (hab : a < b) (hb : b ≤ N) : ∀ s ∈ partsS (giveS l a b o e) a b, s.own = o ∧ s.ep = e := by
  intro s hs
  have hc := giveS_ch (o := o) (e := e) h h0 hab hb
  have hp := partsS_ch hc (Int.le_of_lt hab) h0 hb
  have hm := hp.mem hs
  have h1 := who_mem hp hs (k := s.fr) ⟨Int.le_refl _, hm.2.1⟩
  rw [partsS_who, if_pos (by omega), giveS_who h h0 hab hb, if_pos (by omega)] at h1
  simp only [Option.some.injEq, Prod.mk.injEq] at h1
  exact ⟨h1.1.symm, h1.2.symm⟩
theorem again_stale {l : List Sp} {N a b o e : Int} (h : Ch 0 l N) (h0 : 0 ≤ a) (hab : a < b) (hb : b ≤ N) (ho : 0 ≤ o) {o2 e2 : Int} (ho2 : 0 ≤ o2) : staleB (partsS (giveS l a b o e) a b) o2 e2 = decide (e2 ≤ e) := by
  have h1 := parts_given (o := o) (e := e) h h0 hab hb
  have hp := partsS_ch (giveS_ch (o := o) (e := e) h h0 hab hb) (Int.le_of_lt hab) h0 hb
  unfold staleB
  rw [show (o2 != -1) = true by simp; omega, Bool.true_and]
  rw [Bool.eq_iff_iff, List.any_eq_true, decide_eq_true_eq]
  constructor
  · rintro ⟨s, hs, h2⟩
    simp only [Bool.and_eq_true, decide_eq_true_eq] at h2
    rw [← (h1 s hs).2]; exact h2.2
  · intro h2
    rcases hl : partsS (giveS l a b o e) a b with _ | ⟨s, r⟩
    · rw [hl] at hp
      have : a = b := hp
      omega
    · have hs : s ∈ partsS (giveS l a b o e) a b := by rw [hl]; simp
      refine ⟨s, by simp, ?_⟩
      have := h1 s hs
      rw [this.1, this.2, decide_eq_true h2, Bool.and_true]
      simp; omega
theorem giveS_len (l : List Sp) (a b o e : Int) : (giveS l a b o e).length ≤ 2 * l.length + 1 := by
  unfold giveS joinS
  have h1 := joinF_len [] (partsS l 0 a ++ [⟨a, b, o, e⟩] ++ partsS l b (endF 0 l))
  have h2 := partsS_len l 0 a
  have h3 := partsS_len l b (endF 0 l)
  simp only [List.length_append, List.length_cons, List.length_nil] at h1
  omega
theorem new_ok {n : Int} (h : newB n = true) : okS [⟨0, n, -1, 0⟩] = true ∧ endF 0 [⟨0, n, -1, 0⟩] = n := by
  unfold newB at h
  simp only [Bool.and_eq_true, decide_eq_true_eq] at h
  exact ⟨okS_of (n := n) ⟨rfl, by show (0 : Int) < n; omega, rfl⟩ (by intro s hs; simp at hs; subst hs; rfl) (by omega) h.2, rfl⟩
theorem RowS.nil0 (A : Option Addr) (c : Nat) (w : World) : RowL w A 0 c [] := ⟨rfl, by omega, by omega, fun h => absurd h (by omega)⟩
theorem give_nil (a b o e : Int) : giveP [] a b o e = ([], 1) := rfl

set_option maxRecDepth 100000 in
set_option maxHeartbeats 12800000 in
theorem spanStale_walk (bl a b o e o2 e2 : Int) (w : World) :
    Calls Try.prog 6 #[.int .i64 bl, .int .i64 a, .int .i64 b, .int .i64 o, .int .i64 e, .int .i64 o2, .int .i64 e2] w fun en w' => en = .returned (.bool true) ∧ Below w.heap.size w w' := by
  have HN := fun w => Lib.hid (new_any bl w)
  rcases hn : newB bl
  · have HN2 : Hid (newP bl = ([], 1)) := by show _ = _; unfold newP; rw [hn]; rfl
    rw [HN2.out] at HN
    have HG := fun W => Lib.hid (give_any (w := W) a b o e (RowS.nil cellsL 4 W) (by omega))
    rw [give_nil] at HG
    go_enter Try.func6, Try.ntmps6
    go_wp2_with fail
    refine (live_any w).mono ?_
    rintro en w1 ⟨rfl, hb⟩
    have L1 := Lib.hid hb
    clear hb
    go_wp2_with fail
    refine (HN w1).out.mono ?_
    rintro en w2 ⟨B, d, rfl, hO, hb⟩
    have L2 := Lib.hid (L1.out.trans (hb.mono L1.out.size))
    rcases hO.1.2 with ⟨hs, -⟩ | ⟨g, cap, cur, hs, hx⟩
    · injection hs with h1 h2 h3
      subst h1 h3
      clear hb hO h2 HN
      go_wp2_with fail
      refine (HG w2).out.mono ?_
      rintro en w3 ⟨B, d, rfl, hO, hb⟩
      have L3 := Lib.hid (L2.out.trans (hb.mono L2.out.size))
      clear hb hO HG
      go_wp2_with fail
      go_ret
      exact ⟨rfl, L3.out⟩
    · have HG' := fun W => Lib.hid (give_any (w := W) a b o e (RowS.nil0 B d W) (by omega))
      rw [give_nil] at HG'
      clear hb hO HN hs hx HG
      go_wp2_with fail
      refine (HG' w2).out.mono ?_
      rintro en w3 ⟨B, d, rfl, hO, hb⟩
      have L3 := Lib.hid (L2.out.trans (hb.mono L2.out.size))
      clear hb hO HG'
      go_wp2_with fail
      go_ret
      exact ⟨rfl, L3.out⟩
  · have HN2 : Hid (newP bl = ([⟨0, bl, -1, 0⟩], 0)) := by show _ = _; unfold newP; rw [hn]; rfl
    rw [HN2.out] at HN
    obtain ⟨hok, hen⟩ := new_ok hn
    have HCH : Hid (Ch 0 [⟨0, bl, -1, 0⟩] bl) := by have := ok_ch hok; rwa [hen] at this
    have HG := fun W A c (h : RowL W A 1 c [⟨0, bl, -1, 0⟩]) => Lib.hid (give_any a b o e h (by omega))
    have HLEN := Lib.hid (giveS_len [⟨0, bl, -1, 0⟩] a b o e)
    rcases giveP_cases [⟨0, bl, -1, 0⟩] a b o e with ⟨hg, -⟩ | hg | ⟨hg, hr, hm⟩
    · rw [hg] at HG
      clear hg hok hen hn
      go_enter Try.func6, Try.ntmps6
      go_wp2_with fail
      refine (live_any w).mono ?_
      rintro en w1 ⟨rfl, hb⟩
      have L1 := Lib.hid hb
      clear hb
      go_wp2_with fail
      refine (HN w1).out.mono ?_
      rintro en w2 ⟨B, d, rfl, hO, hb⟩
      have L2 := Lib.hid (L1.out.trans (hb.mono L1.out.size))
      have R2 := Lib.hid (OwnsL.row hO (by simp))
      clear hb hO HN
      simp only [List.length_cons, List.length_nil] at R2
      go_wp2_with fail
      refine (HG w2 B d R2.out).out.mono ?_
      rintro en w3 ⟨B3, d3, rfl, hO, hb⟩
      have L3 := Lib.hid (L2.out.trans (hb.mono L2.out.size))
      clear hb hO HG
      go_wp2_with fail
      go_ret
      exact ⟨rfl, L3.out⟩
    · rw [hg] at HG
      clear hg hok hen hn
      go_enter Try.func6, Try.ntmps6
      go_wp2_with fail
      refine (live_any w).mono ?_
      rintro en w1 ⟨rfl, hb⟩
      have L1 := Lib.hid hb
      clear hb
      go_wp2_with fail
      refine (HN w1).out.mono ?_
      rintro en w2 ⟨B, d, rfl, hO, hb⟩
      have L2 := Lib.hid (L1.out.trans (hb.mono L1.out.size))
      have R2 := Lib.hid (OwnsL.row hO (by simp))
      clear hb hO HN
      simp only [List.length_cons, List.length_nil] at R2
      go_wp2_with fail
      refine (HG w2 B d R2.out).out.mono ?_
      rintro en w3 ⟨B3, d3, rfl, hO, hb⟩
      have L3 := Lib.hid (L2.out.trans (hb.mono L2.out.size))
      clear hb hO HG
      go_wp2_with fail
      go_ret
      exact ⟨rfl, L3.out⟩
    · rw [hg] at HG
      obtain ⟨-, ha, hab, hbN⟩ := rangeB_iff.1 hr
      rw [hen] at hbN
      have HR := Lib.hid (And.intro ha (And.intro hab hbN))
      obtain ⟨hgo, hge⟩ := giveS_ok (o := o) (e := e) hr hm
      rw [hen] at hge
      have HGO := Lib.hid hgo
      have HGE := Lib.hid hge
      clear hg hok hen hn ha hab hbN hgo hge hm hr
      go_enter Try.func6, Try.ntmps6
      go_wp2_with fail
      refine (live_any w).mono ?_
      rintro en w1 ⟨rfl, hb⟩
      have L1 := Lib.hid hb
      clear hb
      go_wp2_with fail
      refine (HN w1).out.mono ?_
      rintro en w2 ⟨B, d, rfl, hO, hb⟩
      have L2 := Lib.hid (L1.out.trans (hb.mono L1.out.size))
      have R2 := Lib.hid (OwnsL.row hO (by simp))
      clear hb hO HN
      simp only [List.length_cons, List.length_nil] at R2
      go_wp2_with fail
      refine (HG w2 B d R2.out).out.mono ?_
      rintro en w3 ⟨B3, d3, rfl, hO, hb⟩
      have L3 := Lib.hid (L2.out.trans (hb.mono L2.out.size))
      have R3 := Lib.hid (OwnsL.row hO (by have := HLEN.out; simp at this; simp only; omega))
      clear hb hO HG
      simp only at R3
      rcases f1 : decide (o < 0)
      · rcases f2 : decide (o2 < 0)
        · have HST := Lib.hid (again_stale HCH.out HR.out.1 HR.out.2.1 HR.out.2.2 (e := e) (o2 := o2) (e2 := e2) (by have := of_decide_eq_false f1; omega : 0 ≤ o) (by have := of_decide_eq_false f2; omega))
          have HRB : Hid (rangeB (giveS [⟨0, bl, -1, 0⟩] a b o e) a b = true) := rangeB_iff.2 ⟨HGO.out, HR.out.1, HR.out.2.1, by rw [HGE.out]; exact HR.out.2.2⟩
          have HG2 := Lib.hid (give_any a b o2 e2 R3.out (by have := HLEN.out; simp at this; omega))
          have HP : Hid (giveP (giveS [⟨0, bl, -1, 0⟩] a b o e) a b o2 e2 = bif mayOwn o2 e2 then (bif decide (e2 ≤ e) then ([], 61) else (giveS (giveS [⟨0, bl, -1, 0⟩] a b o e) a b o2 e2, 0)) else ([], 1)) := by
            show _ = _
            unfold giveP; rw [HRB.out, Bool.true_and, HST.out]
          rw [HP.out] at HG2
          clear HP HST HRB HGO HGE HCH HLEN R2 HN2
          generalize giveS [⟨0, bl, -1, 0⟩] a b o e = m at *
          generalize giveS m a b o2 e2 = m2 at *
          rcases hm : mayOwn o2 e2
          · rw [hm, cond_false] at HG2
            have HNO : Hid (7 < o2 ∨ e2 < 1) := by
              show _ ∨ _
              have := mt mayOwn_iff.2 (by rw [hm]; simp : ¬ mayOwn o2 e2 = true)
              have := of_decide_eq_false f2
              omega
            go_wp2_with fail
            refine HG2.out.mono ?_
            rintro en w4 ⟨B4, d4, rfl, hO, hb⟩
            have L4 := Lib.hid (L3.out.trans (hb.mono L3.out.size))
            clear hb hO HG2
            rcases f3 : decide (7 < o2)
            · have f4 : decide (e2 < 1) = true := decide_eq_true (by have := HNO.out; have := of_decide_eq_false f3; omega)
              go_wp2_with fail
              go_ret
              exact ⟨rfl, L4.out⟩
            · go_wp2_with fail
              go_ret
              exact ⟨rfl, L4.out⟩
          · rw [hm, cond_true] at HG2
            rcases f3 : decide (e2 ≤ e)
            · rw [f3, cond_false] at HG2
              have f4 : decide (e < e2) = true := decide_eq_true (by have := of_decide_eq_false f3; omega)
              go_wp2_with fail
              refine HG2.out.mono ?_
              rintro en w4 ⟨B4, d4, rfl, hO, hb⟩
              have L4 := Lib.hid (L3.out.trans (hb.mono L3.out.size))
              clear hb hO HG2
              go_wp2_with fail
              go_ret
              exact ⟨rfl, L4.out⟩
            · rw [f3, cond_true] at HG2
              have f4 : decide (e < e2) = false := decide_eq_false (by have := of_decide_eq_true f3; omega)
              go_wp2_with fail
              refine HG2.out.mono ?_
              rintro en w4 ⟨B4, d4, rfl, hO, hb⟩
              have L4 := Lib.hid (L3.out.trans (hb.mono L3.out.size))
              clear hb hO HG2
              go_wp2_with fail
              go_ret
              exact ⟨rfl, L4.out⟩
        · go_wp2_with fail
          go_ret
          exact ⟨rfl, L3.out⟩
      · go_wp2_with fail
        go_ret
        exact ⟨rfl, L3.out⟩
end Spa
end Go.Proofs.Ytjoemlifpbjdbaa
