/-
  WALKS: the document's Cut, Take.
-/
import Derived.Test.YtjoemlifpbjdbaaSpaRefC
import Derived.Test.YtjoemlifpbjdbaaSpaJoinR
namespace Go.Proofs.Ytjoemlifpbjdbaa
open Go.RowKit Mem
namespace Spa

theorem atB_snoc {l : List Sp} {ps : List Int} {k : Nat} {p : Int} (hp : ps[k]? = some p) : atB l (ps.take (k + 1)) = (atB l (ps.take k) || (decide (p ≤ 0) || decide (endF 0 l ≤ p))) := by
  unfold atB
  rw [List.take_add_one, hp, List.any_append]
  simp
theorem atB_hit {l : List Sp} {ps : List Int} {k : Nat} {p : Int} (hp : ps[k]? = some p) (h : (decide (p ≤ 0) || decide (endF 0 l ≤ p)) = true) : atB l ps = true := by
  unfold atB
  exact List.any_eq_true.2 ⟨p, List.mem_of_getElem? hp, h⟩

set_option maxRecDepth 100000 in
set_option maxHeartbeats 6400000 in
theorem refCut_any {A B : Option Addr} {n c m d : Nat} {l : List Sp} {ps : List Int} {w : World} (h : RowL w A n c l) (h2 : Row ci w B m d ps) (hn : n ≤ 1000) (hm : m ≤ 1000) :
    Calls Try.prog 10 #[.slice A n c, .slice B m d] w (GaveS w (cutP l ps)) := by
  have HR := Lib.hid h
  have HS := Lib.hid h2
  have hbig := h.big
  have hlen := Lib.hid h.len
  have hlps := Lib.hid h2.len
  clear h h2
  unfold cutP
  rcases hok : okS l
  · have HC := fun w (h : RowL w A n c l) => Lib.hid (refCheck_badT h hok)
    go_enter Try.func10, Try.ntmps10
    go_wp2_with fail
    refine (HC w HR.out).out.mono ?_
    rintro e w2 ⟨rfl, hb⟩
    have L2 := Lib.hid hb
    clear hb
    go_wp2_with fail
    go_ret2
    exact GaveS.none_ L2.out
  · have HC := fun w (h : RowL w A n c l) => Lib.hid (refCheck_okT h hok)
    have HCH := Lib.hid (ok_ch hok)
    have hn0 : 0 < n := by
      have := (okS_iff.1 hok).2.2.1
      rcases Nat.eq_zero_or_pos n with h0 | h0
      · exact absurd (List.eq_nil_of_length_eq_zero (by rw [hlen.out, h0])) this
      · exact h0
    have HE := fun w (h : RowL w A n c l) => Lib.hid (refEnd_any h hn0)
    have HSN := Lib.hid (fun k p (hp : ps[k]? = some p) => atB_snoc (l := l) hp)
    have HHT := Lib.hid (fun k p (hp : ps[k]? = some p) h => atB_hit (l := l) hp h)
    clear hok hn0
    have HA0 : Hid (atB l (ps.take 0) = false) := rfl
    generalize endF 0 l = N at *
    go_enter Try.func10, Try.ntmps10
    go_wp2_with fail
    refine (HC w HR.out).out.mono ?_
    rintro e w2 ⟨rfl, hb⟩
    have L2 := Lib.hid hb
    clear hb
    go_wp2_with fail
    go_loopw [7, 16] (fun _ i wr => ∃ k : Nat, i = .int .i64 k ∧ k ≤ m ∧ Hid (Below w.heap.size w wr ∧ atB l (ps.take k) = false)) (fun _ i _ => m - (intOf i).toNat)
    case atStart => exact ⟨0, rfl, by omega, L2.out, HA0.out⟩
    case round =>
      obtain ⟨k, rfl, hk, hH⟩ := hrel
      by_cases hlt : k < m
      · obtain ⟨p, hp⟩ := HS.out.get hlt
        obtain ⟨b, q, hB, d0⟩ := (HS.out.below hH.out.1).cell hp
        subst hB
        have d0' : wr.cell? ⟨b, q + k, none⟩ = some (.int .i64 p) := d0
        have hk0 : (0 : Int) ≤ (k : Int) := by omega
        have hkm : (k : Int) < (m : Int) := by omega
        have HP := Lib.hid hp
        clear hp d0
        rcases e1 : decide (p ≤ 0)
        · rcases e2 : decide (N ≤ p)
          · have HN : Hid (atB l (ps.take (k + 1)) = false) := by show _ = _; rw [HSN.out k p HP.out, hH.out.2, e1, e2]; rfl
            go_wp2_with fail
            refine (HE wr (HR.out.below hH.out.1)).out.mono ?_
            rintro e w3 ⟨rfl, hb⟩
            have L3 := Lib.hid (hH.out.1.trans (hb.mono hH.out.1.size))
            clear hb
            go_wp2_with fail
            go_roundw
            case rel => exact ⟨k + 1, by go_num, by omega, L3.out, HN.out⟩
            case measure => simp [intOf]; omega
          · have HN : Hid (atB l ps = true) := HHT.out k p HP.out (by rw [e2, Bool.or_true])
            go_wp2_with fail
            refine (HE wr (HR.out.below hH.out.1)).out.mono ?_
            rintro e w3 ⟨rfl, hb⟩
            have L3 := Lib.hid (hH.out.1.trans (hb.mono hH.out.1.size))
            clear hb
            go_wp2_with fail
            go_ret2
            rw [HN.out]
            exact GaveS.none_ L3.out
        · have HN : Hid (atB l ps = true) := HHT.out k p HP.out (by rw [e1, Bool.true_or])
          go_wp2_with fail
          go_ret2
          rw [HN.out]
          exact GaveS.none_ hH.out.1
      · have hkn : ps.take k = ps := List.take_of_length_le (by have := hlps.out; omega)
        have HN : Hid (atB l ps = false) := by show _ = _; have := hH.out.2; rwa [hkn] at this
        have LW := Lib.hid hH.out.1
        clear hkn hH HSN HHT HA0
        have hk' : k = m := by omega
        subst hk'
        go_wp2_with (at_builtin
                     refine wpList_append_l rfl (.const (.slice none 0 0)) (.tmp 29) rfl rfl w.heap.size _ 0 [] rfl (OwnsL.nil _ _) A n c l rfl (HR.out.below LW.out) (by omega) LW.out.size ?_
                     intro A' c' w' h1 h2 h3
                     have L5 := Lib.hid (LW.out.trans (below_row (OwnsL.nil w.heap.size wr) h2 LW.out.size))
                     have O5 : Hid (OwnsL w.heap.size w' (.slice A' (0 + n) c') (0 + n) (cutsS l (ps.take 0))) := h1
                     clear h1 h2 h3)
        go_loopw [8, 10, 33] (fun s _ i wr => ∃ (j : Nat) (Y : Option Addr) (q f : Nat), i = .int .i64 j ∧ s = .slice Y q f ∧ j ≤ k ∧ q ≤ n + j ∧ Hid (Below w.heap.size w wr ∧ OwnsL w.heap.size wr (.slice Y q f) q (cutsS l (ps.take j)))) (fun _ _ i _ => k - (intOf i).toNat)
        case atStart => exact ⟨0, A', 0 + n, c', rfl, by simp, by omega, by omega, L5.out, O5.out⟩
        case round =>
          obtain ⟨j, Y, q, f, rfl, rfl, hj, hq, hH⟩ := hrel
          by_cases hlt : j < k
          · obtain ⟨p, hp⟩ := HS.out.get hlt
            obtain ⟨b, u, hB, d0⟩ := (HS.out.below hH.out.1).cell hp
            subst hB
            have d0' : wr.cell? ⟨b, u + j, none⟩ = some (.int .i64 p) := d0
            have hj0 : (0 : Int) ≤ (j : Int) := by omega
            have hjk : (j : Int) < (k : Int) := by omega
            have HX : Hid (cutsS l (ps.take (j + 1)) = cutS (cutsS l (ps.take j)) p) := by
              show _ = _
              rw [List.take_add_one, hp]; exact cutsS_snoc l _ p
            have HLN : Hid ((cutS (cutsS l (ps.take j)) p).length ≤ n + (j + 1)) := by
              show _ ≤ _
              rw [← HX.out]
              have := cutsS_len HCH.out (ps.take (j + 1))
              have h9 := hlen.out
              rw [List.length_take] at this
              omega
            have HCU := Lib.hid (refcut_any p (OwnsL.row hH.out.2 (by omega)) (by omega))
            clear hp d0
            go_wp2_with fail
            refine HCU.out.mono ?_
            rintro e w3 ⟨⟨Y3, q3, f3, rfl, hO⟩, hb⟩
            have L3 := Lib.hid (hH.out.1.trans (hb.mono hH.out.1.size))
            have O3 := Lib.hid (hO.mono hH.out.1.size)
            have hq3 : q3 ≤ n + (j + 1) := by have := hO.2; have := HLN.out; omega
            clear hb hO
            go_wp2_with fail
            go_roundw
            case rel => exact ⟨j + 1, Y3, q3, f3, by go_num, rfl, by omega, hq3, L3.out, by rw [HX.out]; exact O3.out⟩
            case measure => simp [intOf]; omega
          · have hkn : ps.take j = ps := List.take_of_length_le (by have := hlps.out; omega)
            have h := hH.out
            rw [hkn] at h
            have HE := Lib.hid h
            clear h hkn hH
            go_wp2_with fail
            go_ret2
            rw [HN.out]
            exact GaveS.of HE.out.2 (by omega) HE.out.1
end Spa
end Go.Proofs.Ytjoemlifpbjdbaa
