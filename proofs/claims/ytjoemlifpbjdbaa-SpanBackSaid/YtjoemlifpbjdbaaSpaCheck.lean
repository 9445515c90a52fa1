/-
  WALKS: which owners may be, where spans end, whether spans may be: span's own tests.
-/
import Derived.Test.YtjoemlifpbjdbaaSpaMem
namespace Go.Proofs.Ytjoemlifpbjdbaa
open Go.RowKit Mem
namespace Spa

theorem take_split {l : List Sp} {k : Nat} {x : Sp} (hx : l[k]? = some x) : l = l.take k ++ x :: l.drop (k + 1) := by
  obtain ⟨h, rfl⟩ := List.getElem?_eq_some_iff.1 hx
  rw [← List.drop_eq_getElem_cons h, List.take_append_drop]
theorem take_snoc {l : List Sp} {k : Nat} {x : Sp} (hx : l[k]? = some x) : l.take (k + 1) = l.take k ++ [x] := by
  rw [List.take_add_one, hx]; rfl
theorem okS_bad {l : List Sp} {k : Nat} {x : Sp} (hx : l[k]? = some x) (h : spB (endF 0 (l.take k)) x = false) : okS l = false := by
  unfold okS
  rw [take_split hx, goodF_app]
  simp only [goodF, h, Bool.false_and, Bool.and_false]
theorem good_step {l : List Sp} {k : Nat} {x : Sp} (hx : l[k]? = some x) (hg : goodF 0 (l.take k) = true) (h : spB (endF 0 (l.take k)) x = true) : endF 0 (l.take (k + 1)) = x.to ∧ goodF 0 (l.take (k + 1)) = true := by
  rw [take_snoc hx, goodF_app, endF_app]
  exact ⟨rfl, by simp only [goodF, hg, h, Bool.and_self]⟩

set_option maxRecDepth 100000 in
set_option maxHeartbeats 800000 in
theorem host_any (h : Int) (w : World) : Calls Try.prog 41 #[.int .i64 h] w fun e w' => e = .returned (.bool (hostB h)) ∧ w' = w := by
  unfold hostB
  rcases e1 : decide (0 ≤ h)
  · go_enter Try.func41, Try.ntmps41
    go_wp2
    go_ret
    exact ⟨rfl, rfl⟩
  · rcases e2 : decide (h < 8)
    · go_enter Try.func41, Try.ntmps41
      go_wp2
      go_ret
      exact ⟨rfl, rfl⟩
    · go_enter Try.func41, Try.ntmps41
      go_wp2
      go_ret
      exact ⟨rfl, rfl⟩

set_option maxRecDepth 100000 in
set_option maxHeartbeats 800000 in
theorem may_any (o p : Int) (w : World) : Calls Try.prog 34 #[.int .i64 o, .int .i64 p] w fun e w' => e = .returned (.bool (mayOwn o p)) ∧ w' = w := by
  have HH := fun w => Lib.hid (host_any o w)
  unfold mayOwn
  rcases e1 : (o == -1)
  · rcases e2 : hostB o
    · rw [e2] at HH
      go_enter Try.func34, Try.ntmps34
      go_wp2_with (go_at_call 41; refine (HH _).out.mono ?_; rintro e w2 ⟨rfl, rfl⟩)
      go_ret
      exact ⟨rfl, rfl⟩
    · rw [e2] at HH
      rcases e3 : decide (1 ≤ p)
      · go_enter Try.func34, Try.ntmps34
        go_wp2_with (go_at_call 41; refine (HH _).out.mono ?_; rintro e w2 ⟨rfl, rfl⟩)
        go_ret
        exact ⟨rfl, rfl⟩
      · go_enter Try.func34, Try.ntmps34
        go_wp2_with (go_at_call 41; refine (HH _).out.mono ?_; rintro e w2 ⟨rfl, rfl⟩)
        go_ret
        exact ⟨rfl, rfl⟩
  · go_enter Try.func34, Try.ntmps34
    go_wp2
    go_ret
    exact ⟨rfl, rfl⟩

set_option maxRecDepth 100000 in
set_option maxHeartbeats 800000 in
theorem end_any {A : Option Addr} {n c : Nat} {l : List Sp} {w : World} (h : RowL w A n c l) (h0 : 0 < n) :
    Calls Try.prog 27 #[.slice A n c] w fun e w' => e = .returned (.int .i64 (endF 0 l)) ∧ Below w.heap.size w w' := by
  have hbig := h.big
  have hlen := h.len
  obtain ⟨k, rfl⟩ : ∃ k, n = k + 1 := ⟨n - 1, by omega⟩
  obtain ⟨x, hx⟩ := h.get (i := k) (by omega)
  obtain ⟨b, o, hA, c0, c1, c2, c3⟩ := RowS.span_at h hx
  have he : Hid (endF 0 l = x.to) := endF_last (by rw [List.getLast?_eq_getElem?, hlen]; simpa using hx)
  subst hA
  have hs : ((k + 1 : Nat) : Int) - 1 = (k : Int) := by omega
  have hk0 : (0 : Int) ≤ (k : Int) := by omega
  have hkn : (k : Int) < ((k + 1 : Nat) : Int) := by omega
  have hwr : IntKind.i64.wrap (k : Int) = (k : Int) := by rw [IntKind.wrap_i64]; omega
  clear h hx h0
  go_enter Try.func27, Try.ntmps27
  go_wp2_with fail
  go_ret
  exact ⟨by rw [he.out]; rfl, Below.refl _ _⟩

set_option maxRecDepth 100000 in
set_option maxHeartbeats 3200000 in
theorem check_any {A : Option Addr} {n c : Nat} {l : List Sp} {w : World} (h : RowL w A n c l) :
    Calls Try.prog 24 #[.slice A n c] w fun e w' => e = .returned (.int .i64 (errOf (okS l))) ∧ Below w.heap.size w w' := by
  have HR := Lib.hid h
  have hbig := h.big
  have hlen := Lib.hid h.len
  have HM := fun o p w => Lib.hid (may_any o p w)
  clear h
  have HB := Lib.hid (fun k x (hx : l[k]? = some x) h => okS_bad (l := l) hx h)
  have HO : Hid (okS l = (goodF 0 l && (!l.isEmpty && decide (endF 0 l ≤ 1099511627776)))) := rfl
  generalize okS l = ok at *
  go_enter Try.func24, Try.ntmps24
  go_wp2_with fail
  go_loopw [3, 5, 8] (fun s _ i wr => ∃ (k : Nat) (u : Int), i = .int .i64 k ∧ s = .int .i64 u ∧ k ≤ n ∧ Hid (Below w.heap.size w wr ∧ endF 0 (l.take k) = u ∧ goodF 0 (l.take k) = true)) (fun _ _ i _ => n - (intOf i).toNat)
  case atStart => exact ⟨0, 0, rfl, rfl, by omega, Below.refl _ _, rfl, rfl⟩
  case round =>
    obtain ⟨k, u, rfl, rfl, hk, hH⟩ := hrel
    by_cases hlt : k < n
    · obtain ⟨x, hx⟩ := HR.out.get hlt
      obtain ⟨b, o, hA, d0, d1, d2, d3⟩ := RowS.span_at (HR.out.below hH.out.1) hx
      subst hA
      have HX := Lib.hid hx
      have hk0 : (0 : Int) ≤ (k : Int) := by omega
      have hkn : (k : Int) < (n : Int) := by omega
      clear hx
      have A1 : Hid (Below wr.heap.size wr (wr.alloc (.cells #[.int .i64 x.fr, .int .i64 x.to, .int .i64 x.own, .int .i64 x.ep] 32))) := (Below.refl _ wr).alloc (Nat.le_refl _) _
      have B1 : Hid (LBox (wr.alloc (.cells #[.int .i64 x.fr, .int .i64 x.to, .int .i64 x.own, .int .i64 x.ep] 32)) wr.heap.size x) := Cells.new _ _ _
      obtain ⟨n0, n1, n2, n3⟩ := LBox.cells B1.out
      go_upto_region 5 with fail
      generalize wr.alloc (.cells #[.int .i64 x.fr, .int .i64 x.to, .int .i64 x.own, .int .i64 x.ep] 32) = w1 at *
      have L1 := Lib.hid (hH.out.1.trans (A1.out.mono hH.out.1.size))
      have HBAD : Hid (spB u x = false → ok = false) := by
        show _ → _
        intro hf
        exact HB.out k x HX.out (by rw [hH.out.2.1]; exact hf)
      have HSP : Hid (spB u x = (!(x.fr != u) && (!decide (x.to ≤ x.fr) && mayOwn x.own x.ep))) := by
        show _ = _
        unfold spB
        rw [show (x.fr == u) = !(x.fr != u) by simp [bne], show decide (x.fr < x.to) = !decide (x.to ≤ x.fr) by rw [Bool.eq_iff_iff]; simp]
      have HM1 := fun w => Lib.hid ((HM x.own x.ep w).out)
      clear d0 d1 d2 d3
      rcases f1 : (x.fr != u)
      · rcases f2 : decide (x.to ≤ x.fr)
        · rcases f3 : mayOwn x.own x.ep
          · rw [f3] at HM1
            have HBB := Lib.hid (HBAD.out (by rw [HSP.out, f1, f2, f3]; rfl))
            clear HBAD HSP f3 HM
            go_wp2_with (go_at_call 34; refine (HM1 _).out.mono ?_; rintro e w2 ⟨rfl, rfl⟩)
            go_ret
            exact ⟨by rw [HBB.out]; rfl, L1.out⟩
          · rw [f3] at HM1
            have HSS := Lib.hid (good_step HX.out hH.out.2.2 (by rw [hH.out.2.1, HSP.out, f1, f2, f3]; rfl))
            clear HBAD HSP f3 HM
            go_wp2_with (go_at_call 34; refine (HM1 _).out.mono ?_; rintro e w2 ⟨rfl, rfl⟩)
            go_roundw
            case rel => exact ⟨k + 1, x.to, by go_num, rfl, by omega, L1.out, HSS.out.1, HSS.out.2⟩
            case measure => simp [intOf]; omega
        · have HBB := Lib.hid (HBAD.out (by rw [HSP.out, f1, f2]; rfl))
          clear HBAD HSP HM
          go_wp2_with fail
          go_ret
          exact ⟨by rw [HBB.out]; rfl, L1.out⟩
      · have HBB := Lib.hid (HBAD.out (by rw [HSP.out, f1]; rfl))
        clear HBAD HSP HM
        go_wp2_with fail
        go_ret
        exact ⟨by rw [HBB.out]; rfl, L1.out⟩
    · have hkn : l.take k = l := List.take_of_length_le (by have := hlen.out; omega)
      have HK := Lib.hid hkn
      have hke : k = n := by omega
      subst hke
      have HE : Hid (ok = (!l.isEmpty && decide (u ≤ 1099511627776))) := by
        show _ = _
        have h1 := hH.out.2
        rw [HK.out] at h1
        rw [HO.out, h1.2, h1.1, Bool.true_and]
      clear hkn HB HM
      rcases Nat.eq_zero_or_pos k with h0 | h0
      · have hok : Hid (ok = false) := by
          show _ = _
          rw [HE.out]
          have : l = [] := List.eq_nil_of_length_eq_zero (by rw [hlen.out, h0])
          subst this; rfl
        subst h0
        go_wp2_with fail
        go_ret
        exact ⟨by rw [hok.out]; rfl, hH.out.1⟩
      · have hok : Hid (ok = decide (u ≤ 1099511627776)) := by
          show _ = _
          rw [HE.out]
          have : l.isEmpty = false := by
            rcases l with _ | ⟨a, r⟩
            · have := hlen.out; simp at this; omega
            · rfl
          rw [this]; rfl
        have hn0 : (k == 0) = false := by simp; omega
        have hnz : ¬ (k : Int) = 0 := by omega
        rcases f1 : decide (1099511627776 < u)
        · have HT := Lib.hid (hok.out.trans (decide_eq_true (by have := of_decide_eq_false f1; omega)))
          go_wp2_with fail
          go_ret
          exact ⟨by rw [HT.out]; rfl, hH.out.1⟩
        · have HT := Lib.hid (hok.out.trans (decide_eq_false (by have := of_decide_eq_true f1; omega)))
          go_wp2_with fail
          go_ret
          exact ⟨by rw [HT.out]; rfl, hH.out.1⟩
end Spa
end Go.Proofs.Ytjoemlifpbjdbaa
