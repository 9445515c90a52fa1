/-
  WALKS: which owners may be, where spans end, whether spans may be: the document's tests.
-/
import Derived.Test.YtjoemlifpbjdbaaSpaCheck
namespace Go.Proofs.Ytjoemlifpbjdbaa
open Go.RowKit Mem
namespace Spa

theorem okS_far {l : List Sp} {k : Nat} {x : Sp} (hx : l[k]? = some x) (h : 1099511627776 < x.to) : okS l = false := by
  rcases e : okS l
  · rfl
  · obtain ⟨h1, -, -, h2⟩ := okS_iff.1 e
    have := h1.mem (List.mem_of_getElem? hx)
    omega

set_option maxRecDepth 100000 in
set_option maxHeartbeats 1600000 in
theorem owner_any (o p : Int) (w : World) : Calls Try.prog 40 #[.int .i64 o, .int .i64 p] w fun e w' => e = .returned (.bool (mayOwn o p)) ∧ w' = w := by
  unfold mayOwn hostB
  rcases e1 : (o == -1)
  · rcases e2 : decide (0 ≤ o)
    · go_enter Try.func40, Try.ntmps40
      go_wp2
      go_ret
      exact ⟨rfl, rfl⟩
    · rcases e3 : decide (o < 8)
      · go_enter Try.func40, Try.ntmps40
        go_wp2
        go_ret
        exact ⟨rfl, rfl⟩
      · rcases e4 : decide (1 ≤ p)
        · go_enter Try.func40, Try.ntmps40
          go_wp2
          go_ret
          exact ⟨rfl, rfl⟩
        · go_enter Try.func40, Try.ntmps40
          go_wp2
          go_ret
          exact ⟨rfl, rfl⟩
  · have ho : o = -1 := by simpa using e1
    subst ho
    rcases e2 : (p == 0)
    · go_enter Try.func40, Try.ntmps40
      go_wp2
      go_ret
      exact ⟨rfl, rfl⟩
    · go_enter Try.func40, Try.ntmps40
      go_wp2
      go_ret
      exact ⟨rfl, rfl⟩

set_option maxRecDepth 100000 in
set_option maxHeartbeats 800000 in
theorem refEnd_any {A : Option Addr} {n c : Nat} {l : List Sp} {w : World} (h : RowL w A n c l) (h0 : 0 < n) :
    Calls Try.prog 30 #[.slice A n c] w fun e w' => e = .returned (.int .i64 (endF 0 l)) ∧ Below w.heap.size w w' := by
  have hbig := h.big
  have hlen := h.len
  obtain ⟨k, rfl⟩ : ∃ k, n = k + 1 := ⟨n - 1, by omega⟩
  obtain ⟨x, hx⟩ := h.get (i := k) (by omega)
  obtain ⟨b, o, hA, c0, c1, c2, c3⟩ := RowS.span_at h hx
  have he : Hid (endF 0 l = x.to) := endF_last (by rw [List.getLast?_eq_getElem?, hlen]; simpa using hx)
  subst hA
  have hs : ((k + 1 : Nat) : Int) - 1 = (k : Int) := by omega
  have hk0 : (0 : Int) ≤ (k : Int) := by omega
  have hkn : (k : Int) < ((k + 1 : Nat) : Int) := by omega
  have hwr : IntKind.i64.wrap (k : Int) = (k : Int) := by rw [IntKind.wrap_i64]; omega
  clear h hx h0
  go_enter Try.func30, Try.ntmps30
  go_wp2_with fail
  go_ret
  exact ⟨by rw [he.out]; rfl, Below.refl _ _⟩

set_option maxRecDepth 100000 in
set_option maxHeartbeats 3200000 in
theorem refCheck_any {A : Option Addr} {n c : Nat} {l : List Sp} {w : World} (h : RowL w A n c l) :
    Calls Try.prog 18 #[.slice A n c] w fun e w' => e = .returned (.int .i64 (errOf (okS l))) ∧ Below w.heap.size w w' := by
  have HR := Lib.hid h
  have hbig := h.big
  have hlen := Lib.hid h.len
  have HM := fun o p w => Lib.hid (owner_any o p w)
  clear h
  rcases Nat.eq_zero_or_pos n with h0 | h0
  · subst h0
    have : l = [] := List.eq_nil_of_length_eq_zero hlen.out
    subst this
    go_enter Try.func18, Try.ntmps18
    go_wp2_with fail
    go_ret
    exact ⟨rfl, Below.refl _ _⟩
  have HB := Lib.hid (fun k x (hx : l[k]? = some x) h => okS_bad (l := l) hx h)
  have HF := Lib.hid (fun k x (hx : l[k]? = some x) h => okS_far (l := l) hx h)
  have hE : l.isEmpty = false := by
    rcases l with _ | ⟨a, r⟩
    · have := hlen.out; simp at this; omega
    · rfl
  have HO : Hid (okS l = (goodF 0 l && decide (endF 0 l ≤ 1099511627776))) := by show _ = _; unfold okS; rw [hE]; rfl
  have hn0 : ((n : Int) == 0) = false := by simp; omega
  have hnz : ¬ (n : Int) = 0 := by omega
  clear hE
  generalize okS l = ok at *
  go_enter Try.func18, Try.ntmps18
  go_wp2_with fail
  go_loopw [3, 5, 11] (fun s _ i wr => ∃ (k : Nat) (u : Int), i = .int .i64 k ∧ s = .int .i64 u ∧ k ≤ n ∧ Hid (Below w.heap.size w wr ∧ endF 0 (l.take k) = u ∧ goodF 0 (l.take k) = true ∧ u ≤ 1099511627776)) (fun _ _ i _ => n - (intOf i).toNat)
  case atStart => exact ⟨0, 0, rfl, rfl, by omega, Below.refl _ _, rfl, rfl, by omega⟩
  case round =>
    obtain ⟨k, u, rfl, rfl, hk, hH⟩ := hrel
    by_cases hlt : k < n
    · obtain ⟨x, hx⟩ := HR.out.get hlt
      obtain ⟨b, o, hA, d0, d1, d2, d3⟩ := RowS.span_at (HR.out.below hH.out.1) hx
      subst hA
      have HX := Lib.hid hx
      have hk0 : (0 : Int) ≤ (k : Int) := by omega
      have hkn : (k : Int) < (n : Int) := by omega
      clear hx
      have A1 : Hid (Below wr.heap.size wr (wr.alloc (.cells #[.int .i64 x.fr, .int .i64 x.to, .int .i64 x.own, .int .i64 x.ep] 32))) := (Below.refl _ wr).alloc (Nat.le_refl _) _
      have B1 : Hid (LBox (wr.alloc (.cells #[.int .i64 x.fr, .int .i64 x.to, .int .i64 x.own, .int .i64 x.ep] 32)) wr.heap.size x) := Cells.new _ _ _
      obtain ⟨n0, n1, n2, n3⟩ := LBox.cells B1.out
      go_upto_region 7 with fail
      generalize wr.alloc (.cells #[.int .i64 x.fr, .int .i64 x.to, .int .i64 x.own, .int .i64 x.ep] 32) = w1 at *
      have L1 := Lib.hid (hH.out.1.trans (A1.out.mono hH.out.1.size))
      have HBAD : Hid (spB u x = false → ok = false) := by
        show _ → _
        intro hf
        exact HB.out k x HX.out (by rw [hH.out.2.1]; exact hf)
      have HSP : Hid (spB u x = (!(x.fr != u) && (!decide (x.to ≤ x.fr) && mayOwn x.own x.ep))) := by
        show _ = _
        unfold spB
        rw [show (x.fr == u) = !(x.fr != u) by simp [bne], show decide (x.fr < x.to) = !decide (x.to ≤ x.fr) by rw [Bool.eq_iff_iff]; simp]
      have HM1 := fun w => Lib.hid ((HM x.own x.ep w).out)
      clear d0 d1 d2 d3
      rcases f1 : (x.fr != u)
      · rcases f2 : decide (x.to ≤ x.fr)
        · rcases f4 : decide (1099511627776 < x.to)
          · have HLE := Lib.hid (of_decide_eq_false f4)
            rcases f3 : mayOwn x.own x.ep
            · rw [f3] at HM1
              have HBB := Lib.hid (HBAD.out (by rw [HSP.out, f1, f2, f3]; rfl))
              clear HBAD HSP f3 HM
              go_wp2_with (go_at_call 40; refine (HM1 _).out.mono ?_; rintro e w2 ⟨rfl, rfl⟩)
              go_ret
              exact ⟨by rw [HBB.out]; rfl, L1.out⟩
            · rw [f3] at HM1
              have HSS := Lib.hid (good_step HX.out hH.out.2.2.1 (by rw [hH.out.2.1, HSP.out, f1, f2, f3]; rfl))
              clear HBAD HSP f3 HM
              go_wp2_with (go_at_call 40; refine (HM1 _).out.mono ?_; rintro e w2 ⟨rfl, rfl⟩)
              go_roundw
              case rel => exact ⟨k + 1, x.to, by go_num, rfl, by omega, L1.out, HSS.out.1, HSS.out.2, by have := HLE.out; omega⟩
              case measure => simp [intOf]; omega
          · have HBB := Lib.hid (HF.out k x HX.out (of_decide_eq_true f4))
            clear HBAD HSP HM
            go_wp2_with fail
            go_ret
            exact ⟨by rw [HBB.out]; rfl, L1.out⟩
        · have HBB := Lib.hid (HBAD.out (by rw [HSP.out, f1, f2]; rfl))
          clear HBAD HSP HM
          go_wp2_with fail
          go_ret
          exact ⟨by rw [HBB.out]; rfl, L1.out⟩
      · have HBB := Lib.hid (HBAD.out (by rw [HSP.out, f1]; rfl))
        clear HBAD HSP HM
        go_wp2_with fail
        go_ret
        exact ⟨by rw [HBB.out]; rfl, L1.out⟩
    · have hkn : l.take k = l := List.take_of_length_le (by have := hlen.out; omega)
      have HE : Hid (ok = true) := by
        show _ = _
        have h1 := hH.out.2
        rw [hkn] at h1
        rw [HO.out, h1.2.1, h1.1, decide_eq_true h1.2.2]; rfl
      clear hkn HB HM HF
      go_wp2_with fail
      go_ret
      exact ⟨by rw [HE.out]; rfl, hH.out.1⟩
end Spa
end Go.Proofs.Ytjoemlifpbjdbaa
