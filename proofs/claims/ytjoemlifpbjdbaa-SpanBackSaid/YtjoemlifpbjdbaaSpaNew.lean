/-
  WALKS: New, Owned.
-/
import Derived.Test.YtjoemlifpbjdbaaSpaOwn
namespace Go.Proofs.Ytjoemlifpbjdbaa
open Go.RowKit Mem
namespace Spa

set_option maxRecDepth 100000 in
set_option maxHeartbeats 1600000 in
theorem noOnes_any (a b : Int) (w : World) :
    Calls Try.prog 43 #[.int .i64 a, .int .i64 b] w fun e w' => e = .returned (sv ⟨a, b, -1, 0⟩) ∧ Below w.heap.size w w' := by
  have L1 : Hid (Below w.heap.size w (w.alloc (.cells #[.int .i64 0, .int .i64 0, .int .i64 0, .int .i64 0] 32))) := (Below.refl w.heap.size w).alloc (Nat.le_refl _) _
  have N1 : Hid (LBox (w.alloc (.cells #[.int .i64 0, .int .i64 0, .int .i64 0, .int .i64 0] 32)) w.heap.size zS) := Cells.new w _ _
  go_enter Try.func43, Try.ntmps43
  go_upto_region 1 with fail
  generalize w.alloc (.cells #[.int .i64 0, .int .i64 0, .int .i64 0, .int .i64 0] 32) = w1 at *
  obtain ⟨z0, z1, z2, z3⟩ := LBox.cells (x := zS) N1.out
  obtain ⟨f0, f1, f2, f3⟩ := LBox.frozen (x := zS) N1.out
  go_wp2_with fail
  refine bodyPost_ret_by (results_c0 rfl _ _ w.heap.size _ _ _ _ rfl (Cells.set4 N1.out (.int .i64 a) (.int .i64 b) (.int .i64 (-1)) (.int .i64 0)) Try.underlying32 rfl (by kernel_rfl)) rfl ?_
  exact ⟨rfl, below4 L1.out (Nat.le_refl _) _ _ _ _⟩

def newB (n : Int) : Bool := decide (1 ≤ n) && decide (n ≤ 1099511627776)
def newP (n : Int) : List Sp × Int := bif newB n then ([⟨0, n, -1, 0⟩], 0) else ([], 1)

set_option maxRecDepth 100000 in
set_option maxHeartbeats 1600000 in
theorem new_any (n : Int) (w : World) : Calls Try.prog 22 #[.int .i64 n] w (GaveS w (newP n)) := by
  have HN := fun w => Lib.hid (noOnes_any 0 n w)
  unfold newP newB
  rcases e1 : decide (n < 1)
  · rcases e2 : decide (1099511627776 < n)
    · rw [decide_eq_true (show 1 ≤ n by have := of_decide_eq_false e1; omega), decide_eq_true (show n ≤ 1099511627776 by have := of_decide_eq_false e2; omega)]
      go_enter Try.func22, Try.ntmps22
      go_wp2_with fail
      refine (HN w).out.mono ?_
      rintro e w2 ⟨rfl, hb⟩
      have L2 := Lib.hid hb
      clear hb
      have O2 : Hid (OwnsL w.heap.size (w2.alloc (.cells #[.int .i64 0, .int .i64 n, .int .i64 (-1), .int .i64 0] 32)) (.slice (some ⟨w2.heap.size, 0, none⟩) 1 1) 1 [⟨0, n, -1, 0⟩]) :=
        OwnsL.built ⟨0, n, -1, 0⟩ L2.out.size
      have L3 : Hid (Below w.heap.size w (w2.alloc (.cells #[.int .i64 0, .int .i64 n, .int .i64 (-1), .int .i64 0] 32))) := L2.out.alloc L2.out.size _
      go_wp2_with fail
      go_ret2
      exact GaveS.of O2.out (by omega) L3.out
    · rw [decide_eq_false (show ¬ n ≤ 1099511627776 by have := of_decide_eq_true e2; omega), Bool.and_false]
      go_enter Try.func22, Try.ntmps22
      go_wp2_with fail
      go_ret2
      exact GaveS.none_ (Below.refl _ _)
  · rw [decide_eq_false (show ¬ 1 ≤ n by have := of_decide_eq_true e1; omega), Bool.false_and]
    go_enter Try.func22, Try.ntmps22
    go_wp2_with fail
    go_ret2
    exact GaveS.none_ (Below.refl _ _)

set_option maxRecDepth 100000 in
set_option maxHeartbeats 3200000 in
theorem owned_any {A : Option Addr} {n c : Nat} {l : List Sp} {w : World} (o : Int) (h : RowL w A n c l) :
    Calls Try.prog 21 #[.slice A n c, .int .i64 o] w fun e w' => e = .returned (.int .i64 (ownedP l o)) ∧ Below w.heap.size w w' := by
  have HR := Lib.hid h
  have hbig := h.big
  have hlen := Lib.hid h.len
  clear h
  unfold ownedP
  rcases hok : okS l
  · have HC := fun w (h : RowL w A n c l) => Lib.hid (check_badT h hok)
    go_enter Try.func21, Try.ntmps21
    go_wp2_with fail
    refine (HC w HR.out).out.mono ?_
    rintro e w2 ⟨rfl, hb⟩
    have L2 := Lib.hid hb
    clear hb
    go_wp2_with fail
    go_ret
    exact ⟨rfl, L2.out⟩
  · have HC := fun w (h : RowL w A n c l) => Lib.hid (check_okT h hok)
    have HCH := Lib.hid (And.intro (ok_ch hok) (ok_le hok))
    clear hok
    go_enter Try.func21, Try.ntmps21
    go_wp2_with fail
    refine (HC w HR.out).out.mono ?_
    rintro e w2 ⟨rfl, hb⟩
    have LS := Lib.hid hb
    clear hb HC
    go_wp2_with fail
    go_loopw [5, 7, 13] (fun s _ i wr => ∃ (k : Nat) (u : Int), i = .int .i64 k ∧ s = .int .i64 u ∧ k ≤ n ∧ Hid (Below w.heap.size w wr ∧ u = ownedS (l.take k) o)) (fun _ _ i _ => n - (intOf i).toNat)
    case atStart => exact ⟨0, 0, rfl, rfl, by omega, LS.out, rfl⟩
    case round =>
      obtain ⟨k, u, rfl, rfl, hk, hH⟩ := hrel
      by_cases hlt : k < n
      · obtain ⟨x, hx⟩ := HR.out.get hlt
        obtain ⟨b, q, hA, d0, d1, d2, d3⟩ := RowS.span_at (HR.out.below hH.out.1) hx
        subst hA
        have hk0 : (0 : Int) ≤ (k : Int) := by omega
        have hkn : (k : Int) < (n : Int) := by omega
        have HS : Hid (ownedS (l.take (k + 1)) o = u + partO o x) := by
          show _ = _
          rw [take_snoc hx, ownedS_app, ← hH.out.2, ownedS_cons, ownedS_nil]; omega
        have HBD : Hid (0 ≤ u ∧ u ≤ 1099511627776 ∧ 0 ≤ x.fr ∧ x.fr < x.to ∧ x.to ≤ 1099511627776 ∧ u + (x.to - x.fr) ≤ 1099511627776) := by
          show _ ∧ _
          obtain ⟨h1, h2⟩ := HCH.out
          have h3 := ch_at h1 hx
          have h1' := h1
          rw [take_split hx] at h1'
          obtain ⟨m, h4, h5⟩ := h1'.split
          have h6 := ownedS_le h4 o
          have h7 := h5.1
          rw [← hH.out.2] at h6
          omega
        clear hx
        have A1 : Hid (Below wr.heap.size wr (wr.alloc (.cells #[.int .i64 x.fr, .int .i64 x.to, .int .i64 x.own, .int .i64 x.ep] 32))) := (Below.refl _ wr).alloc (Nat.le_refl _) _
        have B1 : Hid (LBox (wr.alloc (.cells #[.int .i64 x.fr, .int .i64 x.to, .int .i64 x.own, .int .i64 x.ep] 32)) wr.heap.size x) := Cells.new _ _ _
        obtain ⟨n0, n1, n2, n3⟩ := LBox.cells B1.out
        go_upto_region 7 with fail
        generalize wr.alloc (.cells #[.int .i64 x.fr, .int .i64 x.to, .int .i64 x.own, .int .i64 x.ep] 32) = w1 at *
        have L1 := Lib.hid (hH.out.1.trans (A1.out.mono hH.out.1.size))
        clear d0 d1 d2 d3
        rcases f1 : (x.own == o)
        · have HP : Hid (partO o x = 0) := by show _ = _; unfold partO; rw [f1]; rfl
          go_wp2_with fail
          go_roundw
          case rel => exact ⟨k + 1, u, by go_num, rfl, by omega, L1.out, by rw [HS.out, HP.out]; omega⟩
          case measure => simp [intOf]; omega
        · have HP : Hid (partO o x = x.to - x.fr) := by show _ = _; unfold partO; rw [f1]; rfl
          have hw1 : IntKind.i64.wrap (x.to - x.fr) = x.to - x.fr := by have := HBD.out; rw [IntKind.wrap_i64]; omega
          have hw2 : IntKind.i64.wrap (u + (x.to - x.fr)) = u + (x.to - x.fr) := by have := HBD.out; rw [IntKind.wrap_i64]; omega
          go_wp2_with fail
          go_roundw
          case rel => exact ⟨k + 1, u + (x.to - x.fr), by go_num, by (first | rfl | (rw [hw2]) | (rw [hw1, hw2]) | simp only [hw1, hw2]), by omega, L1.out, by rw [HS.out, HP.out]⟩
          case measure => simp [intOf]; omega
      · have hkn : l.take k = l := List.take_of_length_le (by have := hlen.out; omega)
        have HK : Hid (u = ownedS l o) := by show _ = _; rw [hH.out.2, hkn]
        clear hkn
        go_wp2_with fail
        go_ret
        exact ⟨by rw [← HK.out]; rfl, hH.out.1⟩
end Spa
end Go.Proofs.Ytjoemlifpbjdbaa
