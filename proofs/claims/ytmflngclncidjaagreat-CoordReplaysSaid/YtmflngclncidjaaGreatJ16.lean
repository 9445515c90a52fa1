/-
  SEVERAL TEXTS IN ONE FILE: SpaParts, SpaNew.
-/
import Derived.Test.YtmflngclncidjaaGreatJ15
import Derived.StillTailTactics
import Derived.Test.YtmflngclncidjaaGreatJ05
/-
  WALKS: parts, Parts.
-/
namespace Go.Proofs.YtmflngclncidjaaGreat
open Go.RowKit Mem
namespace Spa

theorem run_midL (A : Option Addr) (n c k j : Nat) (hk : k ≤ j) (hj : j ≤ c) (w : World) : (Instr.slice 28 (.slice A n c) (some (.int .i64 (k : Int))) (some (.int .i64 (j : Int))) none).run Tryz.prog w = .ok (.slice (tailA A c k) (j - k) (c - k)) w := by
  obtain ⟨i, hi, hz0, hz1, hz2⟩ := info_parts info_span
  have h1 : (k : Int) ≤ (j : Int) := by omega
  have h0 : (0 : Int) ≤ (k : Int) := by omega
  have h2 : (j : Int) ≤ (c : Int) := by omega
  have h3 : (0 : Int) ≤ (j : Int) := by omega
  simp [Instr.slice, Instr.sliceBounds, run_sliceBound, h0, h1, h2, h3, run_underlying Tryz.underlying28, sizeOf, typeInfo, hi, hz1, tailA]
theorem between_row {w : World} {A : Option Addr} {n c : Nat} {l : List Sp} (h : RowL w A n c l) {i j : Nat} (hi : i ≤ j) (hj : j < n) : RowL w (tailA A c i) (j + 1 - i) (c - i) (between l i j) :=
  RowS.head (RowS.tail h (show i ≤ n by omega)) (by omega)

set_option maxRecDepth 100000 in
set_option maxHeartbeats 6400000 in
theorem parts_any {A : Option Addr} {n c : Nat} {l : List Sp} {N : Int} {w : World} (a b : Int) (h : RowL w A n c l) (hn : n ≤ 1000000) (hch : Ch 0 l N) (hN : N ≤ 1099511627776) (h0 : 0 ≤ a) (hab : a ≤ b) (hb : b ≤ N) :
    Calls Tryz.prog 88 #[.slice A n c, .int .i64 a, .int .i64 b] w fun e w' => (∃ B m d, e = .returned (.slice B m d) ∧ m ≤ n ∧ OwnsL w.heap.size w' (.slice B m d) m (partsS l a b)) ∧ Below w.heap.size w w' := by
  have HR := Lib.hid h
  have hbig := h.big
  have hcap := h.cap
  have hlen := Lib.hid h.len
  have HCH := Lib.hid hch
  have HAB := Lib.hid (And.intro h0 (And.intro hab (And.intro hb hN)))
  have HFA := fun w (h : RowL w A n c l) => Lib.hid (find_any (key := a) h hch)
  have HFB := fun w (h : RowL w A n c l) => Lib.hid (find_any (key := b - 1) h hch)
  clear h h0 hab hb hN hch
  rcases e1 : (a == b)
  · have hne : Hid (a < b) := by have h1 : a ≠ b := by simpa using e1
                                 have := HAB.out; show a < b; omega
    have hwb : IntKind.i64.wrap (b - 1) = b - 1 := by have := HAB.out; have := hne.out; rw [IntKind.wrap_i64]; omega
    go_enter Tryz.func88, Tryz.ntmps88
    go_wp2_with fail
    refine (HFA w HR.out).out.mono ?_
    rintro e w2 ⟨⟨i, rfl, hpi⟩, hb⟩
    have L2 := Lib.hid hb
    have PI := Lib.hid hpi
    clear hb hpi HFA
    go_wp2_with fail
    refine (HFB w2 (HR.out.below L2.out)).out.mono ?_
    rintro e w3 ⟨⟨j, rfl, hpj⟩, hb⟩
    have L3 := Lib.hid (L2.out.trans (hb.mono L2.out.size))
    have PJ := Lib.hid hpj
    clear hb hpj HFB L2
    obtain ⟨hij, hjl, -⟩ := parts_between HCH.out hne.out HAB.out.1 HAB.out.2.2.1 PI.out PJ.out
    have hjn : j < n := by have := hlen.out; omega
    have HIJ := Lib.hid (And.intro hij hjn)
    have R3 := Lib.hid (between_row (HR.out.below L3.out) hij hjn)
    obtain ⟨m, hm⟩ : ∃ m, m = j + 1 - i := ⟨_, rfl⟩
    have hsl : ∀ w, (Instr.slice 28 (.slice A n c) (some (.int .i64 (i : Int))) (some (.int .i64 ((j : Int) + 1))) none).run Tryz.prog w = .ok (.slice (tailA A c i) m (c - i)) w := by
      intro w
      have := run_midL A n c i (j + 1) (by omega) (by omega) w
      rw [hm]
      exact this
    rw [← hm] at R3
    have hwj : IntKind.i64.wrap ((j : Int) + 1) = (j : Int) + 1 := by rw [IntKind.wrap_i64]; omega
    have HM := Lib.hid hm
    have HCL := fun w (h : RowL w (tailA A c i) m (c - i) (between l i j)) => Lib.hid (clone_any h (by have := HM.out; have := HIJ.out; omega))
    clear hij hjl hjn hm
    generalize tailA A c i = TA at *
    generalize c - i = TC at *
    go_wp2_with fail
    refine (HCL w3 R3.out).out.mono ?_
    rintro e w4 ⟨⟨B, d, rfl, hO⟩, hb⟩
    have L4 := Lib.hid (L3.out.trans (hb.mono L3.out.size))
    have O4 := Lib.hid (hO.mono L3.out.size)
    clear hb hO HCL R3
    obtain ⟨q, hq⟩ : ∃ q, q = j - i := ⟨_, rfl⟩
    have hqm : m = q + 1 := by have := HM.out; have := HIJ.out; omega
    have hbl : (between l i j).length = m := O4.out.2
    obtain ⟨x, hx⟩ : ∃ x, (between l i j)[0]? = some x := ⟨_, List.getElem?_eq_getElem (by omega)⟩
    obtain ⟨y, hy⟩ : ∃ y, ((between l i j).set 0 (putFr x a))[q]? = some y := ⟨_, List.getElem?_eq_getElem (by rw [List.length_set]; omega)⟩
    have FIN : Hid (partsS l a b = ((between l i j).set 0 (putFr x a)).set q (longer y b)) := by
      show _ = _
      have h1 := parts_code HCH.out hne.out HAB.out.1 HAB.out.2.2.1 PI.out PJ.out hx (by rw [← hq]; exact hy)
      rw [← hq] at h1
      exact h1
    obtain ⟨g, hB, hge, hgl, ⟨q0, q1, q2, q3⟩, hfz, hput⟩ := OwnsL.put O4.out hx
    subst hB
    have O5 := Lib.hid (hput 0 (.int .i64 a) (putFr x a) (by omega) rfl)
    have L5 : Hid (Below w.heap.size w (w4.setCell ⟨g, 0 * 4 + 0, none⟩ (.int .i64 a))) := belowk L4.out hge _ _
    have hf0 := hfz 0
    simp only [Nat.zero_mul, Nat.add_zero] at q0 O5 L5
    have hm0 : (0 : Int) < (m : Int) := by omega
    have HQ := Lib.hid (And.intro hq hqm)
    have HX := Lib.hid hx
    have HY := Lib.hid hy
    have hqw : (m : Int) - 1 = (q : Int) := by omega
    have hq0 : (0 : Int) ≤ (q : Int) := by omega
    have hqn : (q : Int) < (m : Int) := by omega
    have hmn : m ≤ n := by have := HM.out; have := HIJ.out; omega
    clear hput hfz hx hy hq hqm hbl q1 q2 q3
    go_upto_region 5 with fail
    generalize w4.setCell ⟨g, 0, none⟩ (.int .i64 a) = w5 at *
    clear q0 hf0
    obtain ⟨g2, hB, hge2, hgl2, ⟨p0, p1, p2, p3⟩, hfz, hput⟩ := OwnsL.put O5.out HY.out
    injection hB with hB
    injection hB with hB
    subst hB
    have O6 := Lib.hid (hput 1 (.int .i64 b) (longer y b) (by omega) rfl)
    have L6 : Hid (Below w.heap.size w (w5.setCell ⟨g, q * 4 + 1, none⟩ (.int .i64 b))) := belowk L5.out hge _ _
    have hf1 := hfz (q * 4 + 1)
    have hqw2 : IntKind.i64.wrap (q : Int) = (q : Int) := by rw [IntKind.wrap_i64]; omega
    clear hput hfz p0 p2 p3
    go_wp2_with fail
    go_ret
    exact ⟨⟨_, m, d, rfl, hmn, by rw [FIN.out]; exact O6.out⟩, L6.out⟩
  · have hE : a = b := by simpa using e1
    have HN : Hid (partsS l a b = []) := by show _ = _; rw [hE]; exact partsS_self l b
    clear hE
    go_enter Tryz.func88, Tryz.ntmps88
    go_wp2_with fail
    go_ret
    exact ⟨⟨none, 0, 0, rfl, Nat.zero_le _, by rw [HN.out]; exact OwnsL.nil _ _⟩, Below.refl _ _⟩

set_option maxRecDepth 100000 in
set_option maxHeartbeats 3200000 in
theorem Parts_any {A : Option Addr} {n c : Nat} {l : List Sp} {w : World} (a b : Int) (h : RowL w A n c l) (hn : n ≤ 1000000) :
    Calls Tryz.prog 68 #[.slice A n c, .int .i64 a, .int .i64 b] w (GaveS w (partsP l a b)) := by
  have HR := Lib.hid h
  have hbig := h.big
  have hlen := Lib.hid h.len
  clear h
  unfold partsP rangeB
  rcases hok : okS l
  · have HC := fun w (h : RowL w A n c l) => Lib.hid (check_badT h hok)
    go_enter Tryz.func68, Tryz.ntmps68
    go_wp2_with fail
    refine (HC w HR.out).out.mono ?_
    rintro e w2 ⟨rfl, hb⟩
    have L2 := Lib.hid hb
    clear hb
    go_wp2_with fail
    go_ret2
    exact GaveS.none_ L2.out
  · have HC := fun w (h : RowL w A n c l) => Lib.hid (check_okT h hok)
    have hn0 : 0 < n := by
      have := (okS_iff.1 hok).2.2.1
      rcases Nat.eq_zero_or_pos n with h0 | h0
      · exact absurd (List.eq_nil_of_length_eq_zero (by rw [hlen.out, h0])) this
      · exact h0
    have HE := fun w (h : RowL w A n c l) => Lib.hid (end_any h hn0)
    have HCH := Lib.hid (And.intro (ok_ch hok) (ok_le hok))
    clear hok hn0
    generalize endF 0 l = N at *
    rcases e1 : decide (a < 0)
    · rcases e2 : decide (b ≤ a)
      · rcases e3 : decide (N < b)
        · have HP := fun w (h : RowL w A n c l) => Lib.hid (parts_any a b h hn HCH.out.1 HCH.out.2 (by have := of_decide_eq_false e1; omega) (by have := of_decide_eq_false e2; omega) (by have := of_decide_eq_false e3; omega))
          go_enter Tryz.func68, Tryz.ntmps68
          go_wp2_with fail
          refine (HC w HR.out).out.mono ?_
          rintro e w2 ⟨rfl, hb⟩
          have L2 := Lib.hid hb
          clear hb
          go_wp2_with fail
          refine (HE w2 (HR.out.below L2.out)).out.mono ?_
          rintro e w3 ⟨rfl, hb⟩
          have L3 := Lib.hid (L2.out.trans (hb.mono L2.out.size))
          clear hb L2
          go_wp2_with fail
          refine (HP w3 (HR.out.below L3.out)).out.mono ?_
          rintro e w4 ⟨⟨B, m, d, rfl, hm, hO⟩, hb⟩
          have L4 := Lib.hid (L3.out.trans (hb.mono L3.out.size))
          have O4 := Lib.hid (hO.mono L3.out.size)
          clear hb hO L3 HP
          go_wp2_with fail
          go_ret2
          exact GaveS.of O4.out (by omega) L4.out
        · go_enter Tryz.func68, Tryz.ntmps68
          go_wp2_with fail
          refine (HC w HR.out).out.mono ?_
          rintro e w2 ⟨rfl, hb⟩
          have L2 := Lib.hid hb
          clear hb
          go_wp2_with fail
          refine (HE w2 (HR.out.below L2.out)).out.mono ?_
          rintro e w3 ⟨rfl, hb⟩
          have L3 := Lib.hid (L2.out.trans (hb.mono L2.out.size))
          clear hb L2
          go_wp2_with fail
          go_ret2
          exact GaveS.none_ L3.out
      · go_enter Tryz.func68, Tryz.ntmps68
        go_wp2_with fail
        refine (HC w HR.out).out.mono ?_
        rintro e w2 ⟨rfl, hb⟩
        have L2 := Lib.hid hb
        clear hb
        go_wp2_with fail
        go_ret2
        exact GaveS.none_ L2.out
    · go_enter Tryz.func68, Tryz.ntmps68
      go_wp2_with fail
      refine (HC w HR.out).out.mono ?_
      rintro e w2 ⟨rfl, hb⟩
      have L2 := Lib.hid hb
      clear hb
      go_wp2_with fail
      go_ret2
      exact GaveS.none_ L2.out
end Spa
end Go.Proofs.YtmflngclncidjaaGreat
/-
  WALKS: New, Owned.
-/
namespace Go.Proofs.YtmflngclncidjaaGreat
open Go.RowKit Mem
namespace Spa

set_option maxRecDepth 100000 in
set_option maxHeartbeats 1600000 in
theorem noOnes_any (a b : Int) (w : World) :
    Calls Tryz.prog 53 #[.int .i64 a, .int .i64 b] w fun e w' => e = .returned (sv ⟨a, b, -1, 0⟩) ∧ Below w.heap.size w w' := by
  have L1 : Hid (Below w.heap.size w (w.alloc (.cells #[.int .i64 0, .int .i64 0, .int .i64 0, .int .i64 0] 48))) := (Below.refl w.heap.size w).alloc (Nat.le_refl _) _
  have N1 : Hid (LBox (w.alloc (.cells #[.int .i64 0, .int .i64 0, .int .i64 0, .int .i64 0] 48)) w.heap.size zS) := Cells.new w _ _
  go_enter Tryz.func53, Tryz.ntmps53
  go_upto_region 1 with fail
  generalize w.alloc (.cells #[.int .i64 0, .int .i64 0, .int .i64 0, .int .i64 0] 48) = w1 at *
  obtain ⟨z0, z1, z2, z3⟩ := LBox.cells (x := zS) N1.out
  obtain ⟨f0, f1, f2, f3⟩ := LBox.frozen (x := zS) N1.out
  go_wp2_with fail
  refine bodyPost_ret_by (results_c0 rfl _ _ w.heap.size _ _ _ _ rfl (Cells.set4 N1.out (.int .i64 a) (.int .i64 b) (.int .i64 (-1)) (.int .i64 0)) Tryz.underlying48 rfl (by kernel_rfl)) rfl ?_
  exact ⟨rfl, below4 L1.out (Nat.le_refl _) _ _ _ _⟩

def newB (n : Int) : Bool := decide (1 ≤ n) && decide (n ≤ 1099511627776)
def newP (n : Int) : List Sp × Int := bif newB n then ([⟨0, n, -1, 0⟩], 0) else ([], 1)

set_option maxRecDepth 100000 in
set_option maxHeartbeats 1600000 in
theorem new_any (n : Int) (w : World) : Calls Tryz.prog 36 #[.int .i64 n] w (GaveS w (newP n)) := by
  have HN := fun w => Lib.hid (noOnes_any 0 n w)
  unfold newP newB
  rcases e1 : decide (n < 1)
  · rcases e2 : decide (1099511627776 < n)
    · rw [decide_eq_true (show 1 ≤ n by have := of_decide_eq_false e1; omega), decide_eq_true (show n ≤ 1099511627776 by have := of_decide_eq_false e2; omega)]
      go_enter Tryz.func36, Tryz.ntmps36
      go_wp2_with fail
      refine (HN w).out.mono ?_
      rintro e w2 ⟨rfl, hb⟩
      have L2 := Lib.hid hb
      clear hb
      have O2 : Hid (OwnsL w.heap.size (w2.alloc (.cells #[.int .i64 0, .int .i64 n, .int .i64 (-1), .int .i64 0] 48)) (.slice (some ⟨w2.heap.size, 0, none⟩) 1 1) 1 [⟨0, n, -1, 0⟩]) :=
        OwnsL.built ⟨0, n, -1, 0⟩ L2.out.size
      have L3 : Hid (Below w.heap.size w (w2.alloc (.cells #[.int .i64 0, .int .i64 n, .int .i64 (-1), .int .i64 0] 48))) := L2.out.alloc L2.out.size _
      go_wp2_with fail
      go_ret2
      exact GaveS.of O2.out (by omega) L3.out
    · rw [decide_eq_false (show ¬ n ≤ 1099511627776 by have := of_decide_eq_true e2; omega), Bool.and_false]
      go_enter Tryz.func36, Tryz.ntmps36
      go_wp2_with fail
      go_ret2
      exact GaveS.none_ (Below.refl _ _)
  · rw [decide_eq_false (show ¬ 1 ≤ n by have := of_decide_eq_true e1; omega), Bool.false_and]
    go_enter Tryz.func36, Tryz.ntmps36
    go_wp2_with fail
    go_ret2
    exact GaveS.none_ (Below.refl _ _)

end Spa
end Go.Proofs.YtmflngclncidjaaGreat
