/-
  WALKS: the document's Parts and cut.
-/
import Derived.Test.YtjoemlifpbjdbaaSpaTake
namespace Go.Proofs.Ytjoemlifpbjdbaa
open Go.RowKit Mem
namespace Spa

theorem parts_snoc {l : List Sp} {k : Nat} {x : Sp} (hx : l[k]? = some x) (a b : Int) : partsS (l.take (k + 1)) a b = partsS (l.take k) a b ++ (bif decide (max x.fr a < min x.to b) then [clip a b x] else []) := by
  rw [take_snoc hx, partsS_app, partsS_cons]
  by_cases h : max x.fr a < min x.to b
  · rw [if_pos h, decide_eq_true h]; rfl
  · rw [if_neg h, decide_eq_false h]; rfl
theorem cut_snoc {l : List Sp} {k : Nat} {x : Sp} (hx : l[k]? = some x) (p : Int) : cutS (l.take (k + 1)) p = cutS (l.take k) p ++ splitS p x := by
  rw [take_snoc hx, cutS_app, cutS_cons, show cutS [] p = [] from rfl, List.append_nil]
theorem run_max2 (ts : Array TypeId) (t : TypeId) (x y : Int) (w : World) : (Builtin.max_ ts t #[.int .i64 x, .int .i64 y]).run Try.prog w = .ok (.int .i64 (max x y)) w := by
  have e : (Builtin.max_ ts t #[.int .i64 x, .int .i64 y]).run Try.prog w = .ok (.int .i64 (if y > x then y else x)) w := by
    simp [Builtin.max_, Builtin.max2, List.foldlM]
  rw [e]
  congr 2
  split <;> omega
theorem run_min2 (ts : Array TypeId) (t : TypeId) (x y : Int) (w : World) : (Builtin.min_ ts t #[.int .i64 x, .int .i64 y]).run Try.prog w = .ok (.int .i64 (min x y)) w := by
  have e : (Builtin.min_ ts t #[.int .i64 x, .int .i64 y]).run Try.prog w = .ok (.int .i64 (if y < x then y else x)) w := by
    simp [Builtin.min_, Builtin.min2, List.foldlM]
  rw [e]
  congr 2
  split <;> omega
/-- Two spans in one block are a row of two. -/
theorem RowS.two {w : World} {q : Nat} {x y : Sp} (h : Cells w q 32 #[.int .i64 x.fr, .int .i64 x.to, .int .i64 x.own, .int .i64 x.ep, .int .i64 y.fr, .int .i64 y.to, .int .i64 y.own, .int .i64 y.ep]) : RowL w (some ⟨q, 0, none⟩) 2 2 [x, y] := by
  refine ⟨rfl, by omega, by omega, fun _ => ⟨_, _, rfl, Cells.lt h, fun i z hz j u hu => ?_⟩⟩
  have hj : j < 4 := (List.getElem?_eq_some_iff.1 hu).1
  rw [show 0 + i * 4 + j = i * 4 + j by omega, Cells.cell h]
  match i, hz with
  | 0, hz =>
    simp at hz; subst hz
    match j, hj, hu with
    | 0, _, hu => simpa [cellsL] using hu
    | 1, _, hu => simpa [cellsL] using hu
    | 2, _, hu => simpa [cellsL] using hu
    | 3, _, hu => simpa [cellsL] using hu
  | 1, hz =>
    simp at hz; subst hz
    match j, hj, hu with
    | 0, _, hu => simpa [cellsL] using hu
    | 1, _, hu => simpa [cellsL] using hu
    | 2, _, hu => simpa [cellsL] using hu
    | 3, _, hu => simpa [cellsL] using hu

set_option maxRecDepth 100000 in
set_option maxHeartbeats 6400000 in
theorem refParts_any {A : Option Addr} {n c : Nat} {l : List Sp} {w : World} (a b : Int) (h : RowL w A n c l) (hn : n ≤ 1000000) :
    Calls Try.prog 39 #[.slice A n c, .int .i64 a, .int .i64 b] w (GaveS w (partsP l a b)) := by
  have HR := Lib.hid h
  have hbig := h.big
  have hlen := Lib.hid h.len
  clear h
  unfold partsP rangeB
  rcases hok : okS l
  · have HC := fun w (h : RowL w A n c l) => Lib.hid (refCheck_badT h hok)
    go_enter Try.func39, Try.ntmps39
    go_wp2_with fail
    refine (HC w HR.out).out.mono ?_
    rintro e w2 ⟨rfl, hb⟩
    have L2 := Lib.hid hb
    clear hb
    go_wp2_with fail
    go_ret2
    exact GaveS.none_ L2.out
  · have HC := fun w (h : RowL w A n c l) => Lib.hid (refCheck_okT h hok)
    have hn0 : 0 < n := by
      have := (okS_iff.1 hok).2.2.1
      rcases Nat.eq_zero_or_pos n with h0 | h0
      · exact absurd (List.eq_nil_of_length_eq_zero (by rw [hlen.out, h0])) this
      · exact h0
    have HE := fun w (h : RowL w A n c l) => Lib.hid (refEnd_any h hn0)
    clear hok hn0
    generalize endF 0 l = N at *
    rcases e1 : decide (a < 0)
    · rcases e2 : decide (b ≤ a)
      · rcases e3 : decide (N < b)
        · go_enter Try.func39, Try.ntmps39
          go_wp2_with fail
          refine (HC w HR.out).out.mono ?_
          rintro e w2 ⟨rfl, hb⟩
          have L2 := Lib.hid hb
          clear hb
          go_wp2_with fail
          refine (HE w2 (HR.out.below L2.out)).out.mono ?_
          rintro e w3 ⟨rfl, hb⟩
          have L3 := Lib.hid (L2.out.trans (hb.mono L2.out.size))
          clear hb L2 HE HC
          go_wp2_with fail
          go_loopw [8, 10, 31] (fun s _ i wr => ∃ (k : Nat) (Y : Option Addr) (m f : Nat), i = .int .i64 k ∧ s = .slice Y m f ∧ k ≤ n ∧ m ≤ k ∧ Hid (Below w.heap.size w wr ∧ OwnsL w.heap.size wr (.slice Y m f) m (partsS (l.take k) a b))) (fun _ _ i _ => n - (intOf i).toNat)
          case atStart => exact ⟨0, none, 0, 0, rfl, rfl, by omega, by omega, L3.out, OwnsL.nil _ _⟩
          case round =>
            obtain ⟨k, Y, m, f, rfl, rfl, hk, hm, hH⟩ := hrel
            by_cases hlt : k < n
            · obtain ⟨x, hx⟩ := HR.out.get hlt
              obtain ⟨g, q, hA, d0, d1, d2, d3⟩ := RowS.span_at (HR.out.below hH.out.1) hx
              subst hA
              have hk0 : (0 : Int) ≤ (k : Int) := by omega
              have hkn : (k : Int) < (n : Int) := by omega
              have hmk : m ≤ 1000000 := by omega
              have HW := Lib.hid (parts_snoc hx a b)
              clear hx
              have A1 : Hid (Below wr.heap.size wr (wr.alloc (.cells #[.int .i64 x.fr, .int .i64 x.to, .int .i64 x.own, .int .i64 x.ep] 32))) := (Below.refl _ wr).alloc (Nat.le_refl _) _
              have B1 : Hid (LBox (wr.alloc (.cells #[.int .i64 x.fr, .int .i64 x.to, .int .i64 x.own, .int .i64 x.ep] 32)) wr.heap.size x) := Cells.new _ _ _
              obtain ⟨n0, n1, n2, n3⟩ := LBox.cells B1.out
              obtain ⟨z0, z1, z2, z3⟩ := LBox.frozen B1.out
              go_upto_region 7 with fail
              generalize wr.alloc (.cells #[.int .i64 x.fr, .int .i64 x.to, .int .i64 x.own, .int .i64 x.ep] 32) = w1 at *
              clear d0 d1 d2 d3
              have B2 : Hid (LBox ((w1.setCell ⟨wr.heap.size, 0, none⟩ (.int .i64 (max x.fr a))).setCell ⟨wr.heap.size, 1, none⟩ (.int .i64 (min x.to b))) wr.heap.size (clip a b x)) := Cells.set_ (Cells.set_ B1.out 0 (.int .i64 (max x.fr a))) 1 (.int .i64 (min x.to b))
              have A2 : Hid (Below wr.heap.size wr ((w1.setCell ⟨wr.heap.size, 0, none⟩ (.int .i64 (max x.fr a))).setCell ⟨wr.heap.size, 1, none⟩ (.int .i64 (min x.to b)))) := belowk (belowk A1.out (Nat.le_refl _) _ _) (Nat.le_refl _) _ _
              have hmax := run_max2 (x := x.fr) (y := a)
              have hmin := run_min2 (x := x.to) (y := b)
              go_upto_region 9 with fail
              clear hmax hmin
              generalize (w1.setCell ⟨wr.heap.size, 0, none⟩ (.int .i64 (max x.fr a))).setCell ⟨wr.heap.size, 1, none⟩ (.int .i64 (min x.to b)) = w2 at *
              clear n0 n1 n2 n3 z0 z1 z2 z3 B1 A1
              have L4 := Lib.hid (hH.out.1.trans (A2.out.mono hH.out.1.size))
              have Y2 := Lib.hid (OwnsL.below hH.out.2 A2.out)
              obtain ⟨n0, n1, n2, n3⟩ := LBox.cells B2.out
              have n0' : w2.cell? ⟨wr.heap.size, 0, none⟩ = some (.int .i64 (max x.fr a)) := n0
              have n1' : w2.cell? ⟨wr.heap.size, 1, none⟩ = some (.int .i64 (min x.to b)) := n1
              have n2' : w2.cell? ⟨wr.heap.size, 2, none⟩ = some (.int .i64 x.own) := n2
              have n3' : w2.cell? ⟨wr.heap.size, 3, none⟩ = some (.int .i64 x.ep) := n3
              clear n0 n1 n2 n3
              have HCL : Hid (clip a b x = ⟨max x.fr a, min x.to b, x.own, x.ep⟩) := rfl
              generalize max x.fr a = u at *
              generalize min x.to b = v at *
              rcases f1 : decide (u < v)
              · rw [f1, cond_false, List.append_nil] at HW
                go_wp2_with fail
                go_roundw
                case rel => exact ⟨k + 1, Y, m, f, by go_num, rfl, by omega, by omega, L4.out, by rw [HW.out]; exact Y2.out⟩
                case measure => simp [intOf]; omega
              · rw [f1, cond_true, HCL.out] at HW
                have A3 : Hid (Below w.heap.size w (w2.alloc (.cells #[.int .i64 u, .int .i64 v, .int .i64 x.own, .int .i64 x.ep] 32))) := L4.out.alloc L4.out.size _
                have B3 : Hid (LBox (w2.alloc (.cells #[.int .i64 u, .int .i64 v, .int .i64 x.own, .int .i64 x.ep] 32)) w2.heap.size ⟨u, v, x.own, x.ep⟩) := Cells.new _ _ _
                have Y3 := Lib.hid (OwnsL.alloc Y2.out (.cells #[.int .i64 u, .int .i64 v, .int .i64 x.own, .int .i64 x.ep] 32))
                go_wp2_with (at_builtin
                             refine wpList_append_l rfl (.tmp 50) (.tmp 52) rfl rfl w.heap.size _ m _ rfl Y3.out _ 1 1 [⟨u, v, x.own, x.ep⟩] rfl (RowS.one B3.out) (by omega) A3.out.size ?_
                             intro A' c' w' h1 h2 h3
                             have L5 := Lib.hid (A3.out.trans (below_row Y3.out h2 A3.out.size))
                             have O5 := Lib.hid h1
                             clear h1 h2 h3)
                go_roundw
                case rel => exact ⟨k + 1, A', m + 1, c', by go_num, rfl, by omega, by omega, L5.out, by rw [HW.out]; exact O5.out⟩
                case measure => simp [intOf]; omega
            · have hkn : l.take k = l := List.take_of_length_le (by have := hlen.out; omega)
              have h := hH.out
              rw [hkn] at h
              have HE := Lib.hid h
              clear h hkn hH
              go_wp2_with fail
              go_ret2
              exact GaveS.of HE.out.2 (by omega) HE.out.1
        · go_enter Try.func39, Try.ntmps39
          go_wp2_with fail
          refine (HC w HR.out).out.mono ?_
          rintro e w2 ⟨rfl, hb⟩
          have L2 := Lib.hid hb
          clear hb
          go_wp2_with fail
          refine (HE w2 (HR.out.below L2.out)).out.mono ?_
          rintro e w3 ⟨rfl, hb⟩
          have L3 := Lib.hid (L2.out.trans (hb.mono L2.out.size))
          clear hb L2
          go_wp2_with fail
          go_ret2
          exact GaveS.none_ L3.out
      · go_enter Try.func39, Try.ntmps39
        go_wp2_with fail
        refine (HC w HR.out).out.mono ?_
        rintro e w2 ⟨rfl, hb⟩
        have L2 := Lib.hid hb
        clear hb
        go_wp2_with fail
        go_ret2
        exact GaveS.none_ L2.out
    · go_enter Try.func39, Try.ntmps39
      go_wp2_with fail
      refine (HC w HR.out).out.mono ?_
      rintro e w2 ⟨rfl, hb⟩
      have L2 := Lib.hid hb
      clear hb
      go_wp2_with fail
      go_ret2
      exact GaveS.none_ L2.out
end Spa
end Go.Proofs.Ytjoemlifpbjdbaa
