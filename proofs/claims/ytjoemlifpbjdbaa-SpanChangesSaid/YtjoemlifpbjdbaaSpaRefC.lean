/-
  WALKS: the document's cut, Cut.
-/
import Derived.Test.YtjoemlifpbjdbaaSpaRefP
namespace Go.Proofs.Ytjoemlifpbjdbaa
open Go.RowKit Mem
namespace Spa

set_option maxRecDepth 100000 in
set_option maxHeartbeats 6400000 in
theorem refcut_any {A : Option Addr} {n c : Nat} {l : List Sp} {w : World} (p : Int) (h : RowL w A n c l) (hn : n ≤ 400000) :
    Calls Try.prog 31 #[.slice A n c, .int .i64 p] w fun e w' => (∃ B m d, e = .returned (.slice B m d) ∧ OwnsL w.heap.size w' (.slice B m d) m (cutS l p)) ∧ Below w.heap.size w w' := by
  have HR := Lib.hid h
  have hbig := h.big
  have hlen := Lib.hid h.len
  clear h
  go_enter Try.func31, Try.ntmps31
  go_wp2_with fail
  go_loopw [5, 7, 8, 9, 12] (fun s _ _ _ i wr => ∃ (k : Nat) (Y : Option Addr) (m f : Nat), i = .int .i64 k ∧ s = .slice Y m f ∧ k ≤ n ∧ m ≤ 2 * k ∧ Hid (Below w.heap.size w wr ∧ OwnsL w.heap.size wr (.slice Y m f) m (cutS (l.take k) p))) (fun _ _ _ _ i _ => n - (intOf i).toNat)
  case atStart => exact ⟨0, none, 0, 0, rfl, rfl, by omega, by omega, Below.refl _ _, OwnsL.nil _ _⟩
  case round =>
    obtain ⟨k, Y, m, f, rfl, rfl, hk, hm, hH⟩ := hrel
    by_cases hlt : k < n
    · obtain ⟨x, hx⟩ := HR.out.get hlt
      obtain ⟨g, q, hA, d0, d1, d2, d3⟩ := RowS.span_at (HR.out.below hH.out.1) hx
      subst hA
      have hk0 : (0 : Int) ≤ (k : Int) := by omega
      have hkn : (k : Int) < (n : Int) := by omega
      have hmk : m ≤ 1000000 := by omega
      have HW := Lib.hid (cut_snoc hx p)
      clear hx
      have A1 : Hid (Below wr.heap.size wr (wr.alloc (.cells #[.int .i64 x.fr, .int .i64 x.to, .int .i64 x.own, .int .i64 x.ep] 32))) := (Below.refl _ wr).alloc (Nat.le_refl _) _
      have B1 : Hid (LBox (wr.alloc (.cells #[.int .i64 x.fr, .int .i64 x.to, .int .i64 x.own, .int .i64 x.ep] 32)) wr.heap.size x) := Cells.new _ _ _
      obtain ⟨n0, n1, n2, n3⟩ := LBox.cells B1.out
      go_upto_region 5 with fail
      generalize wr.alloc (.cells #[.int .i64 x.fr, .int .i64 x.to, .int .i64 x.own, .int .i64 x.ep] 32) = w1 at *
      clear d0 d1 d2 d3
      have L1 := Lib.hid (hH.out.1.trans (A1.out.mono hH.out.1.size))
      have Y1 := Lib.hid (OwnsL.below hH.out.2 A1.out)
      have NEG : Hid (¬ (x.fr < p ∧ p < x.to) → cutS (l.take (k + 1)) p = cutS (l.take k) p ++ [x]) := by
        show _ → _
        intro h; rw [HW.out, splitS_neg h]
      have A3 : Hid (Below w.heap.size w (w1.alloc (.cells #[.int .i64 x.fr, .int .i64 x.to, .int .i64 x.own, .int .i64 x.ep] 32))) := L1.out.alloc L1.out.size _
      have B3 : Hid (LBox (w1.alloc (.cells #[.int .i64 x.fr, .int .i64 x.to, .int .i64 x.own, .int .i64 x.ep] 32)) w1.heap.size x) := Cells.new _ _ _
      have Y3 := Lib.hid (OwnsL.alloc Y1.out (.cells #[.int .i64 x.fr, .int .i64 x.to, .int .i64 x.own, .int .i64 x.ep] 32))
      rcases f1 : decide (x.fr < p)
      · have HN := Lib.hid (NEG.out (fun h => by have := of_decide_eq_false f1; omega))
        go_wp2_with (at_builtin
                     refine wpList_append_l rfl (.tmp 37) (.tmp 39) rfl rfl w.heap.size _ m _ rfl Y3.out _ 1 1 [x] rfl (RowS.one B3.out) (by omega) A3.out.size ?_
                     intro A' c' w' h1 h2 h3
                     have L5 := Lib.hid (A3.out.trans (below_row Y3.out h2 A3.out.size))
                     have O5 := Lib.hid h1
                     clear h1 h2 h3)
        go_roundw
        case rel => exact ⟨k + 1, A', m + 1, c', by go_num, rfl, by omega, by omega, L5.out, by rw [HN.out]; exact O5.out⟩
        case measure => simp [intOf]; omega
      · rcases f2 : decide (p < x.to)
        · have HN := Lib.hid (NEG.out (fun h => by have := of_decide_eq_false f2; omega))
          go_wp2_with (at_builtin
                       refine wpList_append_l rfl (.tmp 37) (.tmp 39) rfl rfl w.heap.size _ m _ rfl Y3.out _ 1 1 [x] rfl (RowS.one B3.out) (by omega) A3.out.size ?_
                       intro A' c' w' h1 h2 h3
                       have L5 := Lib.hid (A3.out.trans (below_row Y3.out h2 A3.out.size))
                       have O5 := Lib.hid h1
                       clear h1 h2 h3)
          go_roundw
          case rel => exact ⟨k + 1, A', m + 1, c', by go_num, rfl, by omega, by omega, L5.out, by rw [HN.out]; exact O5.out⟩
          case measure => simp [intOf]; omega
        · have HN : Hid (cutS (l.take (k + 1)) p = cutS (l.take k) p ++ [longer x p, putFr x p]) := by
            show _ = _
            rw [HW.out, splitS_pos ⟨of_decide_eq_true f1, of_decide_eq_true f2⟩]
          clear A3 B3 Y3 NEG HW
          -- the first part: a copy whose end is put
          have X1 : Hid (LBox (w1.alloc (.cells #[.int .i64 x.fr, .int .i64 x.to, .int .i64 x.own, .int .i64 x.ep] 32)) w1.heap.size x) := Cells.new _ _ _
          have X1' := Lib.hid (Cells.alloc B1.out (.cells #[.int .i64 x.fr, .int .i64 x.to, .int .i64 x.own, .int .i64 x.ep] 32))
          have LX : Hid (Below w.heap.size w (w1.alloc (.cells #[.int .i64 x.fr, .int .i64 x.to, .int .i64 x.own, .int .i64 x.ep] 32))) := L1.out.alloc L1.out.size _
          have YX := Lib.hid (OwnsL.alloc Y1.out (.cells #[.int .i64 x.fr, .int .i64 x.to, .int .i64 x.own, .int .i64 x.ep] 32))
          have HP1 : Hid (wr.heap.size < w1.heap.size) := Cells.lt B1.out
          have HW1 := Lib.hid hH.out.1.size
          have OFF1 := Lib.hid (OwnsL.off Y1.out (Nat.le_refl _))
          go_upto_region 7 with fail
          generalize hg2 : w1.alloc (.cells #[.int .i64 x.fr, .int .i64 x.to, .int .i64 x.own, .int .i64 x.ep] 32) = w2 at *
          obtain ⟨u, hu⟩ : ∃ u, w1.heap.size = u := ⟨_, rfl⟩
          have HSZ : Hid (w2.heap.size = u + 1) := by show _ = _; rw [← hg2, ← hu]; simp
          rw [hu] at X1 HP1 OFF1
          clear n0 n1 n2 n3 B1 A1 L1 Y1 hH hg2
          obtain ⟨m0, m1, m2, m3⟩ := LBox.cells X1.out
          obtain ⟨z0, z1, z2, z3⟩ := LBox.frozen X1.out
          have X2 : Hid (LBox (w2.setCell ⟨u, 1, none⟩ (.int .i64 p)) u (longer x p)) := Cells.set_ X1.out 1 (.int .i64 p)
          have B2 : Hid (LBox (w2.setCell ⟨u, 1, none⟩ (.int .i64 p)) wr.heap.size x) := Cells.set_other X1'.out (by have := HP1.out; omega) 1 _
          have L2 : Hid (Below w.heap.size w (w2.setCell ⟨u, 1, none⟩ (.int .i64 p))) := belowk LX.out (by have := HP1.out; have := HW1.out; omega) _ _
          have Y2 : Hid (OwnsL w.heap.size (w2.setCell ⟨u, 1, none⟩ (.int .i64 p)) (.slice Y m f) m (cutS (l.take k) p)) := OwnsL.kept YX.out (But.set1 w2 u 1 _).by_ (.inr OFF1.out)
          have HSZ2 : Hid ((w2.setCell ⟨u, 1, none⟩ (.int .i64 p)).heap.size = u + 1) := by show _ = _; rw [← HSZ.out]; simp
          (try simp only [hu])
          go_upto_region 8 with fail
          generalize w2.setCell ⟨u, 1, none⟩ (.int .i64 p) = w3 at *
          clear m0 m1 m2 m3 z0 z1 z2 z3 X1 X1' LX YX HSZ
          obtain ⟨n0, n1, n2, n3⟩ := LBox.cells B2.out
          have V1 : Hid (LBox (w3.alloc (.cells #[.int .i64 x.fr, .int .i64 x.to, .int .i64 x.own, .int .i64 x.ep] 32)) (u + 1) x) := by rw [← HSZ2.out]; exact Cells.new _ _ _
          have X3 := Lib.hid (Cells.alloc X2.out (.cells #[.int .i64 x.fr, .int .i64 x.to, .int .i64 x.own, .int .i64 x.ep] 32))
          have L3 : Hid (Below w.heap.size w (w3.alloc (.cells #[.int .i64 x.fr, .int .i64 x.to, .int .i64 x.own, .int .i64 x.ep] 32))) := L2.out.alloc L2.out.size _
          have Y3 := Lib.hid (OwnsL.alloc Y2.out (.cells #[.int .i64 x.fr, .int .i64 x.to, .int .i64 x.own, .int .i64 x.ep] 32))
          have OFF2 : Hid ((Value.slice Y m f).ownBlock ≠ some (u + 1)) := OwnsL.off Y2.out (by rw [HSZ2.out]; exact Nat.le_refl _)
          have hsz3 : w3.heap.size = u + 1 := HSZ2.out
          go_upto_region 9 with fail
          (try simp only [hsz3])
          generalize w3.alloc (.cells #[.int .i64 x.fr, .int .i64 x.to, .int .i64 x.own, .int .i64 x.ep] 32) = w4 at *
          clear n0 n1 n2 n3 B2 L2 Y2 X2 hsz3 HSZ2
          obtain ⟨m0, m1, m2, m3⟩ := LBox.cells V1.out
          obtain ⟨z0, z1, z2, z3⟩ := LBox.frozen V1.out
          have V2 : Hid (LBox (w4.setCell ⟨u + 1, 0, none⟩ (.int .i64 p)) (u + 1) (putFr x p)) := Cells.set_ V1.out 0 (.int .i64 p)
          have X4 : Hid (LBox (w4.setCell ⟨u + 1, 0, none⟩ (.int .i64 p)) u (longer x p)) := Cells.set_other X3.out (by omega) 0 _
          have L4 : Hid (Below w.heap.size w (w4.setCell ⟨u + 1, 0, none⟩ (.int .i64 p))) := belowk L3.out (by have := HP1.out; have := HW1.out; omega) _ _
          have Y4 : Hid (OwnsL w.heap.size (w4.setCell ⟨u + 1, 0, none⟩ (.int .i64 p)) (.slice Y m f) m (cutS (l.take k) p)) := OwnsL.kept Y3.out (But.set1 w4 (u + 1) 0 _).by_ (.inr OFF2.out)
          go_upto_region 10 with fail
          generalize w4.setCell ⟨u + 1, 0, none⟩ (.int .i64 p) = w5 at *
          clear m0 m1 m2 m3 z0 z1 z2 z3 V1 X3 L3 Y3
          obtain ⟨m0, m1, m2, m3⟩ := LBox.cells V2.out
          obtain ⟨n0, n1, n2, n3⟩ := LBox.cells X4.out
          have n0' : w5.cell? ⟨u, 0, none⟩ = some (.int .i64 x.fr) := n0
          have n1' : w5.cell? ⟨u, 1, none⟩ = some (.int .i64 p) := n1
          have n2' : w5.cell? ⟨u, 2, none⟩ = some (.int .i64 x.own) := n2
          have n3' : w5.cell? ⟨u, 3, none⟩ = some (.int .i64 x.ep) := n3
          have m0' : w5.cell? ⟨u + 1, 0, none⟩ = some (.int .i64 p) := m0
          have m1' : w5.cell? ⟨u + 1, 1, none⟩ = some (.int .i64 x.to) := m1
          have m2' : w5.cell? ⟨u + 1, 2, none⟩ = some (.int .i64 x.own) := m2
          have m3' : w5.cell? ⟨u + 1, 3, none⟩ = some (.int .i64 x.ep) := m3
          clear n0 n1 n2 n3 m0 m1 m2 m3
          have A5 : Hid (Below w.heap.size w (w5.alloc (.cells #[.int .i64 x.fr, .int .i64 p, .int .i64 x.own, .int .i64 x.ep, .int .i64 p, .int .i64 x.to, .int .i64 x.own, .int .i64 x.ep] 32))) := L4.out.alloc L4.out.size _
          have R5 : Hid (RowL (w5.alloc (.cells #[.int .i64 x.fr, .int .i64 p, .int .i64 x.own, .int .i64 x.ep, .int .i64 p, .int .i64 x.to, .int .i64 x.own, .int .i64 x.ep] 32)) (some ⟨w5.heap.size, 0, none⟩) 2 2 [longer x p, putFr x p]) := RowS.two (x := longer x p) (y := putFr x p) (Cells.new _ _ _)
          have Y5 := Lib.hid (OwnsL.alloc Y4.out (.cells #[.int .i64 x.fr, .int .i64 p, .int .i64 x.own, .int .i64 x.ep, .int .i64 p, .int .i64 x.to, .int .i64 x.own, .int .i64 x.ep] 32))
          go_wp2_with (at_builtin
                       refine wpList_append_l rfl (.tmp 32) (.tmp 35) rfl rfl w.heap.size _ m _ rfl Y5.out _ 2 2 _ rfl R5.out (by omega) A5.out.size ?_
                       intro A' c' w' h1 h2 h3
                       have L6 := Lib.hid (A5.out.trans (below_row Y5.out h2 A5.out.size))
                       have O6 := Lib.hid h1
                       clear h1 h2 h3)
          go_roundw
          case rel => exact ⟨k + 1, A', m + 2, c', by go_num, rfl, by omega, by omega, L6.out, by rw [HN.out]; exact O6.out⟩
          case measure => simp [intOf]; omega
    · have hkn : l.take k = l := List.take_of_length_le (by have := hlen.out; omega)
      have h := hH.out
      rw [hkn] at h
      have HE := Lib.hid h
      clear h hkn hH
      go_wp2_with fail
      go_ret
      exact ⟨⟨_, _, _, rfl, HE.out.2⟩, HE.out.1⟩
end Spa
end Go.Proofs.Ytjoemlifpbjdbaa
