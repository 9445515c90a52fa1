/-
  WALKS: Holder, earliest.
-/
import Derived.Test.YtehknenlifdchaaLeaCheck
namespace Go.Proofs.Ytehknenlifdchaa
open Go.RowKit Mem
namespace Lea

set_option maxRecDepth 100000 in
set_option maxHeartbeats 3200000 in
theorem holder_any {last now : Int} {A : Option Addr} {n c : Nat} {l : List Lv} {w : World} (key : Int) (h : RowL w A n c l) (hn : n ≤ 1000000) :
    Calls Try.prog 25 #[tv last now A n c, .int .i64 key] w fun e w' => e = .returned (.tuple #[lv (holdP ⟨last, now, l⟩ key).1, .bool (holdP ⟨last, now, l⟩ key).2]) ∧ Below w.heap.size w w' := by
  have HR := Lib.hid h
  have hbig := h.big
  have hlen := Lib.hid h.len
  have HC := fun w (h : RowL w A n c l) => Lib.hid (check_any (last := last) (now := now) h hn)
  have L1 : Hid (Below w.heap.size w ((w.alloc (.cells #[.int .i64 last, .int .i64 now, .slice A n c] 24)).alloc (.cells #[.int .i64 0, .int .i64 0, .int .i64 0, .int .i64 0] 43))) := ((Below.refl w.heap.size w).alloc (Nat.le_refl _) _).alloc (by simp) _
  have B1 : Hid (TBox ((w.alloc (.cells #[.int .i64 last, .int .i64 now, .slice A n c] 24)).alloc (.cells #[.int .i64 0, .int .i64 0, .int .i64 0, .int .i64 0] 43)) w.heap.size last now A n c) := heap_alloc2_old w _ _
  have N1 : Hid (LBox ((w.alloc (.cells #[.int .i64 last, .int .i64 now, .slice A n c] 24)).alloc (.cells #[.int .i64 0, .int .i64 0, .int .i64 0, .int .i64 0] 43)) (w.heap.size + 1) zL) := heap_alloc2_new w _ _
  clear h
  unfold holdP
  simp only
  rcases hok : okT ⟨last, now, l⟩
  · rw [hok] at HC
    go_enter Try.func25, Try.ntmps25
    go_upto_region 1 with fail
    generalize (w.alloc (.cells #[.int .i64 last, .int .i64 now, .slice A n c] 24)).alloc (.cells #[.int .i64 0, .int .i64 0, .int .i64 0, .int .i64 0] 43) = w1 at *
    obtain ⟨m0, m1, m2⟩ := TBox.cells B1.out
    go_wp2_with fail
    refine (HC w1 (HR.out.below L1.out)).out.mono ?_
    rintro e w2 ⟨rfl, hb⟩
    have L2 := Lib.hid (L1.out.trans (hb.mono L1.out.size))
    have N2 := Lib.hid (Cells.below N1.out hb)
    clear hb
    obtain ⟨z0, z1, z2, z3⟩ := LBox.cells (x := zL) N2.out
    obtain ⟨f0, f1, f2, f3⟩ := LBox.frozen (x := zL) N2.out
    go_wp2_with fail
    refine bodyPost_ret_by (results_c1 rfl _ _ (w.heap.size + 1) _ _ _ _ rfl (Cells.set4 N2.out (.int .i64 0) (.int .i64 0) (.int .i64 0) (.int .i64 0)) Try.underlying43 rfl (by kernel_rfl)) rfl ?_
    exact ⟨rfl, below4 L2.out (by omega) _ _ _ _⟩
  · rw [hok] at HC
    have hri := okT_rises hok
    have HF := fun w (h : RowL w A n c l) => Lib.hid (find_any (key := key) h hri)
    have HRI := Lib.hid hri
    clear hri
    rcases hh : heldB l key
    · rw [hh] at HF
      go_enter Try.func25, Try.ntmps25
      go_upto_region 1 with fail
      generalize (w.alloc (.cells #[.int .i64 last, .int .i64 now, .slice A n c] 24)).alloc (.cells #[.int .i64 0, .int .i64 0, .int .i64 0, .int .i64 0] 43) = w1 at *
      obtain ⟨m0, m1, m2⟩ := TBox.cells B1.out
      go_wp2_with fail
      refine (HC w1 (HR.out.below L1.out)).out.mono ?_
      rintro e w2 ⟨rfl, hb⟩
      have L2 := Lib.hid (L1.out.trans (hb.mono L1.out.size))
      have N2 := Lib.hid (Cells.below N1.out hb)
      have B2 := Lib.hid (Cells.below B1.out hb)
      clear hb m0 m1 m2 B1 N1 L1 HC
      obtain ⟨m0, m1, m2⟩ := TBox.cells B2.out
      go_wp2_with fail
      refine (HF w2 (HR.out.below L2.out)).out.mono ?_
      rintro e w3 ⟨⟨k, rfl, hpl⟩, hb⟩
      have L3 := Lib.hid (L2.out.trans (hb.mono L2.out.size))
      have N3 := Lib.hid (Cells.below N2.out hb)
      clear hb hpl
      obtain ⟨z0, z1, z2, z3⟩ := LBox.cells (x := zL) N3.out
      obtain ⟨f0, f1, f2, f3⟩ := LBox.frozen (x := zL) N3.out
      go_wp2_with fail
      refine bodyPost_ret_by (results_c1 rfl _ _ (w.heap.size + 1) _ _ _ _ rfl (Cells.set4 N3.out (.int .i64 0) (.int .i64 0) (.int .i64 0) (.int .i64 0)) Try.underlying43 rfl (by kernel_rfl)) rfl ?_
      exact ⟨rfl, below4 L3.out (by omega) _ _ _ _⟩
    · rw [hh] at HF
      have HH := Lib.hid hh
      go_enter Try.func25, Try.ntmps25
      go_upto_region 1 with fail
      generalize (w.alloc (.cells #[.int .i64 last, .int .i64 now, .slice A n c] 24)).alloc (.cells #[.int .i64 0, .int .i64 0, .int .i64 0, .int .i64 0] 43) = w1 at *
      obtain ⟨m0, m1, m2⟩ := TBox.cells B1.out
      go_wp2_with fail
      refine (HC w1 (HR.out.below L1.out)).out.mono ?_
      rintro e w2 ⟨rfl, hb⟩
      have L2 := Lib.hid (L1.out.trans (hb.mono L1.out.size))
      have N2 := Lib.hid (Cells.below N1.out hb)
      have B2 := Lib.hid (Cells.below B1.out hb)
      clear hb m0 m1 m2 B1 N1 L1 HC
      obtain ⟨m0, m1, m2⟩ := TBox.cells B2.out
      go_wp2_with fail
      refine (HF w2 (HR.out.below L2.out)).out.mono ?_
      rintro e w3 ⟨⟨k, rfl, hpl⟩, hb⟩
      have L3 := Lib.hid (L2.out.trans (hb.mono L2.out.size))
      have N3 := Lib.hid (Cells.below N2.out hb)
      have B3 := Lib.hid (Cells.below B2.out hb)
      clear hb m0 m1 m2 B2 N2 L2 HF
      obtain ⟨x, hx, -, hfx⟩ := place_held HRI.out hpl HH.out
      have hgx : Hid (getL l key = x) := by show _ = _; unfold getL; rw [hfx]; rfl
      obtain ⟨b, o, hA, c0, c1, c2, c3⟩ := RowS.lease_at (HR.out.below L3.out) hx
      subst hA
      have hkl : k < n := by have := (List.getElem?_eq_some_iff.1 hx).1; have := hlen.out; omega
      have hk0 : (0 : Int) ≤ (k : Int) := by omega
      have hkn : (k : Int) < (n : Int) := by omega
      clear hx hfx hpl
      obtain ⟨m0, m1, m2⟩ := TBox.cells B3.out
      obtain ⟨z0, z1, z2, z3⟩ := LBox.cells (x := zL) N3.out
      obtain ⟨f0, f1, f2, f3⟩ := LBox.frozen (x := zL) N3.out
      go_wp2_with fail
      refine bodyPost_ret_by (results_c1 rfl _ _ (w.heap.size + 1) _ _ _ _ rfl (Cells.set4 N3.out (.int .i64 x.key) (.int .i64 x.host) (.int .i64 x.epoch) (.int .i64 x.til)) Try.underlying43 rfl (by kernel_rfl)) rfl ?_
      exact ⟨by simp only [Bool.and_self, cond_true]; rw [hgx.out]; rfl, below4 L3.out (by omega) _ _ _ _⟩

set_option maxRecDepth 100000 in
set_option maxHeartbeats 3200000 in
theorem earliest_any {A : Option Addr} {n c : Nat} {l : List Lv} {w : World} (h : RowL w A n c l) :
    Calls Try.prog 41 #[.slice A n c] w fun e w' => e = .returned (.int .i64 (leastU l)) ∧ Below w.heap.size w w' := by
  have HR := Lib.hid h
  have hbig := h.big
  have hlen := Lib.hid h.len
  clear h
  rcases Nat.eq_zero_or_pos n with h0 | h0
  · have hl : l = [] := List.eq_nil_of_length_eq_zero (by rw [hlen.out, h0])
    subst hl h0
    go_enter Try.func41, Try.ntmps41
    go_wp2
    go_ret
    exact ⟨rfl, Below.refl _ _⟩
  · obtain ⟨y, hy⟩ := HR.out.get h0
    have HY := Lib.hid hy
    obtain ⟨b, o, hA, -, -, -, c3⟩ := RowS.lease_at HR.out hy
    subst hA
    simp only [Nat.zero_mul, Nat.add_zero] at c3
    have hn0 : (n == 0) = false := by simp; omega
    have hnz : ¬ (n : Int) = 0 := by omega
    have hnp : (0 : Int) < (n : Int) := by omega
    clear hy
    go_enter Try.func41, Try.ntmps41
    go_wp2_with fail
    go_loopw [3, 5, 15] (fun s _ i wr => ∃ (k : Nat) (u : Int), i = .int .i64 k ∧ s = .int .i64 u ∧ k ≤ n ∧ Hid (Below w.heap.size w wr ∧ u = (l.take k).foldl (fun a z => min a z.til) y.til)) (fun _ _ i _ => n - (intOf i).toNat)
    case atStart => exact ⟨0, y.til, rfl, rfl, by omega, Below.refl _ _, rfl⟩
    case round =>
      obtain ⟨k, u, rfl, rfl, hk, hH⟩ := hrel
      by_cases hlt : k < n
      · obtain ⟨z, hz⟩ := HR.out.get hlt
        obtain ⟨b', o', hA, d0, d1, d2, d3⟩ := RowS.lease_at (HR.out.below hH.out.1) hz
        injection hA with hA
        injection hA with e1 e2
        subst e1 e2
        have hk0 : (0 : Int) ≤ (k : Int) := by omega
        have hkn : (k : Int) < (n : Int) := by omega
        have htk : Hid (l.take (k + 1) = l.take k ++ [z]) := by show _ = _; rw [List.take_add_one, hz]; rfl
        clear hz
        have A1 : Hid (Below wr.heap.size wr (wr.alloc (.cells #[.int .i64 z.key, .int .i64 z.host, .int .i64 z.epoch, .int .i64 z.til] 43))) := (Below.refl _ wr).alloc (Nat.le_refl _) _
        have B1 : Hid (LBox (wr.alloc (.cells #[.int .i64 z.key, .int .i64 z.host, .int .i64 z.epoch, .int .i64 z.til] 43)) wr.heap.size z) := Cells.new _ _ _
        obtain ⟨n0, n1, n2, n3⟩ := LBox.cells B1.out
        go_upto_region 7 with fail
        generalize wr.alloc (.cells #[.int .i64 z.key, .int .i64 z.host, .int .i64 z.epoch, .int .i64 z.til] 43) = w1 at *
        go_wp2_with fail
        go_roundw
        case rel => exact ⟨k + 1, min u z.til, by go_num, rfl, by omega, hH.out.1.trans (A1.out.mono hH.out.1.size), by rw [htk.out, List.foldl_append, ← hH.out.2]; rfl⟩
        case measure => simp [intOf]; omega
      · have hkn : l.take k = l := List.take_of_length_le (by have := hlen.out; omega)
        have HK : Hid (u = leastU l) := by
          show _ = _
          rw [hH.out.2, hkn]
          have hy := HY.out
          rcases l with _ | ⟨a, r⟩
          · cases hy
          · simp at hy; subst hy; exact leastU_start a r
        clear hkn
        go_wp2_with fail
        go_ret
        exact ⟨by rw [← HK.out]; rfl, hH.out.1⟩
end Lea
end Go.Proofs.Ytehknenlifdchaa
