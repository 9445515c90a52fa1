/-
  SEVERAL TEXTS IN ONE FILE: LeaCheck, LeaHold, CooAsk.
-/
import Derived.Test.YtmflngclncidjaaGreatJ06
import Derived.Test.YtmflngclncidjaaGreatJ07
/-
  WALKS: whether a table may be: lease's own test.
-/
namespace Go.Proofs.YtmflngclncidjaaGreat
open Go.RowKit Mem
namespace Lea

set_option maxRecDepth 100000 in
set_option maxHeartbeats 3200000 in
theorem check_any {last now : Int} {A : Option Addr} {n c : Nat} {l : List Lv} {w : World} (h : RowL w A n c l) (hn : n ≤ 1000000) :
    Calls Tryz.prog 37 #[tv last now A n c] w fun e w' => e = .returned (.int .i64 (errOf (okT ⟨last, now, l⟩))) ∧ Below w.heap.size w w' := by
  have HR := Lib.hid h
  have hbig := h.big
  have HKR := fun w (h : RowL w A n c l) => Lib.hid (rise_any h)
  have HED := fun w (h : RowL w A n c l) => Lib.hid (differ_any h hn)
  have L1 : Hid (Below w.heap.size w (w.alloc (.cells #[.int .i64 last, .int .i64 now, .slice A n c] 27))) := (Below.refl w.heap.size w).alloc (Nat.le_refl _) _
  have B1 : Hid (TBox (w.alloc (.cells #[.int .i64 last, .int .i64 now, .slice A n c] 27)) w.heap.size last now A n c) := Cells.new w _ _
  clear h
  unfold okT
  simp only
  rcases e1 : decide (last < 0)
  · rcases e2 : decide (now < 0)
    · rcases e3 : risesB l
      · rw [e3] at HKR
        go_enter Tryz.func37, Tryz.ntmps37
        go_upto_region 1 with fail
        generalize w.alloc (.cells #[.int .i64 last, .int .i64 now, .slice A n c] 27) = w1 at *
        obtain ⟨m0, m1, m2⟩ := TBox.cells B1.out
        go_wp2_with fail
        refine (HKR w1 (HR.out.below L1.out)).out.mono ?_
        rintro e w2 ⟨rfl, hb⟩
        have L2 := Lib.hid (L1.out.trans (hb.mono L1.out.size))
        clear hb
        go_wp2_with fail
        go_ret
        exact ⟨rfl, L2.out⟩
      · rw [e3] at HKR
        rcases e4 : differB l
        · rw [e4] at HED
          go_enter Tryz.func37, Tryz.ntmps37
          go_upto_region 1 with fail
          generalize w.alloc (.cells #[.int .i64 last, .int .i64 now, .slice A n c] 27) = w1 at *
          obtain ⟨m0, m1, m2⟩ := TBox.cells B1.out
          go_wp2_with fail
          refine (HKR w1 (HR.out.below L1.out)).out.mono ?_
          rintro e w2 ⟨rfl, hb⟩
          have L2 := Lib.hid (L1.out.trans (hb.mono L1.out.size))
          have B2 := Lib.hid (Cells.below B1.out hb)
          clear hb m0 m1 m2 B1 L1 HKR
          obtain ⟨m0, m1, m2⟩ := TBox.cells B2.out
          go_wp2_with fail
          refine (HED w2 (HR.out.below L2.out)).out.mono ?_
          rintro e w3 ⟨rfl, hb⟩
          have L3 := Lib.hid (L2.out.trans (hb.mono L2.out.size))
          clear hb
          go_wp2_with fail
          go_ret
          exact ⟨rfl, L3.out⟩
        · rw [e4] at HED
          rcases e5 : l.all (mayB last now)
          · have HA : l.any (fun x => !mayB last now x) = true := by rw [List.any_eq_not_all_not, Bool.not_eq_true']; simpa using e5
            have HCF := fun w g (h : RowL w A n c l) (hg : TBox w g last now A n c) => Lib.hid (contains_any h 57 #[.pointer (some ⟨g, 0, none⟩)] (enters_of Tryz.func57 (by kernel_rfl) rfl) (fun x => !mayB last now x) (fun W x hW => check1_any last now A n c g x W (Cells.below hg hW)))
            rw [HA] at HCF
            clear HA e5
            go_enter Tryz.func37, Tryz.ntmps37
            go_upto_region 1 with fail
            generalize w.alloc (.cells #[.int .i64 last, .int .i64 now, .slice A n c] 27) = w1 at *
            obtain ⟨m0, m1, m2⟩ := TBox.cells B1.out
            go_wp2_with fail
            refine (HKR w1 (HR.out.below L1.out)).out.mono ?_
            rintro e w2 ⟨rfl, hb⟩
            have L2 := Lib.hid (L1.out.trans (hb.mono L1.out.size))
            have B2 := Lib.hid (Cells.below B1.out hb)
            clear hb m0 m1 m2 B1 L1 HKR
            obtain ⟨m0, m1, m2⟩ := TBox.cells B2.out
            go_wp2_with fail
            refine (HED w2 (HR.out.below L2.out)).out.mono ?_
            rintro e w3 ⟨rfl, hb⟩
            have L3 := Lib.hid (L2.out.trans (hb.mono L2.out.size))
            have B3 := Lib.hid (Cells.below B2.out hb)
            clear hb m0 m1 m2 B2 L2 HED
            obtain ⟨m0, m1, m2⟩ := TBox.cells B3.out
            go_wp2_with fail
            refine (HCF w3 w.heap.size (HR.out.below L3.out) B3.out).out.mono ?_
            rintro e w4 ⟨rfl, hb⟩
            have L4 := Lib.hid (L3.out.trans (hb.mono L3.out.size))
            clear hb
            go_wp2_with fail
            go_ret
            exact ⟨rfl, L4.out⟩
          · have HA : l.any (fun x => !mayB last now x) = false := by rw [List.any_eq_not_all_not, Bool.not_eq_false']; simpa using e5
            have HCF := fun w g (h : RowL w A n c l) (hg : TBox w g last now A n c) => Lib.hid (contains_any h 57 #[.pointer (some ⟨g, 0, none⟩)] (enters_of Tryz.func57 (by kernel_rfl) rfl) (fun x => !mayB last now x) (fun W x hW => check1_any last now A n c g x W (Cells.below hg hW)))
            rw [HA] at HCF
            clear HA e5
            go_enter Tryz.func37, Tryz.ntmps37
            go_upto_region 1 with fail
            generalize w.alloc (.cells #[.int .i64 last, .int .i64 now, .slice A n c] 27) = w1 at *
            obtain ⟨m0, m1, m2⟩ := TBox.cells B1.out
            go_wp2_with fail
            refine (HKR w1 (HR.out.below L1.out)).out.mono ?_
            rintro e w2 ⟨rfl, hb⟩
            have L2 := Lib.hid (L1.out.trans (hb.mono L1.out.size))
            have B2 := Lib.hid (Cells.below B1.out hb)
            clear hb m0 m1 m2 B1 L1 HKR
            obtain ⟨m0, m1, m2⟩ := TBox.cells B2.out
            go_wp2_with fail
            refine (HED w2 (HR.out.below L2.out)).out.mono ?_
            rintro e w3 ⟨rfl, hb⟩
            have L3 := Lib.hid (L2.out.trans (hb.mono L2.out.size))
            have B3 := Lib.hid (Cells.below B2.out hb)
            clear hb m0 m1 m2 B2 L2 HED
            obtain ⟨m0, m1, m2⟩ := TBox.cells B3.out
            go_wp2_with fail
            refine (HCF w3 w.heap.size (HR.out.below L3.out) B3.out).out.mono ?_
            rintro e w4 ⟨rfl, hb⟩
            have L4 := Lib.hid (L3.out.trans (hb.mono L3.out.size))
            clear hb
            go_wp2_with fail
            go_ret
            exact ⟨rfl, L4.out⟩
    · go_enter Tryz.func37, Tryz.ntmps37
      go_upto_region 1 with fail
      generalize w.alloc (.cells #[.int .i64 last, .int .i64 now, .slice A n c] 27) = w1 at *
      obtain ⟨m0, m1, m2⟩ := TBox.cells B1.out
      go_wp2_with fail
      go_ret
      exact ⟨rfl, L1.out⟩
  · go_enter Tryz.func37, Tryz.ntmps37
    go_upto_region 1 with fail
    generalize w.alloc (.cells #[.int .i64 last, .int .i64 now, .slice A n c] 27) = w1 at *
    obtain ⟨m0, m1, m2⟩ := TBox.cells B1.out
    go_wp2_with fail
    go_ret
    exact ⟨rfl, L1.out⟩
end Lea
end Go.Proofs.YtmflngclncidjaaGreat
/-
  WALKS: Holder, earliest.
-/
namespace Go.Proofs.YtmflngclncidjaaGreat
open Go.RowKit Mem
namespace Lea

set_option maxRecDepth 100000 in
set_option maxHeartbeats 3200000 in
theorem holder_any {last now : Int} {A : Option Addr} {n c : Nat} {l : List Lv} {w : World} (key : Int) (h : RowL w A n c l) (hn : n ≤ 1000000) :
    Calls Tryz.prog 28 #[tv last now A n c, .int .i64 key] w fun e w' => e = .returned (.tuple #[lv (holdP ⟨last, now, l⟩ key).1, .bool (holdP ⟨last, now, l⟩ key).2]) ∧ Below w.heap.size w w' := by
  have HR := Lib.hid h
  have hbig := h.big
  have hlen := Lib.hid h.len
  have HC := fun w (h : RowL w A n c l) => Lib.hid (check_any (last := last) (now := now) h hn)
  have L1 : Hid (Below w.heap.size w ((w.alloc (.cells #[.int .i64 last, .int .i64 now, .slice A n c] 27)).alloc (.cells #[.int .i64 0, .int .i64 0, .int .i64 0, .int .i64 0] 65))) := ((Below.refl w.heap.size w).alloc (Nat.le_refl _) _).alloc (by simp) _
  have B1 : Hid (TBox ((w.alloc (.cells #[.int .i64 last, .int .i64 now, .slice A n c] 27)).alloc (.cells #[.int .i64 0, .int .i64 0, .int .i64 0, .int .i64 0] 65)) w.heap.size last now A n c) := heap_alloc2_old w _ _
  have N1 : Hid (LBox ((w.alloc (.cells #[.int .i64 last, .int .i64 now, .slice A n c] 27)).alloc (.cells #[.int .i64 0, .int .i64 0, .int .i64 0, .int .i64 0] 65)) (w.heap.size + 1) zL) := heap_alloc2_new w _ _
  clear h
  unfold holdP
  simp only
  rcases hok : okT ⟨last, now, l⟩
  · rw [hok] at HC
    go_enter Tryz.func28, Tryz.ntmps28
    go_upto_region 1 with fail
    generalize (w.alloc (.cells #[.int .i64 last, .int .i64 now, .slice A n c] 27)).alloc (.cells #[.int .i64 0, .int .i64 0, .int .i64 0, .int .i64 0] 65) = w1 at *
    obtain ⟨m0, m1, m2⟩ := TBox.cells B1.out
    go_wp2_with fail
    refine (HC w1 (HR.out.below L1.out)).out.mono ?_
    rintro e w2 ⟨rfl, hb⟩
    have L2 := Lib.hid (L1.out.trans (hb.mono L1.out.size))
    have N2 := Lib.hid (Cells.below N1.out hb)
    clear hb
    obtain ⟨z0, z1, z2, z3⟩ := LBox.cells (x := zL) N2.out
    obtain ⟨f0, f1, f2, f3⟩ := LBox.frozen (x := zL) N2.out
    go_wp2_with fail
    refine bodyPost_ret_by (results_c1 rfl _ _ (w.heap.size + 1) _ _ _ _ rfl (Cells.set4 N2.out (.int .i64 0) (.int .i64 0) (.int .i64 0) (.int .i64 0)) Tryz.underlying65 rfl (by kernel_rfl)) rfl ?_
    exact ⟨rfl, below4 L2.out (by omega) _ _ _ _⟩
  · rw [hok] at HC
    have hri := okT_rises hok
    have HF := fun w (h : RowL w A n c l) => Lib.hid (find_any (key := key) h hri)
    have HRI := Lib.hid hri
    clear hri
    rcases hh : heldB l key
    · rw [hh] at HF
      go_enter Tryz.func28, Tryz.ntmps28
      go_upto_region 1 with fail
      generalize (w.alloc (.cells #[.int .i64 last, .int .i64 now, .slice A n c] 27)).alloc (.cells #[.int .i64 0, .int .i64 0, .int .i64 0, .int .i64 0] 65) = w1 at *
      obtain ⟨m0, m1, m2⟩ := TBox.cells B1.out
      go_wp2_with fail
      refine (HC w1 (HR.out.below L1.out)).out.mono ?_
      rintro e w2 ⟨rfl, hb⟩
      have L2 := Lib.hid (L1.out.trans (hb.mono L1.out.size))
      have N2 := Lib.hid (Cells.below N1.out hb)
      have B2 := Lib.hid (Cells.below B1.out hb)
      clear hb m0 m1 m2 B1 N1 L1 HC
      obtain ⟨m0, m1, m2⟩ := TBox.cells B2.out
      go_wp2_with fail
      refine (HF w2 (HR.out.below L2.out)).out.mono ?_
      rintro e w3 ⟨⟨k, rfl, hpl⟩, hb⟩
      have L3 := Lib.hid (L2.out.trans (hb.mono L2.out.size))
      have N3 := Lib.hid (Cells.below N2.out hb)
      clear hb hpl
      obtain ⟨z0, z1, z2, z3⟩ := LBox.cells (x := zL) N3.out
      obtain ⟨f0, f1, f2, f3⟩ := LBox.frozen (x := zL) N3.out
      go_wp2_with fail
      refine bodyPost_ret_by (results_c1 rfl _ _ (w.heap.size + 1) _ _ _ _ rfl (Cells.set4 N3.out (.int .i64 0) (.int .i64 0) (.int .i64 0) (.int .i64 0)) Tryz.underlying65 rfl (by kernel_rfl)) rfl ?_
      exact ⟨rfl, below4 L3.out (by omega) _ _ _ _⟩
    · rw [hh] at HF
      have HH := Lib.hid hh
      go_enter Tryz.func28, Tryz.ntmps28
      go_upto_region 1 with fail
      generalize (w.alloc (.cells #[.int .i64 last, .int .i64 now, .slice A n c] 27)).alloc (.cells #[.int .i64 0, .int .i64 0, .int .i64 0, .int .i64 0] 65) = w1 at *
      obtain ⟨m0, m1, m2⟩ := TBox.cells B1.out
      go_wp2_with fail
      refine (HC w1 (HR.out.below L1.out)).out.mono ?_
      rintro e w2 ⟨rfl, hb⟩
      have L2 := Lib.hid (L1.out.trans (hb.mono L1.out.size))
      have N2 := Lib.hid (Cells.below N1.out hb)
      have B2 := Lib.hid (Cells.below B1.out hb)
      clear hb m0 m1 m2 B1 N1 L1 HC
      obtain ⟨m0, m1, m2⟩ := TBox.cells B2.out
      go_wp2_with fail
      refine (HF w2 (HR.out.below L2.out)).out.mono ?_
      rintro e w3 ⟨⟨k, rfl, hpl⟩, hb⟩
      have L3 := Lib.hid (L2.out.trans (hb.mono L2.out.size))
      have N3 := Lib.hid (Cells.below N2.out hb)
      have B3 := Lib.hid (Cells.below B2.out hb)
      clear hb m0 m1 m2 B2 N2 L2 HF
      obtain ⟨x, hx, -, hfx⟩ := place_held HRI.out hpl HH.out
      have hgx : Hid (getL l key = x) := by show _ = _; unfold getL; rw [hfx]; rfl
      obtain ⟨b, o, hA, c0, c1, c2, c3⟩ := RowS.lease_at (HR.out.below L3.out) hx
      subst hA
      have hkl : k < n := by have := (List.getElem?_eq_some_iff.1 hx).1; have := hlen.out; omega
      have hk0 : (0 : Int) ≤ (k : Int) := by omega
      have hkn : (k : Int) < (n : Int) := by omega
      clear hx hfx hpl
      obtain ⟨m0, m1, m2⟩ := TBox.cells B3.out
      obtain ⟨z0, z1, z2, z3⟩ := LBox.cells (x := zL) N3.out
      obtain ⟨f0, f1, f2, f3⟩ := LBox.frozen (x := zL) N3.out
      go_wp2_with fail
      refine bodyPost_ret_by (results_c1 rfl _ _ (w.heap.size + 1) _ _ _ _ rfl (Cells.set4 N3.out (.int .i64 x.key) (.int .i64 x.host) (.int .i64 x.epoch) (.int .i64 x.til)) Tryz.underlying65 rfl (by kernel_rfl)) rfl ?_
      exact ⟨by simp only [Bool.and_self, cond_true]; rw [hgx.out]; rfl, below4 L3.out (by omega) _ _ _ _⟩

end Lea
end Go.Proofs.YtmflngclncidjaaGreat
/-
  WALKS: hostMayBe, refused, isZone, holder, Owner, Member.
-/
namespace Go.Proofs.YtmflngclncidjaaGreat
open Go.RowKit Mem
namespace Coo
open Lea (Cells But OneBox Lv Tv)
open Spa (Sp)

set_option maxRecDepth 100000 in
set_option maxHeartbeats 800000 in
theorem host_any (h : Int) (w : World) : Calls Tryz.prog 27 #[.int .i64 h] w fun e w' => e = .returned (.bool (hostB h)) ∧ w' = w := by
  unfold hostB
  rcases e1 : decide (0 ≤ h)
  · go_enter Tryz.func27, Tryz.ntmps27
    go_wp2
    go_ret
    exact ⟨rfl, rfl⟩
  · rcases e2 : decide (h < 8)
    · go_enter Tryz.func27, Tryz.ntmps27
      go_wp2
      go_ret
      exact ⟨rfl, rfl⟩
    · go_enter Tryz.func27, Tryz.ntmps27
      go_wp2
      go_ret
      exact ⟨rfl, rfl⟩

set_option maxRecDepth 100000 in
set_option maxHeartbeats 800000 in
theorem refused_any (er : Int) (w : World) : Calls Tryz.prog 52 #[.int .i64 er] w fun e w' => e = .returned (anv er 0 none 0 0) ∧ Below w.heap.size w w' := by
  have L1 : Hid (Below w.heap.size w (w.alloc (.cells #[.int .i64 0, .int .i64 0, .slice none 0 0] 39))) := (Below.refl w.heap.size w).alloc (Nat.le_refl _) _
  have N1 : Hid (ABox (w.alloc (.cells #[.int .i64 0, .int .i64 0, .slice none 0 0] 39)) w.heap.size 0 0 none 0 0) := Cells.new w _ _
  go_enter Tryz.func52, Tryz.ntmps52
  go_upto_region 1 with fail
  generalize w.alloc (.cells #[.int .i64 0, .int .i64 0, .slice none 0 0] 39) = w1 at *
  obtain ⟨n0, n1, n2⟩ := N1.out.cells
  obtain ⟨f0, f1, f2⟩ := N1.out.frozen
  go_wp2_with fail
  refine bodyPost_ret_by (results_cell_row rfl _ _ w.heap.size _ _ _ _ rfl (ABox.store N1.out er 0 none 0 0) Tryz.underlying39 rfl (by kernel_rfl)) rfl ?_
  exact ⟨rfl, Lea.below3 L1.out (by omega) _ _ _⟩

set_option maxRecDepth 100000 in
set_option maxHeartbeats 1600000 in
theorem isZone_any (x : Cx) (z : Int) (w : World) : Calls Tryz.prog 25 #[cxv x, .int .i64 z] w fun e w' => e = .returned (.bool (zoneB x.p z)) ∧ Below w.heap.size w w' := by
  have L1 : Hid (Below w.heap.size w (w.alloc (.cells #[.int .i64 x.p.t.last, .int .i64 x.p.t.now, .slice x.A x.n x.a, .slice x.S x.m x.s, .slice x.W x.q x.k, .int .i64 x.p.ttl, .int .i64 x.p.zones] 31))) := (Below.refl w.heap.size w).alloc (Nat.le_refl _) _
  have B1 : Hid (CBox (w.alloc (.cells #[.int .i64 x.p.t.last, .int .i64 x.p.t.now, .slice x.A x.n x.a, .slice x.S x.m x.s, .slice x.W x.q x.k, .int .i64 x.p.ttl, .int .i64 x.p.zones] 31)) w.heap.size x) := Cells.new w _ _
  unfold zoneB
  rcases e1 : decide (0 ≤ z)
  · go_enter Tryz.func25, Tryz.ntmps25
    go_upto_region 1 with fail
    generalize w.alloc (.cells #[.int .i64 x.p.t.last, .int .i64 x.p.t.now, .slice x.A x.n x.a, .slice x.S x.m x.s, .slice x.W x.q x.k, .int .i64 x.p.ttl, .int .i64 x.p.zones] 31) = w1 at *
    go_wp2_with fail
    go_ret
    exact ⟨rfl, L1.out⟩
  · rcases e2 : decide (z < x.p.zones)
    all_goals
      go_enter Tryz.func25, Tryz.ntmps25
      go_upto_region 1 with fail
      generalize w.alloc (.cells #[.int .i64 x.p.t.last, .int .i64 x.p.t.now, .slice x.A x.n x.a, .slice x.S x.m x.s, .slice x.W x.q x.k, .int .i64 x.p.ttl, .int .i64 x.p.zones] 31) = w1 at *
      obtain ⟨m0, m1, m2, m3, m4, m5, m6⟩ := seven B1.out
      go_wp2_with fail
      go_ret
      exact ⟨rfl, L1.out⟩

/-- The lease of a key, and whether there is one, of a table that may be. -/
theorem hold_any {x : Cx} {w : World} (key : Int) (h : Lea.RowL w x.A x.n x.a x.p.t.l) (hn : x.n ≤ 1000000) (hok : Lea.okT x.p.t = true) :
    Calls Tryz.prog 28 #[Lea.tv x.p.t.last x.p.t.now x.A x.n x.a, .int .i64 key] w fun e w' => e = .returned (.tuple #[Lea.lv (bif Lea.heldB x.p.t.l key then Lea.getL x.p.t.l key else Lea.zL), .bool (Lea.heldB x.p.t.l key)]) ∧ Below w.heap.size w w' := by
  refine (Lea.holder_any (last := x.p.t.last) (now := x.p.t.now) key h hn).mono ?_
  rintro e w' ⟨rfl, hb⟩
  refine ⟨?_, hb⟩
  unfold Lea.holdP
  rw [show Lea.okT ⟨x.p.t.last, x.p.t.now, x.p.t.l⟩ = true from hok]
  simp only [Bool.true_and]
  rcases Lea.heldB x.p.t.l key <;> rfl
set_option maxRecDepth 100000 in
set_option maxHeartbeats 1600000 in
theorem member_any {x : Cx} {w : World} (hst : Int) (h : Lea.RowL w x.A x.n x.a x.p.t.l) (hn : x.n ≤ 1000000) (hok : Lea.okT x.p.t = true) :
    Calls Tryz.prog 15 #[cxv x, .int .i64 hst] w fun e w' => e = .returned (.bool (memB x.p hst)) ∧ Below w.heap.size w w' := by
  have HR := Lib.hid h
  have HH := fun w => Lib.hid (host_any hst w)
  have L1 : Hid (Below w.heap.size w (w.alloc (.cells #[.int .i64 x.p.t.last, .int .i64 x.p.t.now, .slice x.A x.n x.a, .slice x.S x.m x.s, .slice x.W x.q x.k, .int .i64 x.p.ttl, .int .i64 x.p.zones] 31))) := (Below.refl w.heap.size w).alloc (Nat.le_refl _) _
  have B1 : Hid (CBox (w.alloc (.cells #[.int .i64 x.p.t.last, .int .i64 x.p.t.now, .slice x.A x.n x.a, .slice x.S x.m x.s, .slice x.W x.q x.k, .int .i64 x.p.ttl, .int .i64 x.p.zones] 31)) w.heap.size x) := Cells.new w _ _
  have HL := fun w (h : Lea.RowL w x.A x.n x.a x.p.t.l) => Lib.hid (hold_any (2000 + hst) h hn hok)
  clear h
  unfold memB memL
  rcases e1 : hostB hst
  · rw [e1] at HH
    go_enter Tryz.func15, Tryz.ntmps15
    go_upto_region 1 with fail
    generalize w.alloc (.cells #[.int .i64 x.p.t.last, .int .i64 x.p.t.now, .slice x.A x.n x.a, .slice x.S x.m x.s, .slice x.W x.q x.k, .int .i64 x.p.ttl, .int .i64 x.p.zones] 31) = w1 at *
    go_wp2_with fail
    refine (HH w1).out.mono ?_
    rintro e w2 ⟨rfl, hw⟩
    obtain rfl := hw.symm
    go_wp2_with fail
    go_ret
    exact ⟨rfl, L1.out⟩
  · rw [e1] at HH
    have hw : IntKind.i64.wrap (2000 + hst) = 2000 + hst := by
      have := hostB_iff.1 e1
      rw [IntKind.wrap_i64]; omega
    generalize Lea.heldB x.p.t.l (2000 + hst) = bb at *
    generalize (bif bb then Lea.getL x.p.t.l (2000 + hst) else Lea.zL) = v at *
    clear e1
    go_enter Tryz.func15, Tryz.ntmps15
    go_upto_region 1 with fail
    generalize w.alloc (.cells #[.int .i64 x.p.t.last, .int .i64 x.p.t.now, .slice x.A x.n x.a, .slice x.S x.m x.s, .slice x.W x.q x.k, .int .i64 x.p.ttl, .int .i64 x.p.zones] 31) = w1 at *
    obtain ⟨m0, m1, m2, m3, m4, m5, m6⟩ := seven B1.out
    go_wp2_with fail
    refine (HH w1).out.mono ?_
    rintro e w2 ⟨rfl, hw2⟩
    obtain rfl := hw2.symm
    go_wp2_with fail
    refine (HL w1 (HR.out.below L1.out)).out.mono ?_
    rintro e w3 ⟨rfl, hb⟩
    have L3 := Lib.hid (L1.out.trans (hb.mono L1.out.size))
    have G3 : Hid (w.heap.size ≤ w3.heap.size) := L3.out.size
    clear hb m0 m1 m2 m3 m4 m5 m6 B1 L1 HL HH
    go_wp2_with fail
    go_ret
    exact ⟨rfl, L3.out.alloc G3.out _⟩

set_option maxRecDepth 100000 in
set_option maxHeartbeats 1600000 in
theorem holder_any {x : Cx} {w : World} (key : Int) (h : Lea.RowL w x.A x.n x.a x.p.t.l) (hn : x.n ≤ 1000000) (hok : Lea.okT x.p.t = true) :
    Calls Tryz.prog 26 #[cxv x, .int .i64 key] w fun e w' => e = .returned (.tuple #[.int .i64 (ownL x.p.t.l key).1, .int .i64 (ownL x.p.t.l key).2]) ∧ Below w.heap.size w w' := by
  have HR := Lib.hid h
  have L1 : Hid (Below w.heap.size w (w.alloc (.cells #[.int .i64 x.p.t.last, .int .i64 x.p.t.now, .slice x.A x.n x.a, .slice x.S x.m x.s, .slice x.W x.q x.k, .int .i64 x.p.ttl, .int .i64 x.p.zones] 31))) := (Below.refl w.heap.size w).alloc (Nat.le_refl _) _
  have B1 : Hid (CBox (w.alloc (.cells #[.int .i64 x.p.t.last, .int .i64 x.p.t.now, .slice x.A x.n x.a, .slice x.S x.m x.s, .slice x.W x.q x.k, .int .i64 x.p.ttl, .int .i64 x.p.zones] 31)) w.heap.size x) := Cells.new w _ _
  have HL := fun w (h : Lea.RowL w x.A x.n x.a x.p.t.l) => Lib.hid (hold_any key h hn hok)
  clear h
  unfold ownL
  rcases e1 : Lea.heldB x.p.t.l key
  all_goals
    rw [e1] at HL
    simp only [cond_true, cond_false] at HL
  · generalize Lea.zL = v at *
    go_enter Tryz.func26, Tryz.ntmps26
    go_upto_region 1 with fail
    generalize w.alloc (.cells #[.int .i64 x.p.t.last, .int .i64 x.p.t.now, .slice x.A x.n x.a, .slice x.S x.m x.s, .slice x.W x.q x.k, .int .i64 x.p.ttl, .int .i64 x.p.zones] 31) = w1 at *
    obtain ⟨m0, m1, m2, m3, m4, m5, m6⟩ := seven B1.out
    go_wp2_with fail
    refine (HL w1 (HR.out.below L1.out)).out.mono ?_
    rintro e w3 ⟨rfl, hb⟩
    have L3 := Lib.hid (L1.out.trans (hb.mono L1.out.size))
    have G3 : Hid (w.heap.size ≤ w3.heap.size) := L3.out.size
    clear hb m0 m1 m2 m3 m4 m5 m6 B1 L1 HL
    go_wp2_with fail
    go_ret2
    exact ⟨rfl, L3.out.alloc G3.out _⟩
  · generalize Lea.getL x.p.t.l key = v at *
    go_enter Tryz.func26, Tryz.ntmps26
    go_upto_region 1 with fail
    generalize w.alloc (.cells #[.int .i64 x.p.t.last, .int .i64 x.p.t.now, .slice x.A x.n x.a, .slice x.S x.m x.s, .slice x.W x.q x.k, .int .i64 x.p.ttl, .int .i64 x.p.zones] 31) = w1 at *
    obtain ⟨m0, m1, m2, m3, m4, m5, m6⟩ := seven B1.out
    go_wp2_with fail
    refine (HL w1 (HR.out.below L1.out)).out.mono ?_
    rintro e w3 ⟨rfl, hb⟩
    have L3 := Lib.hid (L1.out.trans (hb.mono L1.out.size))
    have G3 : Hid (w.heap.size ≤ w3.heap.size) := L3.out.size
    have X3 : Hid (Lea.LBox (w3.alloc (.cells #[.int .i64 v.key, .int .i64 v.host, .int .i64 v.epoch, .int .i64 v.til] 65)) w3.heap.size v) := Cells.new w3 _ _
    have L4 : Hid (Below w.heap.size w (w3.alloc (.cells #[.int .i64 v.key, .int .i64 v.host, .int .i64 v.epoch, .int .i64 v.til] 65))) := L3.out.alloc G3.out _
    clear hb m0 m1 m2 m3 m4 m5 m6 B1 L1 HL
    go_upto_region 4 with fail
    generalize w3.alloc (.cells #[.int .i64 v.key, .int .i64 v.host, .int .i64 v.epoch, .int .i64 v.til] 65) = w4 at *
    obtain ⟨y0, y1, y2, y3⟩ := Lea.LBox.cells X3.out
    generalize w3.heap.size = gv at *
    refine wp_region_held_drew (S := fun W => W.cell? ⟨gv, 1, none⟩ = some (.int .i64 v.host) ∧ W.cell? ⟨gv, 2, none⟩ = some (.int .i64 v.epoch)) (by kernel_rfl) ⟨y1, y2⟩ (fun hHeld => ?_)
    have L5 : Hid (Below w.heap.size w w4.drew) := L4.out.drew
    generalize w4.drew = w5 at *
    (first | (refine Reg.take 0 (v := ?_) rfl (by kernel_rfl) (by kernel_rfl) (by kernel_rfl) (fun _ _ _ h => h) (Or.inl ⟨by rfl, ?_⟩) (by assumption) ?_; rotate_left; (focus ((intro W hSW); (try dsimp only at hSW); (try go_split_ands); go_simp; (try (with_reducible rfl)); done))) | (refine Reg.take 0 (v := undef) rfl (by kernel_rfl) (by kernel_rfl) (by kernel_rfl) (fun _ _ _ h => h) (Or.inr ⟨by rfl, rfl⟩) (by assumption) ?_))
    (try simp only [Act.put, List.setIfInBounds_toArray, List.set_cons_zero, List.set_cons_succ])
    (first | (refine Reg.take 1 (v := ?_) rfl (by kernel_rfl) (by kernel_rfl) (by kernel_rfl) (fun _ _ _ h => h) (Or.inl ⟨by rfl, ?_⟩) (by assumption) ?_; rotate_left; (focus ((intro W hSW); (try dsimp only at hSW); (try go_split_ands); go_simp; (try (with_reducible rfl)); done))) | (refine Reg.take 1 (v := undef) rfl (by kernel_rfl) (by kernel_rfl) (by kernel_rfl) (fun _ _ _ h => h) (Or.inr ⟨by rfl, rfl⟩) (by assumption) ?_))
    (try simp only [Act.put, List.setIfInBounds_toArray, List.set_cons_zero, List.set_cons_succ])
    (first | (refine Reg.take 2 (v := ?_) rfl (by kernel_rfl) (by kernel_rfl) (by kernel_rfl) (fun _ _ _ h => h) (Or.inl ⟨by rfl, ?_⟩) (by assumption) ?_; rotate_left; (focus ((intro W hSW); (try dsimp only at hSW); (try go_split_ands); go_simp; (try (with_reducible rfl)); done))) | (refine Reg.take 2 (v := undef) rfl (by kernel_rfl) (by kernel_rfl) (by kernel_rfl) (fun _ _ _ h => h) (Or.inr ⟨by rfl, rfl⟩) (by assumption) ?_))
    (try simp only [Act.put, List.setIfInBounds_toArray, List.set_cons_zero, List.set_cons_succ])
    (first | (refine Reg.take 3 (v := ?_) rfl (by kernel_rfl) (by kernel_rfl) (by kernel_rfl) (fun _ _ _ h => h) (Or.inl ⟨by rfl, ?_⟩) (by assumption) ?_; rotate_left; (focus ((intro W hSW); (try dsimp only at hSW); (try go_split_ands); go_simp; (try (with_reducible rfl)); done))) | (refine Reg.take 3 (v := undef) rfl (by kernel_rfl) (by kernel_rfl) (by kernel_rfl) (fun _ _ _ h => h) (Or.inr ⟨by rfl, rfl⟩) (by assumption) ?_))
    (try simp only [Act.put, List.setIfInBounds_toArray, List.set_cons_zero, List.set_cons_succ])
    (first | (refine Reg.take 4 (v := ?_) rfl (by kernel_rfl) (by kernel_rfl) (by kernel_rfl) (fun _ _ _ h => h) (Or.inl ⟨by rfl, ?_⟩) (by assumption) ?_; rotate_left; (focus ((intro W hSW); (try dsimp only at hSW); (try go_split_ands); go_simp; (try (with_reducible rfl)); done))) | (refine Reg.take 4 (v := undef) rfl (by kernel_rfl) (by kernel_rfl) (by kernel_rfl) (fun _ _ _ h => h) (Or.inr ⟨by rfl, rfl⟩) (by assumption) ?_))
    (try simp only [Act.put, List.setIfInBounds_toArray, List.set_cons_zero, List.set_cons_succ])
    (first | (refine Reg.take 5 (v := ?_) rfl (by kernel_rfl) (by kernel_rfl) (by kernel_rfl) (fun _ _ _ h => h) (Or.inl ⟨by rfl, ?_⟩) (by assumption) ?_; rotate_left; (focus ((intro W hSW); (try dsimp only at hSW); (try go_split_ands); go_simp; (try (with_reducible rfl)); done))) | (refine Reg.take 5 (v := undef) rfl (by kernel_rfl) (by kernel_rfl) (by kernel_rfl) (fun _ _ _ h => h) (Or.inr ⟨by rfl, rfl⟩) (by assumption) ?_))
    (try simp only [Act.put, List.setIfInBounds_toArray, List.set_cons_zero, List.set_cons_succ])
    refine wpAnyH_done (by kernel_rfl) ?_ _
    go_wp2_with fail
    go_ret2
    exact ⟨rfl, L5.out⟩

set_option maxRecDepth 100000 in
set_option maxHeartbeats 1600000 in
theorem owner_any {x : Cx} {w : World} (z : Int) (h : Lea.RowL w x.A x.n x.a x.p.t.l) (hn : x.n ≤ 1000000) (hok : Lea.okT x.p.t = true) :
    Calls Tryz.prog 14 #[cxv x, .int .i64 z] w fun e w' => e = .returned (.tuple #[.int .i64 (ownerC x.p z).1, .int .i64 (ownerC x.p z).2]) ∧ Below w.heap.size w w' := by
  have HR := Lib.hid h
  have HZ := fun w => Lib.hid (isZone_any x z w)
  have L1 : Hid (Below w.heap.size w (w.alloc (.cells #[.int .i64 x.p.t.last, .int .i64 x.p.t.now, .slice x.A x.n x.a, .slice x.S x.m x.s, .slice x.W x.q x.k, .int .i64 x.p.ttl, .int .i64 x.p.zones] 31))) := (Below.refl w.heap.size w).alloc (Nat.le_refl _) _
  have B1 : Hid (CBox (w.alloc (.cells #[.int .i64 x.p.t.last, .int .i64 x.p.t.now, .slice x.A x.n x.a, .slice x.S x.m x.s, .slice x.W x.q x.k, .int .i64 x.p.ttl, .int .i64 x.p.zones] 31)) w.heap.size x) := Cells.new w _ _
  have HL := fun w (h : Lea.RowL w x.A x.n x.a x.p.t.l) => Lib.hid (holder_any z h hn hok)
  clear h
  unfold ownerC
  generalize ownL x.p.t.l z = v at *
  rcases e1 : zoneB x.p z
  all_goals
    rw [e1] at HZ
    go_enter Tryz.func14, Tryz.ntmps14
    go_upto_region 1 with fail
    generalize w.alloc (.cells #[.int .i64 x.p.t.last, .int .i64 x.p.t.now, .slice x.A x.n x.a, .slice x.S x.m x.s, .slice x.W x.q x.k, .int .i64 x.p.ttl, .int .i64 x.p.zones] 31) = w1 at *
    obtain ⟨m0, m1, m2, m3, m4, m5, m6⟩ := seven B1.out
    go_wp2_with fail
    refine (HZ w1).out.mono ?_
    rintro e w2 ⟨rfl, hb⟩
    have L2 := Lib.hid (L1.out.trans (hb.mono L1.out.size))
    have B2 := Lib.hid (Lea.Cells.below B1.out hb)
    clear hb m0 m1 m2 m3 m4 m5 m6 B1 L1 HZ
    obtain ⟨m0, m1, m2, m3, m4, m5, m6⟩ := seven B2.out
    go_wp2_with fail
  · go_ret2
    exact ⟨rfl, L2.out⟩
  · refine (HL w2 (HR.out.below L2.out)).out.mono ?_
    rintro e w3 ⟨rfl, hb⟩
    have L3 := Lib.hid (L2.out.trans (hb.mono L2.out.size))
    clear hb
    go_wp2_with fail
    go_ret2
    exact ⟨rfl, L3.out⟩
end Coo
end Go.Proofs.YtmflngclncidjaaGreat
