/-
  WALKS: where one who asked, and an answer, stand; what is known of one.
-/
import Derived.Test.YtndcflchdecofaaDedFind
import Derived.BigQuiet
namespace Go.Proofs.Ytndcflchdecofaa
open Go.RowKit Mem Box
namespace Ded

theorem below_drewN {b : Nat} {a w : World} (h : Below b a w) (q : Nat) : Below b a (w.drewN q) := ⟨h.os, h.tape, h.output, h.size, h.block⟩
set_option maxRecDepth 100000 in
set_option maxHeartbeats 3200000 in
theorem said1_any {A : Option Addr} {n c g q i : Nat} {l : List Dx} {x : Dx} {v : Int} {w : World} (h : SaidAt w A n c l) (hx : l[i]? = some x) (hq : Cells w q 3 #[.int .i64 v]) (hg : Cells w g 49 #[.slice A n c]) :
    Calls Try.prog 33 #[.int .i64 i, .pointer (some ⟨q, 0, none⟩), .pointer (some ⟨g, 0, none⟩)] w fun e w' => e = .returned (.int .i64 (cmpI v x.id)) ∧ Below w.heap.size w w' := by
  have hi : i < n := by have := (List.getElem?_eq_some_iff.1 hx).1; have := h.row.len; omega
  obtain ⟨b, o, hA, -, hc⟩ := h.cells hx
  obtain ⟨c0, -⟩ := hc w (Below.refl _ _)
  subst hA
  have m0 := Cells.cell hg 0
  have m1 := Cells.cell hq 0
  have hk0 : (0 : Int) ≤ (i : Int) := by omega
  have hkn : (i : Int) < (n : Int) := by omega
  have J := Lib.hid (fun N => compare_any v x.id (w.drewN N))
  clear h hx hg hq hc
  go_enter Try.func33, Try.ntmps33
  go_upto_region 1 with fail
  go_big_quiet ((go_at_call 34; with_reducible exact Calls.quiet_of_same (J.out _)))
  go_wp2_with fail
  go_ret
  exact ⟨rfl, below_drewN (Below.refl _ w) _⟩
set_option maxRecDepth 100000 in
set_option maxHeartbeats 3200000 in
theorem seen1_any {A : Option Addr} {n c g q i : Nat} {l : List Sx} {x : Sx} {v : Int} {w : World} (h : ListAt w A n c l) (hx : l[i]? = some x) (hq : Cells w q 3 #[.int .i64 v]) (hg : Cells w g 24 #[.slice A n c]) :
    Calls Try.prog 37 #[.int .i64 i, .pointer (some ⟨q, 0, none⟩), .pointer (some ⟨g, 0, none⟩)] w fun e w' => e = .returned (.int .i64 (cmpI v x.f)) ∧ Below w.heap.size w w' := by
  have hi : i < n := by have := (List.getElem?_eq_some_iff.1 hx).1; have := h.row.len; omega
  obtain ⟨b, o, hA, -, hc⟩ := h.cells hx
  obtain ⟨c0, -⟩ := hc w (Below.refl _ _)
  subst hA
  have m0 := Cells.cell hg 0
  have m1 := Cells.cell hq 0
  have hk0 : (0 : Int) ≤ (i : Int) := by omega
  have hkn : (i : Int) < (n : Int) := by omega
  have J := Lib.hid (fun N => compare_any v x.f (w.drewN N))
  clear h hx hg hq hc
  go_enter Try.func37, Try.ntmps37
  go_upto_region 1 with fail
  go_big_quiet ((go_at_call 34; with_reducible exact Calls.quiet_of_same (J.out _)))
  go_wp2_with fail
  go_ret
  exact ⟨rfl, below_drewN (Below.refl _ w) _⟩
set_option maxRecDepth 100000 in
set_option maxHeartbeats 3200000 in
theorem findSaid_any {A : Option Addr} {n c : Nat} {l : List Dx} {v : Int} {w : World} (h : SaidAt w A n c l) (hr : (l.map Dx.id).Pairwise (· < ·)) :
    Calls Try.prog 17 #[.slice A n c, .int .i64 v] w fun e w' => e = .returned (.tuple #[.int .i64 (atV (l.map Dx.id) v), .bool (hasV (l.map Dx.id) v)]) ∧ Below w.heap.size w w' := by
  have H := Lib.hid h
  have L1 : Hid (Below w.heap.size w ((w.alloc (.cells #[.slice A n c] 49)).alloc (.cells #[.int .i64 v] 3))) := ((Below.refl w.heap.size w).alloc (Nat.le_refl _) _).alloc (by simp) _
  have B1 : Hid (Cells ((w.alloc (.cells #[.slice A n c] 49)).alloc (.cells #[.int .i64 v] 3)) w.heap.size 49 #[.slice A n c]) := Cells.alloc (Cells.new _ _ _) _
  have B2 : Hid (Cells ((w.alloc (.cells #[.slice A n c] 49)).alloc (.cells #[.int .i64 v] 3)) (w.heap.size + 1) 3 #[.int .i64 v]) := by
    have := Cells.new (w.alloc (.cells #[.slice A n c] 49)) #[.int .i64 v] 3
    rw [World.size_alloc] at this
    exact this
  have HF := Lib.hid (show ∀ W, Below w.heap.size w W → Cells W w.heap.size 49 #[.slice A n c] → Cells W (w.heap.size + 1) 3 #[.int .i64 v] → Calls Try.prog 32 #[.int .i64 n, .func (.func 33) #[] #[.pointer (some ⟨w.heap.size + 1, 0, none⟩), .pointer (some ⟨w.heap.size, 0, none⟩)]] W fun e w' => e = .returned (.tuple #[.int .i64 (atV (l.map Dx.id) v), .bool (hasV (l.map Dx.id) v)]) ∧ Below W.heap.size W w' from fun W hW h1 h2 =>
    find_any (w := W) 33 #[.pointer (some ⟨w.heap.size + 1, 0, none⟩), .pointer (some ⟨w.heap.size, 0, none⟩)] (enters_of Try.func33 (by kernel_rfl) rfl) (by rw [List.length_map]; exact h.row.len) h.row.big hr (fun W2 i u hW2 hu => by
      rw [List.getElem?_map] at hu
      obtain ⟨x, hx, rfl⟩ := Option.map_eq_some_iff.1 hu
      exact said1_any (H.out.below (hW.trans (hW2.mono hW.size))) hx (Cells.below h2 hW2) (Cells.below h1 hW2)))
  clear h hr
  go_enter Try.func17, Try.ntmps17
  go_upto_region 1 with fail
  generalize (w.alloc (.cells #[.slice A n c] 49)).alloc (.cells #[.int .i64 v] 3) = w1 at *
  have m0 := Cells.cell B1.out 0
  have m1 := Cells.cell B2.out 0
  go_wp2_with (go_at_call 32; refine (HF.out _ L1.out B1.out B2.out).mono ?_; rintro e w2 ⟨rfl, hb⟩; have L2 := Lib.hid (L1.out.trans (hb.mono L1.out.size)); clear hb)
  go_ret2
  exact ⟨rfl, L2.out⟩
set_option maxRecDepth 100000 in
set_option maxHeartbeats 3200000 in
theorem findSeen_any {A : Option Addr} {n c : Nat} {l : List Sx} {v : Int} {w : World} (h : ListAt w A n c l) (hr : (l.map Sx.f).Pairwise (· < ·)) :
    Calls Try.prog 19 #[.slice A n c, .int .i64 v] w fun e w' => e = .returned (.tuple #[.int .i64 (atV (l.map Sx.f) v), .bool (hasV (l.map Sx.f) v)]) ∧ Below w.heap.size w w' := by
  have H := Lib.hid h
  have L1 : Hid (Below w.heap.size w ((w.alloc (.cells #[.slice A n c] 24)).alloc (.cells #[.int .i64 v] 3))) := ((Below.refl w.heap.size w).alloc (Nat.le_refl _) _).alloc (by simp) _
  have B1 : Hid (Cells ((w.alloc (.cells #[.slice A n c] 24)).alloc (.cells #[.int .i64 v] 3)) w.heap.size 24 #[.slice A n c]) := Cells.alloc (Cells.new _ _ _) _
  have B2 : Hid (Cells ((w.alloc (.cells #[.slice A n c] 24)).alloc (.cells #[.int .i64 v] 3)) (w.heap.size + 1) 3 #[.int .i64 v]) := by
    have := Cells.new (w.alloc (.cells #[.slice A n c] 24)) #[.int .i64 v] 3
    rw [World.size_alloc] at this
    exact this
  have HF := Lib.hid (show ∀ W, Below w.heap.size w W → Cells W w.heap.size 24 #[.slice A n c] → Cells W (w.heap.size + 1) 3 #[.int .i64 v] → Calls Try.prog 32 #[.int .i64 n, .func (.func 37) #[] #[.pointer (some ⟨w.heap.size + 1, 0, none⟩), .pointer (some ⟨w.heap.size, 0, none⟩)]] W fun e w' => e = .returned (.tuple #[.int .i64 (atV (l.map Sx.f) v), .bool (hasV (l.map Sx.f) v)]) ∧ Below W.heap.size W w' from fun W hW h1 h2 =>
    find_any (w := W) 37 #[.pointer (some ⟨w.heap.size + 1, 0, none⟩), .pointer (some ⟨w.heap.size, 0, none⟩)] (enters_of Try.func37 (by kernel_rfl) rfl) (by rw [List.length_map]; exact h.row.len) h.row.big hr (fun W2 i u hW2 hu => by
      rw [List.getElem?_map] at hu
      obtain ⟨x, hx, rfl⟩ := Option.map_eq_some_iff.1 hu
      exact seen1_any (H.out.below (hW.trans (hW2.mono hW.size))) hx (Cells.below h2 hW2) (Cells.below h1 hW2)))
  clear h hr
  go_enter Try.func19, Try.ntmps19
  go_upto_region 1 with fail
  generalize (w.alloc (.cells #[.slice A n c] 24)).alloc (.cells #[.int .i64 v] 3) = w1 at *
  have m0 := Cells.cell B1.out 0
  have m1 := Cells.cell B2.out 0
  go_wp2_with (go_at_call 32; refine (HF.out _ L1.out B1.out B2.out).mono ?_; rintro e w2 ⟨rfl, hb⟩; have L2 := Lib.hid (L1.out.trans (hb.mono L1.out.size)); clear hb)
  go_ret2
  exact ⟨rfl, L2.out⟩

theorem has_get {vs : List Int} {v : Int} (h : hasV vs v = true) : atV vs v < vs.length := by
  unfold hasV at h
  rw [beq_iff_eq] at h
  exact (List.getElem?_eq_some_iff.1 h).1
set_option maxRecDepth 100000 in
set_option maxHeartbeats 3200000 in
theorem of_any {A : Option Addr} {n c : Nat} {l : List Sx} {v : Int} {w : World} (h : ListAt w A n c l) (hr : (l.map Sx.f).Pairwise (· < ·)) :
    Calls Try.prog 16 #[.slice A n c, .int .i64 v] w fun e w' => ∃ y, e = .returned (sxv y) ∧ y.p = ofP (l.map Sx.p) v ∧ SeenAt w' y ∧ Below w.heap.size w w' := by
  have H := Lib.hid h
  have HF := Lib.hid (fun W (hW : Below w.heap.size w W) => findSeen_any (v := v) (h.below hW) hr)
  have L1 : Hid (Below w.heap.size w (w.alloc (.cells #[.int .i64 0, .int .i64 0, .slice none 0 0] 51))) := (Below.refl _ w).alloc (Nat.le_refl _) _
  have X1 : Hid (SBox (w.alloc (.cells #[.int .i64 0, .int .i64 0, .slice none 0 0] 51)) w.heap.size s0) := Cells.new _ _ _
  have hl := h.row.len
  have em : (l.map Sx.p).map Sp.f = l.map Sx.f := by rw [List.map_map]; rfl
  clear h hr
  rcases e : hasV (l.map Sx.f) v
  · have HE : Hid (ofP (l.map Sx.p) v = ⟨v, 0, []⟩) := by
      show ofP _ _ = _
      unfold ofP
      rw [em, e]
      split <;> rfl
    rw [e] at HF
    clear em
    go_enter Try.func16, Try.ntmps16
    go_upto_region 1 with fail
    generalize w.alloc (.cells #[.int .i64 0, .int .i64 0, .slice none 0 0] 51) = w1 at *
    go_upto_region 2 with (go_at_call 19; refine (HF.out _ L1.out).mono ?_; rintro e w2 ⟨rfl, hb⟩; have L2 := Lib.hid (L1.out.trans (hb.mono L1.out.size)); have X2 := Lib.hid (Cells.below X1.out hb); clear hb)
    obtain ⟨m0, m1, m2⟩ := SBox.cells X2.out
    obtain ⟨f0, f1, f2⟩ := three_free X2.out
    go_wp2_with fail
    refine bodyPost_ret_by (results_c0 rfl _ _ w.heap.size _ _ _ _ rfl (Cells.set3 X2.out (.int .i64 v) (.int .i64 0) (.slice none 0 0)) Try.underlying51 rfl (by kernel_rfl)) rfl ?_
    exact ⟨⟨v, 0, none, 0, 0, []⟩, rfl, HE.out.symm, SaidAt.nil _, L2.out.trans ((Mov.set3 _ _ _ _ _).up L2.out.size (Nat.le_refl _))⟩
  · have hk := has_get e
    rw [List.length_map] at hk
    obtain ⟨x, hx⟩ : ∃ x, l[atV (l.map Sx.f) v]? = some x := ⟨_, List.getElem?_eq_getElem hk⟩
    have HX := Lib.hid (H.out.at_ x (List.mem_of_getElem? hx))
    have HE : Hid (ofP (l.map Sx.p) v = x.p) := by
      show ofP _ _ = _
      unfold ofP
      rw [em, e, List.getElem?_map, hx]
      rfl
    rw [e] at HF
    obtain ⟨b, o, hA, -, hc⟩ := H.out.cells hx
    have HC := Lib.hid hc
    subst hA
    clear em hc hx
    generalize atV (l.map Sx.f) v = k at *
    have hk0 : (0 : Int) ≤ (k : Int) := by omega
    have hkn : (k : Int) < (n : Int) := by omega
    go_enter Try.func16, Try.ntmps16
    go_upto_region 1 with fail
    generalize w.alloc (.cells #[.int .i64 0, .int .i64 0, .slice none 0 0] 51) = w1 at *
    go_upto_region 4 with (go_at_call 19; refine (HF.out _ L1.out).mono ?_; rintro e w2 ⟨rfl, hb⟩; have L2 := Lib.hid (L1.out.trans (hb.mono L1.out.size)); have X2 := Lib.hid (Cells.below X1.out hb); clear hb)
    obtain ⟨m0, m1, m2⟩ := SBox.cells X2.out
    obtain ⟨f0, f1, f2⟩ := three_free X2.out
    obtain ⟨c0, c1, c2⟩ := HC.out _ L2.out
    go_wp2_with fail
    have L3 := L2.out.trans ((Mov.set3 w2 w.heap.size (.int .i64 x.f) (.int .i64 x.b) (.slice x.A x.n x.c)).up L2.out.size (Nat.le_refl _))
    refine bodyPost_ret_by (results_c0 rfl _ _ w.heap.size _ _ _ _ rfl (Cells.set3 X2.out (.int .i64 x.f) (.int .i64 x.b) (.slice x.A x.n x.c)) Try.underlying51 rfl (by kernel_rfl)) rfl ?_
    exact ⟨x, rfl, HE.out.symm, HX.out.below L3, L3⟩
end Ded
end Go.Proofs.Ytndcflchdecofaa
