/-
  WALKS: where a block's span stands (find), Find.
-/
import Derived.Test.YtjoemlifpbjdbaaSpaOwn
import Derived.Test.YtjoemlifpbjdbaaSpaIdx
namespace Go.Proofs.Ytjoemlifpbjdbaa
open Go.RowKit Mem
namespace Spa

set_option maxRecDepth 100000 in
set_option maxHeartbeats 1600000 in
/-- find's own question: the spans' slice lies in block g, the block in block q. -/
theorem find1_any {A : Option Addr} {n c : Nat} {l : List Sp} {key : Int} {g q i : Nat} {x : Sp} {w : World} (h : RowL w A n c l) (hi : i < n) (hx : l[i]? = some x) (hg : OneBox w g 22 (.slice A n c)) (hq : OneBox w q 3 (.int .i64 key)) :
    Calls Try.prog 51 #[.int .i64 i, .pointer (some ⟨g, 0, none⟩), .pointer (some ⟨q, 0, none⟩)] w fun e w' => e = .returned (.bool (decide (key < x.to))) ∧ Below w.heap.size w w' := by
  obtain ⟨b, o, hA, -, c1, -, -⟩ := RowS.span_at h hx
  subst hA
  have m0 := OneBox.cells hg
  have m1 := OneBox.cells hq
  have hk0 : (0 : Int) ≤ (i : Int) := by omega
  have hkn : (i : Int) < (n : Int) := by omega
  clear h hx hg hq
  go_enter Try.func51, Try.ntmps51
  go_upto_region 1 with fail
  refine wp_region_held_drew (S := fun W => W.cell? ⟨b, o + i * 4 + 1, none⟩ = some (.int .i64 x.to) ∧ W.cell? ⟨g, 0, none⟩ = some (.slice (some ⟨b, o, none⟩) n c) ∧ W.cell? ⟨q, 0, none⟩ = some (.int .i64 key)) (by kernel_rfl) ⟨c1, m0, m1⟩ (fun hHeld => ?_)
  (first | (refine Reg.take 0 (v := ?_) rfl (by kernel_rfl) (by kernel_rfl) (by kernel_rfl) (fun _ _ _ h => h) (Or.inl ⟨by rfl, ?_⟩) (by assumption) ?_; rotate_left; (focus ((intro W hSW); (try dsimp only at hSW); (try go_split_ands); go_simp; (try (with_reducible rfl)); done))) | (refine Reg.take 0 (v := undef) rfl (by kernel_rfl) (by kernel_rfl) (by kernel_rfl) (fun _ _ _ h => h) (Or.inr ⟨by rfl, rfl⟩) (by assumption) ?_))
  (try simp only [Act.put, List.setIfInBounds_toArray, List.set_cons_zero, List.set_cons_succ])
  (first | (refine Reg.take 1 (v := ?_) rfl (by kernel_rfl) (by kernel_rfl) (by kernel_rfl) (fun _ _ _ h => h) (Or.inl ⟨by rfl, ?_⟩) (by assumption) ?_; rotate_left; (focus ((intro W hSW); (try dsimp only at hSW); (try go_split_ands); go_simp; (try (with_reducible rfl)); done))) | (refine Reg.take 1 (v := undef) rfl (by kernel_rfl) (by kernel_rfl) (by kernel_rfl) (fun _ _ _ h => h) (Or.inr ⟨by rfl, rfl⟩) (by assumption) ?_))
  (try simp only [Act.put, List.setIfInBounds_toArray, List.set_cons_zero, List.set_cons_succ])
  (first | (refine Reg.take 2 (v := ?_) rfl (by kernel_rfl) (by kernel_rfl) (by kernel_rfl) (fun _ _ _ h => h) (Or.inl ⟨by rfl, ?_⟩) (by assumption) ?_; rotate_left; (focus ((intro W hSW); (try dsimp only at hSW); (try go_split_ands); go_simp; (try (with_reducible rfl)); done))) | (refine Reg.take 2 (v := undef) rfl (by kernel_rfl) (by kernel_rfl) (by kernel_rfl) (fun _ _ _ h => h) (Or.inr ⟨by rfl, rfl⟩) (by assumption) ?_))
  (try simp only [Act.put, List.setIfInBounds_toArray, List.set_cons_zero, List.set_cons_succ])
  (first | (refine Reg.take 3 (v := ?_) rfl (by kernel_rfl) (by kernel_rfl) (by kernel_rfl) (fun _ _ _ h => h) (Or.inl ⟨by rfl, ?_⟩) (by assumption) ?_; rotate_left; (focus ((intro W hSW); (try dsimp only at hSW); (try go_split_ands); go_simp; (try (with_reducible rfl)); done))) | (refine Reg.take 3 (v := undef) rfl (by kernel_rfl) (by kernel_rfl) (by kernel_rfl) (fun _ _ _ h => h) (Or.inr ⟨by rfl, rfl⟩) (by assumption) ?_))
  (try simp only [Act.put, List.setIfInBounds_toArray, List.set_cons_zero, List.set_cons_succ])
  (first | (refine Reg.take 4 (v := ?_) rfl (by kernel_rfl) (by kernel_rfl) (by kernel_rfl) (fun _ _ _ h => h) (Or.inl ⟨by rfl, ?_⟩) (by assumption) ?_; rotate_left; (focus ((intro W hSW); (try dsimp only at hSW); (try go_split_ands); go_simp; (try (with_reducible rfl)); done))) | (refine Reg.take 4 (v := undef) rfl (by kernel_rfl) (by kernel_rfl) (by kernel_rfl) (fun _ _ _ h => h) (Or.inr ⟨by rfl, rfl⟩) (by assumption) ?_))
  (try simp only [Act.put, List.setIfInBounds_toArray, List.set_cons_zero, List.set_cons_succ])
  (first | (refine Reg.take 5 (v := ?_) rfl (by kernel_rfl) (by kernel_rfl) (by kernel_rfl) (fun _ _ _ h => h) (Or.inl ⟨by rfl, ?_⟩) (by assumption) ?_; rotate_left; (focus ((intro W hSW); (try dsimp only at hSW); (try go_split_ands); go_simp; (try (with_reducible rfl)); done))) | (refine Reg.take 5 (v := undef) rfl (by kernel_rfl) (by kernel_rfl) (by kernel_rfl) (fun _ _ _ h => h) (Or.inr ⟨by rfl, rfl⟩) (by assumption) ?_))
  (try simp only [Act.put, List.setIfInBounds_toArray, List.set_cons_zero, List.set_cons_succ])
  (first | (refine Reg.take 6 (v := ?_) rfl (by kernel_rfl) (by kernel_rfl) (by kernel_rfl) (fun _ _ _ h => h) (Or.inl ⟨by rfl, ?_⟩) (by assumption) ?_; rotate_left; (focus ((intro W hSW); (try dsimp only at hSW); (try go_split_ands); go_simp; (try (with_reducible rfl)); done))) | (refine Reg.take 6 (v := undef) rfl (by kernel_rfl) (by kernel_rfl) (by kernel_rfl) (fun _ _ _ h => h) (Or.inr ⟨by rfl, rfl⟩) (by assumption) ?_))
  (try simp only [Act.put, List.setIfInBounds_toArray, List.set_cons_zero, List.set_cons_succ])
  (first | (refine Reg.take 7 (v := ?_) rfl (by kernel_rfl) (by kernel_rfl) (by kernel_rfl) (fun _ _ _ h => h) (Or.inl ⟨by rfl, ?_⟩) (by assumption) ?_; rotate_left; (focus ((intro W hSW); (try dsimp only at hSW); (try go_split_ands); go_simp; (try (with_reducible rfl)); done))) | (refine Reg.take 7 (v := undef) rfl (by kernel_rfl) (by kernel_rfl) (by kernel_rfl) (fun _ _ _ h => h) (Or.inr ⟨by rfl, rfl⟩) (by assumption) ?_))
  (try simp only [Act.put, List.setIfInBounds_toArray, List.set_cons_zero, List.set_cons_succ])
  refine wpAnyH_done (by kernel_rfl) ?_ _
  go_wp2_with fail
  go_ret
  exact ⟨rfl, (Below.refl _ w).drew⟩

set_option maxRecDepth 100000 in
set_option maxHeartbeats 3200000 in
theorem find_any {A : Option Addr} {n c : Nat} {l : List Sp} {key e e' : Int} {w : World} (h : RowL w A n c l) (hr : Ch e l e') :
    Calls Try.prog 44 #[.slice A n c, .int .i64 key] w fun e w' => (∃ k : Nat, e = .returned (.int .i64 k) ∧ Place l key k) ∧ Below w.heap.size w w' := by
  have HR := Lib.hid h
  have HRI := Lib.hid hr
  have hbig := h.big
  have hlen := Lib.hid h.len
  have L1 : Hid (Below w.heap.size w ((w.alloc (.cells #[.slice A n c] 22)).alloc (.cells #[.int .i64 key] 3))) := ((Below.refl w.heap.size w).alloc (Nat.le_refl _) _).alloc (by simp) _
  have B1 : Hid (OneBox ((w.alloc (.cells #[.slice A n c] 22)).alloc (.cells #[.int .i64 key] 3)) w.heap.size 22 (.slice A n c)) := heap_alloc2_old w _ _
  have B2 : Hid (OneBox ((w.alloc (.cells #[.slice A n c] 22)).alloc (.cells #[.int .i64 key] 3)) (w.heap.size + 1) 3 (.int .i64 key)) := heap_alloc2_new w _ _
  clear h hr
  obtain ⟨p, hp⟩ : ∃ p : Nat → Bool, ∀ i x, l[i]? = some x → p i = decide (key < x.to) := by
    refine ⟨fun i => match l[i]? with | some x => decide (key < x.to) | none => false, fun i x hx => ?_⟩
    simp [hx]
  have HPP := Lib.hid hp
  clear hp
  go_enter Try.func44, Try.ntmps44
  go_upto_region 1 with fail
  generalize (w.alloc (.cells #[.slice A n c] 22)).alloc (.cells #[.int .i64 key] 3) = w1 at *
  have m0 := OneBox.cells B1.out
  have m1 := OneBox.cells B2.out
  have HS := Lib.hid (search_any (n := n) (w := w1) 51 #[.pointer (some ⟨w.heap.size, 0, none⟩), .pointer (some ⟨w.heap.size + 1, 0, none⟩)] (enters_of Try.func51 (by kernel_rfl) rfl) p hbig
    (fun W i hi hW => by
      obtain ⟨x, hx⟩ := HR.out.get hi
      rw [HPP.out i x hx]
      exact find1_any (HR.out.below (L1.out.trans (hW.mono L1.out.size))) hi hx (Cells.below B1.out hW) (Cells.below B2.out hW))
    (fun a b hab hb ha => by
      obtain ⟨x, hx⟩ := HR.out.get (show a < n by omega)
      obtain ⟨y, hy⟩ := HR.out.get hb
      rw [HPP.out a x hx, decide_eq_true_eq] at ha
      rw [HPP.out b y hy, decide_eq_true_eq]
      rcases Nat.eq_or_lt_of_le hab with h1 | h1
      · subst h1; rw [hx] at hy; injection hy with hy; subst hy; exact ha
      · have := ch_order HRI.out h1 hx hy; have := ch_at HRI.out hy; omega))
  go_wp2_with fail
  refine HS.out.mono ?_
  rintro e w2 ⟨⟨k, rfl, hk, hlo, hhi⟩, hb⟩
  have L2 := Lib.hid (L1.out.trans (hb.mono L1.out.size))
  have HPL : Hid (Place l key k) := ⟨by have := hlen.out; omega, fun t x ht hx => by
      have := hlo t ht
      rw [HPP.out t x hx, decide_eq_false_iff_not] at this; omega, fun t x ht hx => by
      have := hhi t ht (by have := (List.getElem?_eq_some_iff.1 hx).1; have := hlen.out; omega)
      rw [HPP.out t x hx, decide_eq_true_eq] at this; exact this⟩
  clear hb hlo hhi HS m0 m1 B1 B2 L1 HPP
  go_wp2_with fail
  go_ret
  exact ⟨⟨k, rfl, HPL.out⟩, L2.out⟩

def findP (l : List Sp) (k : Int) : Sp × Int := bif okS l then (match findS l k with | some s => (s, 0) | none => (zS, 1)) else (zS, 1)
/-- A span and an error, as a call gave them. -/
def Gave1 (w : World) (r : Sp × Int) (en : Ending) (w' : World) : Prop := en = .returned (.tuple #[sv r.1, .int .i64 r.2]) ∧ Below w.heap.size w w'

set_option maxRecDepth 100000 in
set_option maxHeartbeats 3200000 in
theorem Find_any {A : Option Addr} {n c : Nat} {l : List Sp} {w : World} (key : Int) (h : RowL w A n c l) :
    Calls Try.prog 23 #[.slice A n c, .int .i64 key] w (Gave1 w (findP l key)) := by
  have HR := Lib.hid h
  have hbig := h.big
  have hlen := Lib.hid h.len
  have L1 : Hid (Below w.heap.size w (w.alloc (.cells #[.int .i64 0, .int .i64 0, .int .i64 0, .int .i64 0] 32))) := (Below.refl w.heap.size w).alloc (Nat.le_refl _) _
  have N1 : Hid (LBox (w.alloc (.cells #[.int .i64 0, .int .i64 0, .int .i64 0, .int .i64 0] 32)) w.heap.size zS) := Cells.new w _ _
  clear h
  have BAD : Hid (∀ w2, Below w.heap.size w w2 → findP l key = (zS, 1) → Gave1 w (findP l key) (.returned (.tuple #[sv zS, .int .i64 1])) w2) := fun w2 hb he => by rw [he]; exact ⟨rfl, hb⟩
  rcases hok : okS l
  · have HC := fun w (h : RowL w A n c l) => Lib.hid (check_badT h hok)
    have HE : Hid (findP l key = (zS, 1)) := by show _ = _; unfold findP; rw [hok]; rfl
    go_enter Try.func23, Try.ntmps23
    go_upto_region 1 with fail
    generalize w.alloc (.cells #[.int .i64 0, .int .i64 0, .int .i64 0, .int .i64 0] 32) = w1 at *
    go_wp2_with fail
    refine (HC w1 (HR.out.below L1.out)).out.mono ?_
    rintro e w2 ⟨rfl, hb⟩
    have L2 := Lib.hid (L1.out.trans (hb.mono L1.out.size))
    have N2 := Lib.hid (Cells.below N1.out hb)
    clear hb
    obtain ⟨z0, z1, z2, z3⟩ := LBox.cells (x := zS) N2.out
    obtain ⟨f0, f1, f2, f3⟩ := LBox.frozen (x := zS) N2.out
    go_wp2_with fail
    refine bodyPost_ret_by (results_c1 rfl _ _ w.heap.size _ _ _ _ rfl (Cells.set4 N2.out (.int .i64 0) (.int .i64 0) (.int .i64 0) (.int .i64 0)) Try.underlying32 rfl (by kernel_rfl)) rfl ?_
    exact BAD.out _ (below4 L2.out (Nat.le_refl _) _ _ _ _) HE.out
  · have HC := fun w (h : RowL w A n c l) => Lib.hid (check_okT h hok)
    have hch := ok_ch hok
    have hn0 : 0 < n := by
      have := (okS_iff.1 hok).2.2.1
      rcases Nat.eq_zero_or_pos n with h0 | h0
      · exact absurd (List.eq_nil_of_length_eq_zero (by rw [hlen.out, h0])) this
      · exact h0
    have HE := fun w (h : RowL w A n c l) => Lib.hid (end_any h hn0)
    have HF := fun w (h : RowL w A n c l) => Lib.hid (find_any (key := key) h hch)
    have HCH := Lib.hid hch
    clear hch hn0
    generalize endF 0 l = N at *
    rcases e1 : decide (key < 0)
    · rcases e2 : decide (N ≤ key)
      · have HK := Lib.hid (And.intro (of_decide_eq_false e1) (of_decide_eq_false e2))
        go_enter Try.func23, Try.ntmps23
        go_upto_region 1 with fail
        generalize w.alloc (.cells #[.int .i64 0, .int .i64 0, .int .i64 0, .int .i64 0] 32) = w1 at *
        go_wp2_with fail
        refine (HC w1 (HR.out.below L1.out)).out.mono ?_
        rintro e w2 ⟨rfl, hb⟩
        have L2 := Lib.hid (L1.out.trans (hb.mono L1.out.size))
        have N2 := Lib.hid (Cells.below N1.out hb)
        clear hb L1 N1
        go_wp2_with fail
        refine (HE w2 (HR.out.below L2.out)).out.mono ?_
        rintro e w3 ⟨rfl, hb⟩
        have L3 := Lib.hid (L2.out.trans (hb.mono L2.out.size))
        have N3 := Lib.hid (Cells.below N2.out hb)
        clear hb L2 N2
        go_wp2_with fail
        refine (HF w3 (HR.out.below L3.out)).out.mono ?_
        rintro e w4 ⟨⟨k, rfl, hpl⟩, hb⟩
        have L4 := Lib.hid (L3.out.trans (hb.mono L3.out.size))
        have N4 := Lib.hid (Cells.below N3.out hb)
        clear hb L3 N3
        obtain ⟨x, hx, hx1, hx2⟩ := place_in HCH.out hpl (by have := HK.out; omega) (by have := HK.out; omega)
        have HX : Hid (findP l key = (x, 0)) := by
          show _ = _
          unfold findP
          rw [hok, cond_true, place_find HCH.out hpl (by have := HK.out; omega) (by have := HK.out; omega), hx]
        obtain ⟨b, o, hA, c0, c1, c2, c3⟩ := RowS.span_at (HR.out.below L4.out) hx
        subst hA
        have hk0 : (0 : Int) ≤ (k : Int) := by omega
        have hkn : (k : Int) < (n : Int) := by have := (List.getElem?_eq_some_iff.1 hx).1; have := hlen.out; omega
        clear hx hx1 hx2 hpl
        obtain ⟨z0, z1, z2, z3⟩ := LBox.cells (x := zS) N4.out
        obtain ⟨f0, f1, f2, f3⟩ := LBox.frozen (x := zS) N4.out
        go_wp2_with fail
        refine bodyPost_ret_by (results_c1 rfl _ _ w.heap.size _ _ _ _ rfl (Cells.set4 N4.out (.int .i64 x.fr) (.int .i64 x.to) (.int .i64 x.own) (.int .i64 x.ep)) Try.underlying32 rfl (by kernel_rfl)) rfl ?_
        rw [HX.out]
        exact ⟨rfl, below4 L4.out (Nat.le_refl _) _ _ _ _⟩
      · have HX : Hid (findP l key = (zS, 1)) := by
          show _ = _
          unfold findP
          rw [hok, cond_true, findS_out HCH.out (.inr (of_decide_eq_true e2))]
        go_enter Try.func23, Try.ntmps23
        go_upto_region 1 with fail
        generalize w.alloc (.cells #[.int .i64 0, .int .i64 0, .int .i64 0, .int .i64 0] 32) = w1 at *
        go_wp2_with fail
        refine (HC w1 (HR.out.below L1.out)).out.mono ?_
        rintro e w2 ⟨rfl, hb⟩
        have L2 := Lib.hid (L1.out.trans (hb.mono L1.out.size))
        have N2 := Lib.hid (Cells.below N1.out hb)
        clear hb L1 N1
        go_wp2_with fail
        refine (HE w2 (HR.out.below L2.out)).out.mono ?_
        rintro e w3 ⟨rfl, hb⟩
        have L3 := Lib.hid (L2.out.trans (hb.mono L2.out.size))
        have N3 := Lib.hid (Cells.below N2.out hb)
        clear hb L2 N2
        obtain ⟨z0, z1, z2, z3⟩ := LBox.cells (x := zS) N3.out
        obtain ⟨f0, f1, f2, f3⟩ := LBox.frozen (x := zS) N3.out
        go_wp2_with fail
        refine bodyPost_ret_by (results_c1 rfl _ _ w.heap.size _ _ _ _ rfl (Cells.set4 N3.out (.int .i64 0) (.int .i64 0) (.int .i64 0) (.int .i64 0)) Try.underlying32 rfl (by kernel_rfl)) rfl ?_
        exact BAD.out _ (below4 L3.out (Nat.le_refl _) _ _ _ _) HX.out
    · have HX : Hid (findP l key = (zS, 1)) := by
        show _ = _
        unfold findP
        rw [hok, cond_true, findS_out HCH.out (.inl (of_decide_eq_true e1))]
      go_enter Try.func23, Try.ntmps23
      go_upto_region 1 with fail
      generalize w.alloc (.cells #[.int .i64 0, .int .i64 0, .int .i64 0, .int .i64 0] 32) = w1 at *
      go_wp2_with fail
      refine (HC w1 (HR.out.below L1.out)).out.mono ?_
      rintro e w2 ⟨rfl, hb⟩
      have L2 := Lib.hid (L1.out.trans (hb.mono L1.out.size))
      have N2 := Lib.hid (Cells.below N1.out hb)
      clear hb L1 N1
      obtain ⟨z0, z1, z2, z3⟩ := LBox.cells (x := zS) N2.out
      obtain ⟨f0, f1, f2, f3⟩ := LBox.frozen (x := zS) N2.out
      go_wp2_with fail
      refine bodyPost_ret_by (results_c1 rfl _ _ w.heap.size _ _ _ _ rfl (Cells.set4 N2.out (.int .i64 0) (.int .i64 0) (.int .i64 0) (.int .i64 0)) Try.underlying32 rfl (by kernel_rfl)) rfl ?_
      exact BAD.out _ (below4 L2.out (Nat.le_refl _) _ _ _ _) HX.out
end Spa
end Go.Proofs.Ytjoemlifpbjdbaa
