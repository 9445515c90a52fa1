/-
  WALKS: Cut.
-/
import Derived.Test.YtjoemlifpbjdbaaSpaTake
import Derived.Test.YtjoemlifpbjdbaaSpaSort
namespace Go.Proofs.Ytjoemlifpbjdbaa
open Go.RowKit Mem
namespace Spa

theorem runC_nil (s : Sp) (r : List Sp) : runC (s :: r) [] = s :: runC r [] := rfl
theorem runC_keep {s : Sp} {r : List Sp} {p : Int} {ps : List Int} (h : decide (p < s.to) = false) : runC (s :: r) (p :: ps) = s :: runC r (p :: ps) := by
  show inC (runC r) s (p :: ps) = _
  unfold inC; rw [h]; rfl
theorem runC_pass {s : Sp} {r : List Sp} {p : Int} {ps : List Int} (h : decide (p < s.to) = true) (h2 : decide (s.fr < p) = false) : runC (s :: r) (p :: ps) = runC (s :: r) ps := by
  show inC (runC r) s (p :: ps) = _
  unfold inC; rw [h, h2]; rfl
theorem runC_cut {s : Sp} {r : List Sp} {p : Int} {ps : List Int} (h : decide (p < s.to) = true) (h2 : decide (s.fr < p) = true) : runC (s :: r) (p :: ps) = longer s p :: runC (putFr s p :: r) ps := by
  show inC (runC r) s (p :: ps) = _
  unfold inC; rw [h, h2]; rfl
theorem row_first {w : World} {A : Option Addr} {n c : Nat} {ps : List Int} (h : Row ci w A n c ps) (h0 : 0 < n) : ∃ p r, ps = p :: r ∧ Row ci w (Mem.tailA A c 1) (n - 1) (c - 1) r ∧ ∃ b o, A = some ⟨b, o, none⟩ ∧ b < w.heap.size ∧ w.cell? ⟨b, o, none⟩ = some (.int .i64 p) := by
  have hl := h.len
  rcases ps with _ | ⟨p, r⟩
  · simp at hl; omega
  · obtain ⟨b, o, hA, hb, hc⟩ := h.at_ h0
    have := hc 0 p rfl
    rw [Nat.add_zero] at this
    exact ⟨p, r, rfl, h.tail (k := 1) (by omega), b, o, hA, hb, this⟩
def lenV : Value → Nat | .slice _ n _ => n | _ => 0

set_option maxRecDepth 100000 in
set_option maxHeartbeats 1600000 in
theorem cut1_any {A : Option Addr} {n c g : Nat} {l : List Sp} (p : Int) {w : World} (h : RowL w A n c l) (h0 : 0 < n) (hg : OneBox w g 22 (.slice A n c)) :
    Calls Try.prog 26 #[.int .i64 p, .pointer (some ⟨g, 0, none⟩)] w fun e w' => e = .returned (.bool (decide (p ≤ 0) || decide (endF 0 l ≤ p))) ∧ Below w.heap.size w w' := by
  have HE := Lib.hid (end_any h h0)
  have m0 := OneBox.cells hg
  clear h hg
  rcases e1 : decide (p ≤ 0)
  · go_enter Try.func26, Try.ntmps26
    go_wp2_with fail
    refine HE.out.mono ?_
    rintro e w2 ⟨rfl, hb⟩
    have L2 := Lib.hid hb
    clear hb
    go_wp2_with fail
    go_ret
    exact ⟨rfl, L2.out⟩
  · go_enter Try.func26, Try.ntmps26
    go_wp2_with fail
    go_ret
    exact ⟨rfl, Below.refl _ _⟩

set_option maxRecDepth 100000 in
set_option maxHeartbeats 12800000 in
theorem cut_any {A B : Option Addr} {n c m d : Nat} {l : List Sp} {ps : List Int} {w : World} (h : RowL w A n c l) (h2 : Row ci w B m d ps) (hn : n ≤ 1000) (hm : m ≤ 1000) :
    Calls Try.prog 9 #[.slice A n c, .slice B m d] w (GaveS w (cutP l ps)) := by
  have HR := Lib.hid h
  have HS := Lib.hid h2
  have hbig := h.big
  have hlen := Lib.hid h.len
  have L1 : Hid (Below w.heap.size w (w.alloc (.cells #[.slice A n c] 22))) := (Below.refl w.heap.size w).alloc (Nat.le_refl _) _
  have Q1 : Hid (OneBox (w.alloc (.cells #[.slice A n c] 22)) w.heap.size 22 (.slice A n c)) := Cells.new w _ _
  clear h h2
  unfold cutP
  rcases hok : okS l
  · have HC := fun w (h : RowL w A n c l) => Lib.hid (check_badT h hok)
    go_enter Try.func9, Try.ntmps9
    go_upto_region 1 with fail
    generalize w.alloc (.cells #[.slice A n c] 22) = w1 at *
    have m0 := OneBox.cells Q1.out
    go_wp2_with fail
    refine (HC w1 (HR.out.below L1.out)).out.mono ?_
    rintro e w2 ⟨rfl, hb⟩
    have L2 := Lib.hid (L1.out.trans (hb.mono L1.out.size))
    clear hb
    go_wp2_with fail
    go_ret2
    exact GaveS.none_ L2.out
  · have HC := fun w (h : RowL w A n c l) => Lib.hid (check_okT h hok)
    have HCH := Lib.hid (ok_ch hok)
    have hn0 : 0 < n := by
      have := (okS_iff.1 hok).2.2.1
      rcases Nat.eq_zero_or_pos n with h0 | h0
      · exact absurd (List.eq_nil_of_length_eq_zero (by rw [hlen.out, h0])) this
      · exact h0
    have HCF := fun w (g : Nat) (h : RowL w A n c l) (h2 : Row ci w B m d ps) (hg : OneBox w g 22 (.slice A n c)) => Lib.hid (containsI_any h2 26 #[.pointer (some ⟨g, 0, none⟩)] (enters_of Try.func26 (by kernel_rfl) rfl) (fun p => decide (p ≤ 0) || decide (endF 0 l ≤ p)) (fun W x hW => cut1_any x (h.below hW) hn0 (Cells.below hg hW)))
    have HAT : Hid (ps.any (fun p => decide (p ≤ 0) || decide (endF 0 l ≤ p)) = atB l ps) := rfl
    rw [HAT.out] at HCF
    clear hok HAT
    rcases hat : atB l ps
    · rw [hat] at HCF
      have HCL := fun w (h : Row ci w B m d ps) => Lib.hid (cloneI_any h (by omega))
      go_enter Try.func9, Try.ntmps9
      go_upto_region 1 with fail
      generalize w.alloc (.cells #[.slice A n c] 22) = w1 at *
      have m0 := OneBox.cells Q1.out
      go_wp2_with fail
      refine (HC w1 (HR.out.below L1.out)).out.mono ?_
      rintro e w2 ⟨rfl, hb⟩
      have L2 := Lib.hid (L1.out.trans (hb.mono L1.out.size))
      have Q2 := Lib.hid (Cells.below Q1.out hb)
      clear hb L1 Q1 m0 HC
      go_wp2_with fail
      refine (HCF w2 w.heap.size (HR.out.below L2.out) (HS.out.below L2.out) Q2.out).out.mono ?_
      rintro e w3 ⟨rfl, hb⟩
      have L3 := Lib.hid (L2.out.trans (hb.mono L2.out.size))
      have Q3 := Lib.hid (Cells.below Q2.out hb)
      clear hb L2 Q2 HCF
      go_wp2_with fail
      refine (HCL w3 (HS.out.below L3.out)).out.mono ?_
      rintro e w4 ⟨⟨PA, pc, rfl, hO⟩, hb⟩
      have L4 := Lib.hid (L3.out.trans (hb.mono L3.out.size))
      have Q4 := Lib.hid (Cells.below Q3.out hb)
      have O4 := Lib.hid hO
      have S4 := Lib.hid hb.size
      have Q3L := Lib.hid (Cells.lt Q3.out)
      clear hb hO HCL
      have HSO := Lib.hid (sort_any O4.out S4.out (by omega))
      go_wp2_with fail
      refine HSO.out.mono ?_
      rintro e w5 ⟨rfl, hO, hb⟩
      have L5 := Lib.hid (L4.out.trans (hb.mono L3.out.size))
      have Q5 := Lib.hid (Cells.low Q4.out Q3L.out hb)
      obtain ⟨PA', pc', hs, hrow⟩ := Owns.row hO (by omega)
      injection hs with hs1 _ hs3
      subst hs1 hs3
      have P5 := Lib.hid hrow
      clear hb hO HSO O4 hrow L4 Q4 Q3L Q3 S4
      have m0 := OneBox.cells Q5.out
      have HRC : Hid (runC l (sorted ps) = cutsS l ps) := by
        show _ = _
        rw [runC_eq HCH.out (sorted_pair ps)]
        exact cuts_perm (sorted_perm ps) l
      go_wp2_with fail
      go_loopw [6, 7, 9, 10, 23] (fun s t _ _ i wr => ∃ (k : Nat) (P : Option Addr) (pn q : Nat) (X : Option Addr) (a f : Nat), i = .int .i64 k ∧ s = .slice P pn q ∧ t = .slice X a f ∧ k ≤ n ∧ a + pn ≤ k + m ∧ Hid (Below w5.heap.size w5 wr ∧ ∃ qs out, Row ci w5 P pn q qs ∧ OwnsL w5.heap.size wr (.slice X a f) a out ∧ out ++ runC (l.drop k) qs = runC l (sorted ps))) (fun _ _ _ _ i _ => n - (intOf i).toNat)
      case atStart => exact ⟨0, PA, m, pc, none, 0, 0, rfl, rfl, rfl, by omega, by omega, Below.refl _ _, sorted ps, [], P5.out, OwnsL.nil _ _, rfl⟩
      case round =>
        obtain ⟨k, P, pn, q, X, a, f, rfl, rfl, rfl, hk, hap, hH⟩ := hrel
        by_cases hlt : k < n
        · obtain ⟨x, hx⟩ := HR.out.get hlt
          obtain ⟨b, o, hA, d0, d1, d2, d3⟩ := RowS.span_at (HR.out.below (L5.out.trans (hH.out.1.mono L5.out.size))) hx
          subst hA
          have hk0 : (0 : Int) ≤ (k : Int) := by omega
          have hkn : (k : Int) < (n : Int) := by omega
          have HD : Hid (l.drop k = x :: l.drop (k + 1)) := by
            show _ = _
            obtain ⟨h, rfl⟩ := List.getElem?_eq_some_iff.1 hx
            exact List.drop_eq_getElem_cons h
          clear hx
          have A1 : Hid (Below wr.heap.size wr (wr.alloc (.cells #[.int .i64 x.fr, .int .i64 x.to, .int .i64 x.own, .int .i64 x.ep] 32))) := (Below.refl _ wr).alloc (Nat.le_refl _) _
          have B1 : Hid (LBox (wr.alloc (.cells #[.int .i64 x.fr, .int .i64 x.to, .int .i64 x.own, .int .i64 x.ep] 32)) wr.heap.size x) := Cells.new _ _ _
          go_upto_region 11 with fail
          have START : Hid (Below w5.heap.size w5 (wr.alloc (.cells #[.int .i64 x.fr, .int .i64 x.to, .int .i64 x.own, .int .i64 x.ep] 32)) ∧ ∃ qs out y, Row ci w5 P pn q qs ∧ OwnsL w5.heap.size (wr.alloc (.cells #[.int .i64 x.fr, .int .i64 x.to, .int .i64 x.own, .int .i64 x.ep] 32)) (.slice X a f) a out ∧ LBox (wr.alloc (.cells #[.int .i64 x.fr, .int .i64 x.to, .int .i64 x.own, .int .i64 x.ep] 32)) wr.heap.size y ∧ (Value.slice X a f).ownBlock ≠ some wr.heap.size ∧ out ++ runC (y :: l.drop (k + 1)) qs = runC l (sorted ps)) := by
            obtain ⟨h1, qs, out, h2, h3, h4⟩ := hH.out
            exact ⟨h1.trans (A1.out.mono h1.size), qs, out, x, h2, OwnsL.below h3 A1.out, B1.out, OwnsL.off h3 (Nat.le_refl _), by rw [← HD.out]; exact h4⟩
          have HGE : Hid (w5.heap.size ≤ wr.heap.size) := hH.out.1.size
          have HLT : Hid (wr.heap.size < (wr.alloc (.cells #[.int .i64 x.fr, .int .i64 x.to, .int .i64 x.own, .int .i64 x.ep] 32)).heap.size) := Cells.lt B1.out
          clear d0 d1 d2 d3 A1 B1 hH HD
          generalize wr.alloc (.cells #[.int .i64 x.fr, .int .i64 x.to, .int .i64 x.own, .int .i64 x.ep] 32) = w6 at *
          obtain ⟨sb, hsb⟩ : ∃ sb, wr.heap.size = sb := ⟨_, rfl⟩
          rw [hsb] at START HGE HLT
          simp only [hsb]
          clear hsb
          go_loopw [6, 7, 10] (fun s t _ wi => ∃ (P : Option Addr) (pn q : Nat) (X : Option Addr) (a f : Nat), s = .slice P pn q ∧ t = .slice X a f ∧ a + pn ≤ k + m ∧ Hid (sb < wi.heap.size ∧ Below w5.heap.size w5 wi ∧ ∃ qs out y, Row ci w5 P pn q qs ∧ OwnsL w5.heap.size wi (.slice X a f) a out ∧ LBox wi sb y ∧ (Value.slice X a f).ownBlock ≠ some sb ∧ out ++ runC (y :: l.drop (k + 1)) qs = runC l (sorted ps))) (fun s _ _ _ => lenV s)
          case atStart => exact ⟨P, pn, q, X, a, f, rfl, rfl, hap, HLT.out, START.out⟩
          case round =>
            obtain ⟨P, pn, q, X, a, f, rfl, rfl, hap, hH⟩ := hrel
            obtain ⟨hlt', hb, qs, out, y, hP, hX, hY, hoff, heq⟩ := hH.out
            have HL2 := Lib.hid hlt'
            have HB := Lib.hid hb
            have HP := Lib.hid hP
            have HX := Lib.hid hX
            have HY := Lib.hid hY
            have HOFF := Lib.hid hoff
            have HEQ := Lib.hid heq
            have han : a ≤ 100000 := by omega
            clear hH hlt' hb hP hX hY hoff heq
            obtain ⟨n0, n1, n2, n3⟩ := LBox.cells HY.out
            rcases Nat.eq_zero_or_pos pn with hp0 | hp0
            · subst hp0
              have hq0 : qs = [] := List.eq_nil_of_length_eq_zero HP.out.len
              subst hq0
              go_upto_region 11 with fail
              refine wp_region_held_drew (S := fun W => W.cell? ⟨sb, 1, none⟩ = some (.int .i64 y.to)) (by kernel_rfl) n1 (fun hHeld => ?_)
              (first | (refine Reg.take 0 (v := ?_) rfl (by kernel_rfl) (by kernel_rfl) (by kernel_rfl) (fun _ _ _ h => h) (Or.inl ⟨by rfl, ?_⟩) (by assumption) ?_; rotate_left; (focus ((intro W hSW); (try dsimp only at hSW); (try go_split_ands); go_simp; (try (with_reducible rfl)); done))) | (refine Reg.take 0 (v := undef) rfl (by kernel_rfl) (by kernel_rfl) (by kernel_rfl) (fun _ _ _ h => h) (Or.inr ⟨by rfl, rfl⟩) (by assumption) ?_))
              (try simp only [Act.put, List.setIfInBounds_toArray, List.set_cons_zero, List.set_cons_succ])
              (first | (refine Reg.take 1 (v := ?_) rfl (by kernel_rfl) (by kernel_rfl) (by kernel_rfl) (fun _ _ _ h => h) (Or.inl ⟨by rfl, ?_⟩) (by assumption) ?_; rotate_left; (focus ((intro W hSW); (try dsimp only at hSW); (try go_split_ands); go_simp; (try (with_reducible rfl)); done))) | (refine Reg.take 1 (v := undef) rfl (by kernel_rfl) (by kernel_rfl) (by kernel_rfl) (fun _ _ _ h => h) (Or.inr ⟨by rfl, rfl⟩) (by assumption) ?_))
              (try simp only [Act.put, List.setIfInBounds_toArray, List.set_cons_zero, List.set_cons_succ])
              (first | (refine Reg.take 2 (v := ?_) rfl (by kernel_rfl) (by kernel_rfl) (by kernel_rfl) (fun _ _ _ h => h) (Or.inl ⟨by rfl, ?_⟩) (by assumption) ?_; rotate_left; (focus ((intro W hSW); (try dsimp only at hSW); (try go_split_ands); go_simp; (try (with_reducible rfl)); done))) | (refine Reg.take 2 (v := undef) rfl (by kernel_rfl) (by kernel_rfl) (by kernel_rfl) (fun _ _ _ h => h) (Or.inr ⟨by rfl, rfl⟩) (by assumption) ?_))
              (try simp only [Act.put, List.setIfInBounds_toArray, List.set_cons_zero, List.set_cons_succ])
              (first | (refine Reg.take 3 (v := ?_) rfl (by kernel_rfl) (by kernel_rfl) (by kernel_rfl) (fun _ _ _ h => h) (Or.inl ⟨by rfl, ?_⟩) (by assumption) ?_; rotate_left; (focus ((intro W hSW); (try dsimp only at hSW); (try go_split_ands); go_simp; (try (with_reducible rfl)); done))) | (refine Reg.take 3 (v := undef) rfl (by kernel_rfl) (by kernel_rfl) (by kernel_rfl) (fun _ _ _ h => h) (Or.inr ⟨by rfl, rfl⟩) (by assumption) ?_))
              (try simp only [Act.put, List.setIfInBounds_toArray, List.set_cons_zero, List.set_cons_succ])
              (first | (refine Reg.take 4 (v := ?_) rfl (by kernel_rfl) (by kernel_rfl) (by kernel_rfl) (fun _ _ _ h => h) (Or.inl ⟨by rfl, ?_⟩) (by assumption) ?_; rotate_left; (focus ((intro W hSW); (try dsimp only at hSW); (try go_split_ands); go_simp; (try (with_reducible rfl)); done))) | (refine Reg.take 4 (v := undef) rfl (by kernel_rfl) (by kernel_rfl) (by kernel_rfl) (fun _ _ _ h => h) (Or.inr ⟨by rfl, rfl⟩) (by assumption) ?_))
              (try simp only [Act.put, List.setIfInBounds_toArray, List.set_cons_zero, List.set_cons_succ])
              (first | (refine Reg.take 5 (v := ?_) rfl (by kernel_rfl) (by kernel_rfl) (by kernel_rfl) (fun _ _ _ h => h) (Or.inl ⟨by rfl, ?_⟩) (by assumption) ?_; rotate_left; (focus ((intro W hSW); (try dsimp only at hSW); (try go_split_ands); go_simp; (try (with_reducible rfl)); done))) | (refine Reg.take 5 (v := undef) rfl (by kernel_rfl) (by kernel_rfl) (by kernel_rfl) (fun _ _ _ h => h) (Or.inr ⟨by rfl, rfl⟩) (by assumption) ?_))
              (try simp only [Act.put, List.setIfInBounds_toArray, List.set_cons_zero, List.set_cons_succ])
              (first | (refine Reg.take 6 (v := ?_) rfl (by kernel_rfl) (by kernel_rfl) (by kernel_rfl) (fun _ _ _ h => h) (Or.inl ⟨by rfl, ?_⟩) (by assumption) ?_; rotate_left; (focus ((intro W hSW); (try dsimp only at hSW); (try go_split_ands); go_simp; (try (with_reducible rfl)); done))) | (refine Reg.take 6 (v := undef) rfl (by kernel_rfl) (by kernel_rfl) (by kernel_rfl) (fun _ _ _ h => h) (Or.inr ⟨by rfl, rfl⟩) (by assumption) ?_))
              (try simp only [Act.put, List.setIfInBounds_toArray, List.set_cons_zero, List.set_cons_succ])
              (first | (refine Reg.take 7 (v := ?_) rfl (by kernel_rfl) (by kernel_rfl) (by kernel_rfl) (fun _ _ _ h => h) (Or.inl ⟨by rfl, ?_⟩) (by assumption) ?_; rotate_left; (focus ((intro W hSW); (try dsimp only at hSW); (try go_split_ands); go_simp; (try (with_reducible rfl)); done))) | (refine Reg.take 7 (v := undef) rfl (by kernel_rfl) (by kernel_rfl) (by kernel_rfl) (fun _ _ _ h => h) (Or.inr ⟨by rfl, rfl⟩) (by assumption) ?_))
              (try simp only [Act.put, List.setIfInBounds_toArray, List.set_cons_zero, List.set_cons_succ])
              (first | (refine Reg.take 8 (v := ?_) rfl (by kernel_rfl) (by kernel_rfl) (by kernel_rfl) (fun _ _ _ h => h) (Or.inl ⟨by rfl, ?_⟩) (by assumption) ?_; rotate_left; (focus ((intro W hSW); (try dsimp only at hSW); (try go_split_ands); go_simp; (try (with_reducible rfl)); done))) | (refine Reg.take 8 (v := undef) rfl (by kernel_rfl) (by kernel_rfl) (by kernel_rfl) (fun _ _ _ h => h) (Or.inr ⟨by rfl, rfl⟩) (by assumption) ?_))
              (try simp only [Act.put, List.setIfInBounds_toArray, List.set_cons_zero, List.set_cons_succ])
              (first | (refine Reg.take 9 (v := ?_) rfl (by kernel_rfl) (by kernel_rfl) (by kernel_rfl) (fun _ _ _ h => h) (Or.inl ⟨by rfl, ?_⟩) (by assumption) ?_; rotate_left; (focus ((intro W hSW); (try dsimp only at hSW); (try go_split_ands); go_simp; (try (with_reducible rfl)); done))) | (refine Reg.take 9 (v := undef) rfl (by kernel_rfl) (by kernel_rfl) (by kernel_rfl) (fun _ _ _ h => h) (Or.inr ⟨by rfl, rfl⟩) (by assumption) ?_))
              (try simp only [Act.put, List.setIfInBounds_toArray, List.set_cons_zero, List.set_cons_succ])
              (first | (refine Reg.take 10 (v := ?_) rfl (by kernel_rfl) (by kernel_rfl) (by kernel_rfl) (fun _ _ _ h => h) (Or.inl ⟨by rfl, ?_⟩) (by assumption) ?_; rotate_left; (focus ((intro W hSW); (try dsimp only at hSW); (try go_split_ands); go_simp; (try (with_reducible rfl)); done))) | (refine Reg.take 10 (v := undef) rfl (by kernel_rfl) (by kernel_rfl) (by kernel_rfl) (fun _ _ _ h => h) (Or.inr ⟨by rfl, rfl⟩) (by assumption) ?_))
              (try simp only [Act.put, List.setIfInBounds_toArray, List.set_cons_zero, List.set_cons_succ])
              refine wpAnyH_done (by kernel_rfl) ?_ _
              have HB7 : Hid (Below w5.heap.size w5 wr.drew) := HB.out.drew
              have HX7 := Lib.hid (OwnsL.drew HX.out)
              have HY7 : Hid (LBox wr.drew sb y) := HY.out
              clear n0 n1 n2 n3 hHeld HB HX HY
              generalize wr.drew = w7 at *
              obtain ⟨n0, n1, n2, n3⟩ := LBox.cells HY7.out
              have B8 : Hid (Below w5.heap.size w5 (w7.alloc (.cells #[.int .i64 y.fr, .int .i64 y.to, .int .i64 y.own, .int .i64 y.ep] 32))) := HB7.out.alloc HB7.out.size _
              have Y8 : Hid (LBox (w7.alloc (.cells #[.int .i64 y.fr, .int .i64 y.to, .int .i64 y.own, .int .i64 y.ep] 32)) w7.heap.size y) := Cells.new _ _ _
              have X8 := Lib.hid (OwnsL.alloc HX7.out (.cells #[.int .i64 y.fr, .int .i64 y.to, .int .i64 y.own, .int .i64 y.ep] 32))
              go_wp2_with (at_builtin
                           refine wpList_append_l rfl (.tmp 59) (.tmp 61) rfl rfl w5.heap.size _ a _ rfl X8.out _ 1 1 [y] rfl (RowS.one Y8.out) (by omega) B8.out.size ?_
                           intro A' c' w' h1 h2 h3
                           have B9 := Lib.hid (B8.out.trans (below_row X8.out h2 B8.out.size))
                           have X9 := Lib.hid h1
                           clear h1 h2 h3)
              go_roundw
              case rel => exact ⟨k + 1, _, 0, q, A', a + 1, c', by go_num, rfl, rfl, by omega, by omega, B9.out, _, out ++ [y], HP.out, X9.out, by rw [List.append_assoc]; exact HEQ.out⟩
              case measure => simp [intOf]; omega
            · obtain ⟨p, r, hqs, hPt, b2, o2, hA2, hbl, hc⟩ := row_first HP.out hp0
              subst hqs hA2
              have HPT := Lib.hid hPt
              have HC := Lib.hid hc
              have HBL := Lib.hid hbl
              have c0 : wr.cell? ⟨b2, o2, none⟩ = some (.int .i64 p) := by rw [World.cell?_of_block (w := w5) (HB.out.block b2 hbl)]; exact hc
              have hpn : (0 : Int) < (pn : Int) := by omega
              have hpd : decide ((0 : Int) < (pn : Int)) = true := decide_eq_true hpn
              clear hPt hc hbl
              rcases f1 : decide (p < y.to)
              · go_upto_region 11 with fail
                refine wp_region_held_drew (S := fun W => W.cell? ⟨b2, o2, none⟩ = some (.int .i64 p) ∧ W.cell? ⟨sb, 1, none⟩ = some (.int .i64 y.to)) (by kernel_rfl) ⟨c0, n1⟩ (fun hHeld => ?_)
                (first | (refine Reg.take 0 (v := ?_) rfl (by kernel_rfl) (by kernel_rfl) (by kernel_rfl) (fun _ _ _ h => h) (Or.inl ⟨by rfl, ?_⟩) (by assumption) ?_; rotate_left; (focus ((intro W hSW); (try dsimp only at hSW); (try go_split_ands); go_simp; (try (with_reducible rfl)); done))) | (refine Reg.take 0 (v := undef) rfl (by kernel_rfl) (by kernel_rfl) (by kernel_rfl) (fun _ _ _ h => h) (Or.inr ⟨by rfl, rfl⟩) (by assumption) ?_))
                (try simp only [Act.put, List.setIfInBounds_toArray, List.set_cons_zero, List.set_cons_succ])
                (first | (refine Reg.take 1 (v := ?_) rfl (by kernel_rfl) (by kernel_rfl) (by kernel_rfl) (fun _ _ _ h => h) (Or.inl ⟨by rfl, ?_⟩) (by assumption) ?_; rotate_left; (focus ((intro W hSW); (try dsimp only at hSW); (try go_split_ands); go_simp; (try (with_reducible rfl)); done))) | (refine Reg.take 1 (v := undef) rfl (by kernel_rfl) (by kernel_rfl) (by kernel_rfl) (fun _ _ _ h => h) (Or.inr ⟨by rfl, rfl⟩) (by assumption) ?_))
                (try simp only [Act.put, List.setIfInBounds_toArray, List.set_cons_zero, List.set_cons_succ])
                (first | (refine Reg.take 2 (v := ?_) rfl (by kernel_rfl) (by kernel_rfl) (by kernel_rfl) (fun _ _ _ h => h) (Or.inl ⟨by rfl, ?_⟩) (by assumption) ?_; rotate_left; (focus ((intro W hSW); (try dsimp only at hSW); (try go_split_ands); go_simp; (try (with_reducible rfl)); done))) | (refine Reg.take 2 (v := undef) rfl (by kernel_rfl) (by kernel_rfl) (by kernel_rfl) (fun _ _ _ h => h) (Or.inr ⟨by rfl, rfl⟩) (by assumption) ?_))
                (try simp only [Act.put, List.setIfInBounds_toArray, List.set_cons_zero, List.set_cons_succ])
                (first | (refine Reg.take 3 (v := ?_) rfl (by kernel_rfl) (by kernel_rfl) (by kernel_rfl) (fun _ _ _ h => h) (Or.inl ⟨by rfl, ?_⟩) (by assumption) ?_; rotate_left; (focus ((intro W hSW); (try dsimp only at hSW); (try go_split_ands); go_simp; (try (with_reducible rfl)); done))) | (refine Reg.take 3 (v := undef) rfl (by kernel_rfl) (by kernel_rfl) (by kernel_rfl) (fun _ _ _ h => h) (Or.inr ⟨by rfl, rfl⟩) (by assumption) ?_))
                (try simp only [Act.put, List.setIfInBounds_toArray, List.set_cons_zero, List.set_cons_succ])
                (first | (refine Reg.take 4 (v := ?_) rfl (by kernel_rfl) (by kernel_rfl) (by kernel_rfl) (fun _ _ _ h => h) (Or.inl ⟨by rfl, ?_⟩) (by assumption) ?_; rotate_left; (focus ((intro W hSW); (try dsimp only at hSW); (try go_split_ands); go_simp; (try (with_reducible rfl)); done))) | (refine Reg.take 4 (v := undef) rfl (by kernel_rfl) (by kernel_rfl) (by kernel_rfl) (fun _ _ _ h => h) (Or.inr ⟨by rfl, rfl⟩) (by assumption) ?_))
                (try simp only [Act.put, List.setIfInBounds_toArray, List.set_cons_zero, List.set_cons_succ])
                (first | (refine Reg.take 5 (v := ?_) rfl (by kernel_rfl) (by kernel_rfl) (by kernel_rfl) (fun _ _ _ h => h) (Or.inl ⟨by rfl, ?_⟩) (by assumption) ?_; rotate_left; (focus ((intro W hSW); (try dsimp only at hSW); (try go_split_ands); go_simp; (try (with_reducible rfl)); done))) | (refine Reg.take 5 (v := undef) rfl (by kernel_rfl) (by kernel_rfl) (by kernel_rfl) (fun _ _ _ h => h) (Or.inr ⟨by rfl, rfl⟩) (by assumption) ?_))
                (try simp only [Act.put, List.setIfInBounds_toArray, List.set_cons_zero, List.set_cons_succ])
                (first | (refine Reg.take 6 (v := ?_) rfl (by kernel_rfl) (by kernel_rfl) (by kernel_rfl) (fun _ _ _ h => h) (Or.inl ⟨by rfl, ?_⟩) (by assumption) ?_; rotate_left; (focus ((intro W hSW); (try dsimp only at hSW); (try go_split_ands); go_simp; (try (with_reducible rfl)); done))) | (refine Reg.take 6 (v := undef) rfl (by kernel_rfl) (by kernel_rfl) (by kernel_rfl) (fun _ _ _ h => h) (Or.inr ⟨by rfl, rfl⟩) (by assumption) ?_))
                (try simp only [Act.put, List.setIfInBounds_toArray, List.set_cons_zero, List.set_cons_succ])
                (first | (refine Reg.take 7 (v := ?_) rfl (by kernel_rfl) (by kernel_rfl) (by kernel_rfl) (fun _ _ _ h => h) (Or.inl ⟨by rfl, ?_⟩) (by assumption) ?_; rotate_left; (focus ((intro W hSW); (try dsimp only at hSW); (try go_split_ands); go_simp; (try (with_reducible rfl)); done))) | (refine Reg.take 7 (v := undef) rfl (by kernel_rfl) (by kernel_rfl) (by kernel_rfl) (fun _ _ _ h => h) (Or.inr ⟨by rfl, rfl⟩) (by assumption) ?_))
                (try simp only [Act.put, List.setIfInBounds_toArray, List.set_cons_zero, List.set_cons_succ])
                (first | (refine Reg.take 8 (v := ?_) rfl (by kernel_rfl) (by kernel_rfl) (by kernel_rfl) (fun _ _ _ h => h) (Or.inl ⟨by rfl, ?_⟩) (by assumption) ?_; rotate_left; (focus ((intro W hSW); (try dsimp only at hSW); (try go_split_ands); go_simp; (try (with_reducible rfl)); done))) | (refine Reg.take 8 (v := undef) rfl (by kernel_rfl) (by kernel_rfl) (by kernel_rfl) (fun _ _ _ h => h) (Or.inr ⟨by rfl, rfl⟩) (by assumption) ?_))
                (try simp only [Act.put, List.setIfInBounds_toArray, List.set_cons_zero, List.set_cons_succ])
                (first | (refine Reg.take 9 (v := ?_) rfl (by kernel_rfl) (by kernel_rfl) (by kernel_rfl) (fun _ _ _ h => h) (Or.inl ⟨by rfl, ?_⟩) (by assumption) ?_; rotate_left; (focus ((intro W hSW); (try dsimp only at hSW); (try go_split_ands); go_simp; (try (with_reducible rfl)); done))) | (refine Reg.take 9 (v := undef) rfl (by kernel_rfl) (by kernel_rfl) (by kernel_rfl) (fun _ _ _ h => h) (Or.inr ⟨by rfl, rfl⟩) (by assumption) ?_))
                (try simp only [Act.put, List.setIfInBounds_toArray, List.set_cons_zero, List.set_cons_succ])
                (first | (refine Reg.take 10 (v := ?_) rfl (by kernel_rfl) (by kernel_rfl) (by kernel_rfl) (fun _ _ _ h => h) (Or.inl ⟨by rfl, ?_⟩) (by assumption) ?_; rotate_left; (focus ((intro W hSW); (try dsimp only at hSW); (try go_split_ands); go_simp; (try (with_reducible rfl)); done))) | (refine Reg.take 10 (v := undef) rfl (by kernel_rfl) (by kernel_rfl) (by kernel_rfl) (fun _ _ _ h => h) (Or.inr ⟨by rfl, rfl⟩) (by assumption) ?_))
                (try simp only [Act.put, List.setIfInBounds_toArray, List.set_cons_zero, List.set_cons_succ])
                refine wpAnyH_done (by kernel_rfl) ?_ _
                have HB7 : Hid (Below w5.heap.size w5 wr.drew) := HB.out.drew
                have HX7 := Lib.hid (OwnsL.drew HX.out)
                have HY7 : Hid (LBox wr.drew sb y) := HY.out
                clear n0 n1 n2 n3 hHeld HB HX HY
                generalize wr.drew = w7 at *
                obtain ⟨n0, n1, n2, n3⟩ := LBox.cells HY7.out
                have B8 : Hid (Below w5.heap.size w5 (w7.alloc (.cells #[.int .i64 y.fr, .int .i64 y.to, .int .i64 y.own, .int .i64 y.ep] 32))) := HB7.out.alloc HB7.out.size _
                have Y8 : Hid (LBox (w7.alloc (.cells #[.int .i64 y.fr, .int .i64 y.to, .int .i64 y.own, .int .i64 y.ep] 32)) w7.heap.size y) := Cells.new _ _ _
                have X8 := Lib.hid (OwnsL.alloc HX7.out (.cells #[.int .i64 y.fr, .int .i64 y.to, .int .i64 y.own, .int .i64 y.ep] 32))
                go_wp2_with (at_builtin
                             refine wpList_append_l rfl (.tmp 59) (.tmp 61) rfl rfl w5.heap.size _ a _ rfl X8.out _ 1 1 [y] rfl (RowS.one Y8.out) (by omega) B8.out.size ?_
                             intro A' c' w' h1 h2 h3
                             have B9 := Lib.hid (B8.out.trans (below_row X8.out h2 B8.out.size))
                             have X9 := Lib.hid h1
                             clear h1 h2 h3)
                go_roundw
                case rel => exact ⟨k + 1, _, pn, q, A', a + 1, c', by go_num, rfl, rfl, by omega, by omega, B9.out, _, out ++ [y], HP.out, X9.out, by rw [List.append_assoc]; exact (by rw [runC_keep f1] at HEQ; exact HEQ.out)⟩
                case measure => simp [intOf]; omega
              · go_upto_region 11 with fail
                refine wp_region_held_drew (S := fun W => W.cell? ⟨b2, o2, none⟩ = some (.int .i64 p) ∧ W.cell? ⟨sb, 1, none⟩ = some (.int .i64 y.to)) (by kernel_rfl) ⟨c0, n1⟩ (fun hHeld => ?_)
                (first | (refine Reg.take 0 (v := ?_) rfl (by kernel_rfl) (by kernel_rfl) (by kernel_rfl) (fun _ _ _ h => h) (Or.inl ⟨by rfl, ?_⟩) (by assumption) ?_; rotate_left; (focus ((intro W hSW); (try dsimp only at hSW); (try go_split_ands); go_simp; (try (with_reducible rfl)); done))) | (refine Reg.take 0 (v := undef) rfl (by kernel_rfl) (by kernel_rfl) (by kernel_rfl) (fun _ _ _ h => h) (Or.inr ⟨by rfl, rfl⟩) (by assumption) ?_))
                (try simp only [Act.put, List.setIfInBounds_toArray, List.set_cons_zero, List.set_cons_succ])
                (first | (refine Reg.take 1 (v := ?_) rfl (by kernel_rfl) (by kernel_rfl) (by kernel_rfl) (fun _ _ _ h => h) (Or.inl ⟨by rfl, ?_⟩) (by assumption) ?_; rotate_left; (focus ((intro W hSW); (try dsimp only at hSW); (try go_split_ands); go_simp; (try (with_reducible rfl)); done))) | (refine Reg.take 1 (v := undef) rfl (by kernel_rfl) (by kernel_rfl) (by kernel_rfl) (fun _ _ _ h => h) (Or.inr ⟨by rfl, rfl⟩) (by assumption) ?_))
                (try simp only [Act.put, List.setIfInBounds_toArray, List.set_cons_zero, List.set_cons_succ])
                (first | (refine Reg.take 2 (v := ?_) rfl (by kernel_rfl) (by kernel_rfl) (by kernel_rfl) (fun _ _ _ h => h) (Or.inl ⟨by rfl, ?_⟩) (by assumption) ?_; rotate_left; (focus ((intro W hSW); (try dsimp only at hSW); (try go_split_ands); go_simp; (try (with_reducible rfl)); done))) | (refine Reg.take 2 (v := undef) rfl (by kernel_rfl) (by kernel_rfl) (by kernel_rfl) (fun _ _ _ h => h) (Or.inr ⟨by rfl, rfl⟩) (by assumption) ?_))
                (try simp only [Act.put, List.setIfInBounds_toArray, List.set_cons_zero, List.set_cons_succ])
                (first | (refine Reg.take 3 (v := ?_) rfl (by kernel_rfl) (by kernel_rfl) (by kernel_rfl) (fun _ _ _ h => h) (Or.inl ⟨by rfl, ?_⟩) (by assumption) ?_; rotate_left; (focus ((intro W hSW); (try dsimp only at hSW); (try go_split_ands); go_simp; (try (with_reducible rfl)); done))) | (refine Reg.take 3 (v := undef) rfl (by kernel_rfl) (by kernel_rfl) (by kernel_rfl) (fun _ _ _ h => h) (Or.inr ⟨by rfl, rfl⟩) (by assumption) ?_))
                (try simp only [Act.put, List.setIfInBounds_toArray, List.set_cons_zero, List.set_cons_succ])
                (first | (refine Reg.take 4 (v := ?_) rfl (by kernel_rfl) (by kernel_rfl) (by kernel_rfl) (fun _ _ _ h => h) (Or.inl ⟨by rfl, ?_⟩) (by assumption) ?_; rotate_left; (focus ((intro W hSW); (try dsimp only at hSW); (try go_split_ands); go_simp; (try (with_reducible rfl)); done))) | (refine Reg.take 4 (v := undef) rfl (by kernel_rfl) (by kernel_rfl) (by kernel_rfl) (fun _ _ _ h => h) (Or.inr ⟨by rfl, rfl⟩) (by assumption) ?_))
                (try simp only [Act.put, List.setIfInBounds_toArray, List.set_cons_zero, List.set_cons_succ])
                (first | (refine Reg.take 5 (v := ?_) rfl (by kernel_rfl) (by kernel_rfl) (by kernel_rfl) (fun _ _ _ h => h) (Or.inl ⟨by rfl, ?_⟩) (by assumption) ?_; rotate_left; (focus ((intro W hSW); (try dsimp only at hSW); (try go_split_ands); go_simp; (try (with_reducible rfl)); done))) | (refine Reg.take 5 (v := undef) rfl (by kernel_rfl) (by kernel_rfl) (by kernel_rfl) (fun _ _ _ h => h) (Or.inr ⟨by rfl, rfl⟩) (by assumption) ?_))
                (try simp only [Act.put, List.setIfInBounds_toArray, List.set_cons_zero, List.set_cons_succ])
                (first | (refine Reg.take 6 (v := ?_) rfl (by kernel_rfl) (by kernel_rfl) (by kernel_rfl) (fun _ _ _ h => h) (Or.inl ⟨by rfl, ?_⟩) (by assumption) ?_; rotate_left; (focus ((intro W hSW); (try dsimp only at hSW); (try go_split_ands); go_simp; (try (with_reducible rfl)); done))) | (refine Reg.take 6 (v := undef) rfl (by kernel_rfl) (by kernel_rfl) (by kernel_rfl) (fun _ _ _ h => h) (Or.inr ⟨by rfl, rfl⟩) (by assumption) ?_))
                (try simp only [Act.put, List.setIfInBounds_toArray, List.set_cons_zero, List.set_cons_succ])
                (first | (refine Reg.take 7 (v := ?_) rfl (by kernel_rfl) (by kernel_rfl) (by kernel_rfl) (fun _ _ _ h => h) (Or.inl ⟨by rfl, ?_⟩) (by assumption) ?_; rotate_left; (focus ((intro W hSW); (try dsimp only at hSW); (try go_split_ands); go_simp; (try (with_reducible rfl)); done))) | (refine Reg.take 7 (v := undef) rfl (by kernel_rfl) (by kernel_rfl) (by kernel_rfl) (fun _ _ _ h => h) (Or.inr ⟨by rfl, rfl⟩) (by assumption) ?_))
                (try simp only [Act.put, List.setIfInBounds_toArray, List.set_cons_zero, List.set_cons_succ])
                (first | (refine Reg.take 8 (v := ?_) rfl (by kernel_rfl) (by kernel_rfl) (by kernel_rfl) (fun _ _ _ h => h) (Or.inl ⟨by rfl, ?_⟩) (by assumption) ?_; rotate_left; (focus ((intro W hSW); (try dsimp only at hSW); (try go_split_ands); go_simp; (try (with_reducible rfl)); done))) | (refine Reg.take 8 (v := undef) rfl (by kernel_rfl) (by kernel_rfl) (by kernel_rfl) (fun _ _ _ h => h) (Or.inr ⟨by rfl, rfl⟩) (by assumption) ?_))
                (try simp only [Act.put, List.setIfInBounds_toArray, List.set_cons_zero, List.set_cons_succ])
                (first | (refine Reg.take 9 (v := ?_) rfl (by kernel_rfl) (by kernel_rfl) (by kernel_rfl) (fun _ _ _ h => h) (Or.inl ⟨by rfl, ?_⟩) (by assumption) ?_; rotate_left; (focus ((intro W hSW); (try dsimp only at hSW); (try go_split_ands); go_simp; (try (with_reducible rfl)); done))) | (refine Reg.take 9 (v := undef) rfl (by kernel_rfl) (by kernel_rfl) (by kernel_rfl) (fun _ _ _ h => h) (Or.inr ⟨by rfl, rfl⟩) (by assumption) ?_))
                (try simp only [Act.put, List.setIfInBounds_toArray, List.set_cons_zero, List.set_cons_succ])
                (first | (refine Reg.take 10 (v := ?_) rfl (by kernel_rfl) (by kernel_rfl) (by kernel_rfl) (fun _ _ _ h => h) (Or.inl ⟨by rfl, ?_⟩) (by assumption) ?_; rotate_left; (focus ((intro W hSW); (try dsimp only at hSW); (try go_split_ands); go_simp; (try (with_reducible rfl)); done))) | (refine Reg.take 10 (v := undef) rfl (by kernel_rfl) (by kernel_rfl) (by kernel_rfl) (fun _ _ _ h => h) (Or.inr ⟨by rfl, rfl⟩) (by assumption) ?_))
                (try simp only [Act.put, List.setIfInBounds_toArray, List.set_cons_zero, List.set_cons_succ])
                refine wpAnyH_done (by kernel_rfl) ?_ _
                have HB7 : Hid (Below w5.heap.size w5 wr.drew) := HB.out.drew
                have HX7 := Lib.hid (OwnsL.drew HX.out)
                have HY7 : Hid (LBox wr.drew sb y) := HY.out
                have HL7 : Hid (sb < wr.drew.heap.size) := HL2.out
                have c7 : wr.drew.cell? ⟨b2, o2, none⟩ = some (.int .i64 p) := c0
                clear n0 n1 n2 n3 hHeld HB HX HY c0 HL2
                generalize wr.drew = w7 at *
                obtain ⟨n0, n1, n2, n3⟩ := LBox.cells HY7.out
                have hsl := run_tailI (some ⟨b2, o2, none⟩) pn q (by omega)
                generalize Mem.tailA (some ⟨b2, o2, none⟩) q 1 = TA at *
                rcases f2 : decide (y.fr < p)
                · have HRE := Lib.hid (runC_pass (s := y) (r := l.drop (k + 1)) (p := p) (ps := r) f1 f2)
                  rw [HRE.out] at HEQ
                  go_upto_region 13 with fail
                  refine wp_region_held_drew (S := fun W => W.cell? ⟨b2, o2, none⟩ = some (.int .i64 p) ∧ W.cell? ⟨sb, 0, none⟩ = some (.int .i64 y.fr)) (by kernel_rfl) ⟨c7, n0⟩ (fun hHeld => ?_)
                  (first | (refine Reg.take 0 (v := ?_) rfl (by kernel_rfl) (by kernel_rfl) (by kernel_rfl) (fun _ _ _ h => h) (Or.inl ⟨by rfl, ?_⟩) (by assumption) ?_; rotate_left; (focus ((intro W hSW); (try dsimp only at hSW); (try go_split_ands); go_simp; (try (with_reducible rfl)); done))) | (refine Reg.take 0 (v := undef) rfl (by kernel_rfl) (by kernel_rfl) (by kernel_rfl) (fun _ _ _ h => h) (Or.inr ⟨by rfl, rfl⟩) (by assumption) ?_))
                  (try simp only [Act.put, List.setIfInBounds_toArray, List.set_cons_zero, List.set_cons_succ])
                  (first | (refine Reg.take 1 (v := ?_) rfl (by kernel_rfl) (by kernel_rfl) (by kernel_rfl) (fun _ _ _ h => h) (Or.inl ⟨by rfl, ?_⟩) (by assumption) ?_; rotate_left; (focus ((intro W hSW); (try dsimp only at hSW); (try go_split_ands); go_simp; (try (with_reducible rfl)); done))) | (refine Reg.take 1 (v := undef) rfl (by kernel_rfl) (by kernel_rfl) (by kernel_rfl) (fun _ _ _ h => h) (Or.inr ⟨by rfl, rfl⟩) (by assumption) ?_))
                  (try simp only [Act.put, List.setIfInBounds_toArray, List.set_cons_zero, List.set_cons_succ])
                  (first | (refine Reg.take 2 (v := ?_) rfl (by kernel_rfl) (by kernel_rfl) (by kernel_rfl) (fun _ _ _ h => h) (Or.inl ⟨by rfl, ?_⟩) (by assumption) ?_; rotate_left; (focus ((intro W hSW); (try dsimp only at hSW); (try go_split_ands); go_simp; (try (with_reducible rfl)); done))) | (refine Reg.take 2 (v := undef) rfl (by kernel_rfl) (by kernel_rfl) (by kernel_rfl) (fun _ _ _ h => h) (Or.inr ⟨by rfl, rfl⟩) (by assumption) ?_))
                  (try simp only [Act.put, List.setIfInBounds_toArray, List.set_cons_zero, List.set_cons_succ])
                  (first | (refine Reg.take 3 (v := ?_) rfl (by kernel_rfl) (by kernel_rfl) (by kernel_rfl) (fun _ _ _ h => h) (Or.inl ⟨by rfl, ?_⟩) (by assumption) ?_; rotate_left; (focus ((intro W hSW); (try dsimp only at hSW); (try go_split_ands); go_simp; (try (with_reducible rfl)); done))) | (refine Reg.take 3 (v := undef) rfl (by kernel_rfl) (by kernel_rfl) (by kernel_rfl) (fun _ _ _ h => h) (Or.inr ⟨by rfl, rfl⟩) (by assumption) ?_))
                  (try simp only [Act.put, List.setIfInBounds_toArray, List.set_cons_zero, List.set_cons_succ])
                  (first | (refine Reg.take 4 (v := ?_) rfl (by kernel_rfl) (by kernel_rfl) (by kernel_rfl) (fun _ _ _ h => h) (Or.inl ⟨by rfl, ?_⟩) (by assumption) ?_; rotate_left; (focus ((intro W hSW); (try dsimp only at hSW); (try go_split_ands); go_simp; (try (with_reducible rfl)); done))) | (refine Reg.take 4 (v := undef) rfl (by kernel_rfl) (by kernel_rfl) (by kernel_rfl) (fun _ _ _ h => h) (Or.inr ⟨by rfl, rfl⟩) (by assumption) ?_))
                  (try simp only [Act.put, List.setIfInBounds_toArray, List.set_cons_zero, List.set_cons_succ])
                  (first | (refine Reg.take 5 (v := ?_) rfl (by kernel_rfl) (by kernel_rfl) (by kernel_rfl) (fun _ _ _ h => h) (Or.inl ⟨by rfl, ?_⟩) (by assumption) ?_; rotate_left; (focus ((intro W hSW); (try dsimp only at hSW); (try go_split_ands); go_simp; (try (with_reducible rfl)); done))) | (refine Reg.take 5 (v := undef) rfl (by kernel_rfl) (by kernel_rfl) (by kernel_rfl) (fun _ _ _ h => h) (Or.inr ⟨by rfl, rfl⟩) (by assumption) ?_))
                  (try simp only [Act.put, List.setIfInBounds_toArray, List.set_cons_zero, List.set_cons_succ])
                  refine wpAnyH_done (by kernel_rfl) ?_ _
                  have HB8 : Hid (Below w5.heap.size w5 w7.drew) := HB7.out.drew
                  have HX8 := Lib.hid (OwnsL.drew HX7.out)
                  have HY8 : Hid (LBox w7.drew sb y) := HY7.out
                  have HL8 : Hid (sb < w7.drew.heap.size) := HL7.out
                  clear n0 n1 n2 n3 hHeld HB7 HX7 HY7 HL7 c7
                  generalize w7.drew = w8 at *
                  go_wp2_with fail
                  go_roundw
                  case rel => exact ⟨TA, pn - 1, q - 1, X, a, f, rfl, rfl, by omega, HL8.out, HB8.out, r, out, y, HPT.out, HX8.out, HY8.out, HOFF.out, HEQ.out⟩
                  case measure => simp [lenV]; omega
                · have HRE := Lib.hid (runC_cut (s := y) (r := l.drop (k + 1)) (p := p) (ps := r) f1 f2)
                  rw [HRE.out] at HEQ
                  go_upto_region 13 with fail
                  refine wp_region_held_drew (S := fun W => W.cell? ⟨b2, o2, none⟩ = some (.int .i64 p) ∧ W.cell? ⟨sb, 0, none⟩ = some (.int .i64 y.fr)) (by kernel_rfl) ⟨c7, n0⟩ (fun hHeld => ?_)
                  (first | (refine Reg.take 0 (v := ?_) rfl (by kernel_rfl) (by kernel_rfl) (by kernel_rfl) (fun _ _ _ h => h) (Or.inl ⟨by rfl, ?_⟩) (by assumption) ?_; rotate_left; (focus ((intro W hSW); (try dsimp only at hSW); (try go_split_ands); go_simp; (try (with_reducible rfl)); done))) | (refine Reg.take 0 (v := undef) rfl (by kernel_rfl) (by kernel_rfl) (by kernel_rfl) (fun _ _ _ h => h) (Or.inr ⟨by rfl, rfl⟩) (by assumption) ?_))
                  (try simp only [Act.put, List.setIfInBounds_toArray, List.set_cons_zero, List.set_cons_succ])
                  (first | (refine Reg.take 1 (v := ?_) rfl (by kernel_rfl) (by kernel_rfl) (by kernel_rfl) (fun _ _ _ h => h) (Or.inl ⟨by rfl, ?_⟩) (by assumption) ?_; rotate_left; (focus ((intro W hSW); (try dsimp only at hSW); (try go_split_ands); go_simp; (try (with_reducible rfl)); done))) | (refine Reg.take 1 (v := undef) rfl (by kernel_rfl) (by kernel_rfl) (by kernel_rfl) (fun _ _ _ h => h) (Or.inr ⟨by rfl, rfl⟩) (by assumption) ?_))
                  (try simp only [Act.put, List.setIfInBounds_toArray, List.set_cons_zero, List.set_cons_succ])
                  (first | (refine Reg.take 2 (v := ?_) rfl (by kernel_rfl) (by kernel_rfl) (by kernel_rfl) (fun _ _ _ h => h) (Or.inl ⟨by rfl, ?_⟩) (by assumption) ?_; rotate_left; (focus ((intro W hSW); (try dsimp only at hSW); (try go_split_ands); go_simp; (try (with_reducible rfl)); done))) | (refine Reg.take 2 (v := undef) rfl (by kernel_rfl) (by kernel_rfl) (by kernel_rfl) (fun _ _ _ h => h) (Or.inr ⟨by rfl, rfl⟩) (by assumption) ?_))
                  (try simp only [Act.put, List.setIfInBounds_toArray, List.set_cons_zero, List.set_cons_succ])
                  (first | (refine Reg.take 3 (v := ?_) rfl (by kernel_rfl) (by kernel_rfl) (by kernel_rfl) (fun _ _ _ h => h) (Or.inl ⟨by rfl, ?_⟩) (by assumption) ?_; rotate_left; (focus ((intro W hSW); (try dsimp only at hSW); (try go_split_ands); go_simp; (try (with_reducible rfl)); done))) | (refine Reg.take 3 (v := undef) rfl (by kernel_rfl) (by kernel_rfl) (by kernel_rfl) (fun _ _ _ h => h) (Or.inr ⟨by rfl, rfl⟩) (by assumption) ?_))
                  (try simp only [Act.put, List.setIfInBounds_toArray, List.set_cons_zero, List.set_cons_succ])
                  (first | (refine Reg.take 4 (v := ?_) rfl (by kernel_rfl) (by kernel_rfl) (by kernel_rfl) (fun _ _ _ h => h) (Or.inl ⟨by rfl, ?_⟩) (by assumption) ?_; rotate_left; (focus ((intro W hSW); (try dsimp only at hSW); (try go_split_ands); go_simp; (try (with_reducible rfl)); done))) | (refine Reg.take 4 (v := undef) rfl (by kernel_rfl) (by kernel_rfl) (by kernel_rfl) (fun _ _ _ h => h) (Or.inr ⟨by rfl, rfl⟩) (by assumption) ?_))
                  (try simp only [Act.put, List.setIfInBounds_toArray, List.set_cons_zero, List.set_cons_succ])
                  (first | (refine Reg.take 5 (v := ?_) rfl (by kernel_rfl) (by kernel_rfl) (by kernel_rfl) (fun _ _ _ h => h) (Or.inl ⟨by rfl, ?_⟩) (by assumption) ?_; rotate_left; (focus ((intro W hSW); (try dsimp only at hSW); (try go_split_ands); go_simp; (try (with_reducible rfl)); done))) | (refine Reg.take 5 (v := undef) rfl (by kernel_rfl) (by kernel_rfl) (by kernel_rfl) (fun _ _ _ h => h) (Or.inr ⟨by rfl, rfl⟩) (by assumption) ?_))
                  (try simp only [Act.put, List.setIfInBounds_toArray, List.set_cons_zero, List.set_cons_succ])
                  refine wpAnyH_done (by kernel_rfl) ?_ _
                  have HB8 : Hid (Below w5.heap.size w5 w7.drew) := HB7.out.drew
                  have HX8 := Lib.hid (OwnsL.drew HX7.out)
                  have HY8 : Hid (LBox w7.drew sb y) := HY7.out
                  have HL8 : Hid (sb < w7.drew.heap.size) := HL7.out
                  clear n0 n1 n2 n3 hHeld HB7 HX7 HY7 HL7 c7
                  generalize w7.drew = w8 at *
                  obtain ⟨n0, n1, n2, n3⟩ := LBox.cells HY8.out
                  have HB9 : Hid (Below w5.heap.size w5 (w8.alloc (.cells #[.int .i64 y.fr, .int .i64 y.to, .int .i64 y.own, .int .i64 y.ep] 32))) := HB8.out.alloc HB8.out.size _
                  have HU9 : Hid (LBox (w8.alloc (.cells #[.int .i64 y.fr, .int .i64 y.to, .int .i64 y.own, .int .i64 y.ep] 32)) w8.heap.size y) := Cells.new _ _ _
                  have HX9 := Lib.hid (OwnsL.alloc HX8.out (.cells #[.int .i64 y.fr, .int .i64 y.to, .int .i64 y.own, .int .i64 y.ep] 32))
                  have HY9 := Lib.hid (Cells.alloc HY8.out (.cells #[.int .i64 y.fr, .int .i64 y.to, .int .i64 y.own, .int .i64 y.ep] 32))
                  have HOU := Lib.hid (OwnsL.off HX8.out (Nat.le_refl _))
                  have HLU : Hid (w8.heap.size < (w8.alloc (.cells #[.int .i64 y.fr, .int .i64 y.to, .int .i64 y.own, .int .i64 y.ep] 32)).heap.size) := Cells.lt HU9.out
                  have HGU := Lib.hid HB8.out.size
                  go_upto_region 15 with fail
                  clear n0 n1 n2 n3 HB8 HX8 HY8
                  generalize w8.alloc (.cells #[.int .i64 y.fr, .int .i64 y.to, .int .i64 y.own, .int .i64 y.ep] 32) = w9 at *
                  obtain ⟨u, hu⟩ : ∃ u, w8.heap.size = u := ⟨_, rfl⟩
                  rw [hu] at HU9 HOU HLU HL8 HGU
                  (try simp only [hu])
                  clear hu
                  have c9 : w9.cell? ⟨b2, o2, none⟩ = some (.int .i64 p) := by rw [World.cell?_of_block (w := w5) (HB9.out.block b2 HBL.out)]; exact HC.out
                  refine wp_region_held_drew (S := fun W => W.cell? ⟨b2, o2, none⟩ = some (.int .i64 p)) (by kernel_rfl) c9 (fun hHeld => ?_)
                  have HB10 : Hid (Below w5.heap.size w5 w9.drew) := HB9.out.drew
                  have HX10 := Lib.hid (OwnsL.drew HX9.out)
                  have HY10 : Hid (LBox w9.drew sb y) := HY9.out
                  have HU10 : Hid (LBox w9.drew u y) := HU9.out
                  have HLU10 : Hid (u < w9.drew.heap.size) := HLU.out
                  have c10 : w9.drew.cell? ⟨b2, o2, none⟩ = some (.int .i64 p) := c9
                  clear HB9 HX9 HY9 HU9 HLU c9
                  generalize w9.drew = w10 at *
                  (first | (refine Reg.take 0 (v := ?_) rfl (by kernel_rfl) (by kernel_rfl) (by kernel_rfl) (fun _ _ _ h => h) (Or.inl ⟨by rfl, ?_⟩) (by assumption) ?_; rotate_left; (focus ((intro W hSW); (try dsimp only at hSW); (try go_split_ands); go_simp; (try (with_reducible rfl)); done))) | (refine Reg.take 0 (v := undef) rfl (by kernel_rfl) (by kernel_rfl) (by kernel_rfl) (fun _ _ _ h => h) (Or.inr ⟨by rfl, rfl⟩) (by assumption) ?_))
                  (try simp only [Act.put, List.setIfInBounds_toArray, List.set_cons_zero, List.set_cons_succ])
                  (first | (refine Reg.take 1 (v := ?_) rfl (by kernel_rfl) (by kernel_rfl) (by kernel_rfl) (fun _ _ _ h => h) (Or.inl ⟨by rfl, ?_⟩) (by assumption) ?_; rotate_left; (focus ((intro W hSW); (try dsimp only at hSW); (try go_split_ands); go_simp; (try (with_reducible rfl)); done))) | (refine Reg.take 1 (v := undef) rfl (by kernel_rfl) (by kernel_rfl) (by kernel_rfl) (fun _ _ _ h => h) (Or.inr ⟨by rfl, rfl⟩) (by assumption) ?_))
                  (try simp only [Act.put, List.setIfInBounds_toArray, List.set_cons_zero, List.set_cons_succ])
                  (first | (refine Reg.take 2 (v := ?_) rfl (by kernel_rfl) (by kernel_rfl) (by kernel_rfl) (fun _ _ _ h => h) (Or.inl ⟨by rfl, ?_⟩) (by assumption) ?_; rotate_left; (focus ((intro W hSW); (try dsimp only at hSW); (try go_split_ands); go_simp; (try (with_reducible rfl)); done))) | (refine Reg.take 2 (v := undef) rfl (by kernel_rfl) (by kernel_rfl) (by kernel_rfl) (fun _ _ _ h => h) (Or.inr ⟨by rfl, rfl⟩) (by assumption) ?_))
                  (try simp only [Act.put, List.setIfInBounds_toArray, List.set_cons_zero, List.set_cons_succ])
                  (first | (refine Reg.take 3 (v := ?_) rfl (by kernel_rfl) (by kernel_rfl) (by kernel_rfl) (fun _ _ _ h => h) (Or.inl ⟨by rfl, ?_⟩) (by assumption) ?_; rotate_left; (focus ((intro W hSW); (try dsimp only at hSW); (try go_split_ands); go_simp; (try (with_reducible rfl)); done))) | (refine Reg.take 3 (v := undef) rfl (by kernel_rfl) (by kernel_rfl) (by kernel_rfl) (fun _ _ _ h => h) (Or.inr ⟨by rfl, rfl⟩) (by assumption) ?_))
                  (try simp only [Act.put, List.setIfInBounds_toArray, List.set_cons_zero, List.set_cons_succ])
                  (first | (refine Reg.take 4 (v := ?_) rfl (by kernel_rfl) (by kernel_rfl) (by kernel_rfl) (fun _ _ _ h => h) (Or.inl ⟨by rfl, ?_⟩) (by assumption) ?_; rotate_left; (focus ((intro W hSW); (try dsimp only at hSW); (try go_split_ands); go_simp; (try (with_reducible rfl)); done))) | (refine Reg.take 4 (v := undef) rfl (by kernel_rfl) (by kernel_rfl) (by kernel_rfl) (fun _ _ _ h => h) (Or.inr ⟨by rfl, rfl⟩) (by assumption) ?_))
                  (try simp only [Act.put, List.setIfInBounds_toArray, List.set_cons_zero, List.set_cons_succ])
                  (first | (refine Reg.take 5 (v := ?_) rfl (by kernel_rfl) (by kernel_rfl) (by kernel_rfl) (fun _ _ _ h => h) (Or.inl ⟨by rfl, ?_⟩) (by assumption) ?_; rotate_left; (focus ((intro W hSW); (try dsimp only at hSW); (try go_split_ands); go_simp; (try (with_reducible rfl)); done))) | (refine Reg.take 5 (v := undef) rfl (by kernel_rfl) (by kernel_rfl) (by kernel_rfl) (fun _ _ _ h => h) (Or.inr ⟨by rfl, rfl⟩) (by assumption) ?_))
                  (try simp only [Act.put, List.setIfInBounds_toArray, List.set_cons_zero, List.set_cons_succ])
                  (first | (refine Reg.take 6 (v := ?_) rfl (by kernel_rfl) (by kernel_rfl) (by kernel_rfl) (fun _ _ _ h => h) (Or.inl ⟨by rfl, ?_⟩) (by assumption) ?_; rotate_left; (focus ((intro W hSW); (try dsimp only at hSW); (try go_split_ands); go_simp; (try (with_reducible rfl)); done))) | (refine Reg.take 6 (v := undef) rfl (by kernel_rfl) (by kernel_rfl) (by kernel_rfl) (fun _ _ _ h => h) (Or.inr ⟨by rfl, rfl⟩) (by assumption) ?_))
                  (try simp only [Act.put, List.setIfInBounds_toArray, List.set_cons_zero, List.set_cons_succ])
                  refine Reg.step 7 rfl (by kernel_rfl) (by rfl) (fun K hK => ?_)
                  obtain ⟨m0, m1, m2, m3⟩ := LBox.cells HU10.out
                  obtain ⟨z0, z1, z2, z3⟩ := LBox.frozen HU10.out
                  have hbu : b2 ≠ u := by have := HBL.out; have := HGU.out; omega
                  have HU11 : Hid (LBox (w10.setCell ⟨u, 1, none⟩ (.int .i64 p)) u (longer y p)) := Cells.set_ HU10.out 1 (.int .i64 p)
                  have HY11 : Hid (LBox (w10.setCell ⟨u, 1, none⟩ (.int .i64 p)) sb y) := Cells.set_other HY10.out (by have := HL8.out; omega) 1 _
                  have HB11 : Hid (Below w5.heap.size w5 (w10.setCell ⟨u, 1, none⟩ (.int .i64 p))) := belowk HB10.out HGU.out _ _
                  have HX11 : Hid (OwnsL w5.heap.size (w10.setCell ⟨u, 1, none⟩ (.int .i64 p)) (.slice X a f) a out) := OwnsL.kept HX10.out (But.set1 w10 u 1 _).by_ (.inr HOU.out)
                  have HS11 : Hid (u < (w10.setCell ⟨u, 1, none⟩ (.int .i64 p)).heap.size) := Cells.lt HU11.out
                  have c11 : (w10.setCell ⟨u, 1, none⟩ (.int .i64 p)).cell? ⟨b2, o2, none⟩ = some (.int .i64 p) := by rw [World.cell?_of_block (w := w5) (HB11.out.block b2 HBL.out)]; exact HC.out
                  go_simp
                  refine hK.out _ _ c11 (fun hHeld2 => ?_)
                  clear hK K m0 m1 m2 m3 z0 z1 z2 z3 hHeld2 hHeld HU10 HY10 HB10 HX10 HLU10 c10 hbu
                  (try simp only [Act.put, List.setIfInBounds_toArray, List.set_cons_zero, List.set_cons_succ])
                  generalize w10.setCell ⟨u, 1, none⟩ (.int .i64 p) = w11 at *
                  (first | (refine Reg.take 8 (v := ?_) rfl (by kernel_rfl) (by kernel_rfl) (by kernel_rfl) (fun _ _ _ h => h) (Or.inl ⟨by rfl, ?_⟩) (by assumption) ?_; rotate_left; (focus ((intro W hSW); (try dsimp only at hSW); (try go_split_ands); go_simp; (try (with_reducible rfl)); done))) | (refine Reg.take 8 (v := undef) rfl (by kernel_rfl) (by kernel_rfl) (by kernel_rfl) (fun _ _ _ h => h) (Or.inr ⟨by rfl, rfl⟩) (by assumption) ?_))
                  (try simp only [Act.put, List.setIfInBounds_toArray, List.set_cons_zero, List.set_cons_succ])
                  refine Reg.step 9 rfl (by kernel_rfl) (by rfl) (fun K hK => ?_)
                  obtain ⟨m0, m1, m2, m3⟩ := LBox.cells HY11.out
                  obtain ⟨z0, z1, z2, z3⟩ := LBox.frozen HY11.out
                  have HY12 : Hid (LBox (w11.setCell ⟨sb, 0, none⟩ (.int .i64 p)) sb (putFr y p)) := Cells.set_ HY11.out 0 (.int .i64 p)
                  have HU12 : Hid (LBox (w11.setCell ⟨sb, 0, none⟩ (.int .i64 p)) u (longer y p)) := Cells.set_other HU11.out (by have := HL8.out; omega) 0 _
                  have HB12 : Hid (Below w5.heap.size w5 (w11.setCell ⟨sb, 0, none⟩ (.int .i64 p))) := belowk HB11.out HGE.out _ _
                  have HX12 : Hid (OwnsL w5.heap.size (w11.setCell ⟨sb, 0, none⟩ (.int .i64 p)) (.slice X a f) a out) := OwnsL.kept HX11.out (But.set1 w11 sb 0 _).by_ (.inr HOFF.out)
                  have c12 : (w11.setCell ⟨sb, 0, none⟩ (.int .i64 p)).cell? ⟨b2, o2, none⟩ = some (.int .i64 p) := by rw [World.cell?_of_block (w := w5) (HB12.out.block b2 HBL.out)]; exact HC.out
                  go_simp
                  refine hK.out _ _ c12 (fun hHeld2 => ?_)
                  clear hK K m0 m1 m2 m3 z0 z1 z2 z3 hHeld2 HU11 HY11 HB11 HX11 HS11 c11 c12
                  (try simp only [Act.put, List.setIfInBounds_toArray, List.set_cons_zero, List.set_cons_succ])
                  generalize w11.setCell ⟨sb, 0, none⟩ (.int .i64 p) = w12 at *
                  refine wpAnyH_done (by kernel_rfl) ?_ _
                  obtain ⟨m0, m1, m2, m3⟩ := LBox.cells HU12.out
                  have m0' : w12.cell? ⟨u, 0, none⟩ = some (.int .i64 y.fr) := m0
                  have m1' : w12.cell? ⟨u, 1, none⟩ = some (.int .i64 p) := m1
                  have m2' : w12.cell? ⟨u, 2, none⟩ = some (.int .i64 y.own) := m2
                  have m3' : w12.cell? ⟨u, 3, none⟩ = some (.int .i64 y.ep) := m3
                  clear m0 m1 m2 m3
                  have B13 : Hid (Below w5.heap.size w5 (w12.alloc (.cells #[.int .i64 y.fr, .int .i64 p, .int .i64 y.own, .int .i64 y.ep] 32))) := HB12.out.alloc HB12.out.size _
                  have V13 : Hid (LBox (w12.alloc (.cells #[.int .i64 y.fr, .int .i64 p, .int .i64 y.own, .int .i64 y.ep] 32)) w12.heap.size (longer y p)) := Cells.new _ _ _
                  have X13 := Lib.hid (OwnsL.alloc HX12.out (.cells #[.int .i64 y.fr, .int .i64 p, .int .i64 y.own, .int .i64 y.ep] 32))
                  have Y13 := Lib.hid (Cells.alloc HY12.out (.cells #[.int .i64 y.fr, .int .i64 p, .int .i64 y.own, .int .i64 y.ep] 32))
                  have L13 : Hid (sb < (w12.alloc (.cells #[.int .i64 y.fr, .int .i64 p, .int .i64 y.own, .int .i64 y.ep] 32)).heap.size) := Cells.lt Y13.out
                  go_wp2_with (at_builtin
                               refine wpList_append_l rfl (.tmp 55) (.tmp 57) rfl rfl w5.heap.size _ a _ rfl X13.out _ 1 1 [longer y p] rfl (RowS.one V13.out) (by omega) B13.out.size ?_
                               intro A' c' w' h1 h2 h3
                               have B14 := Lib.hid (B13.out.trans (below_row X13.out h2 B13.out.size))
                               have X14 := Lib.hid h1
                               have Y14 := Lib.hid (Cells.grown Y13.out h2 HOFF.out)
                               have F14 : Hid ((Value.slice A' (a + 1) c').ownBlock ≠ some sb) := by
                                 show _ ≠ _
                                 rcases h3 with h3 | h3
                                 · rw [h3]; exact HOFF.out
                                 · rw [h3]; intro e; injection e with e; have := L13.out; omega
                               have L14 : Hid (sb < w'.heap.size) := Cells.lt Y14.out
                               clear h1 h2 h3)
                  go_roundw
                  case rel => exact ⟨TA, pn - 1, q - 1, A', a + 1, c', rfl, rfl, by omega, L14.out, B14.out, r, out ++ [longer y p], putFr y p, HPT.out, X14.out, Y14.out, F14.out, by rw [List.append_assoc]; exact HEQ.out⟩
                  case measure => simp [lenV]; omega
        · have hkn : l.drop k = [] := List.drop_eq_nil_of_le (by have := hlen.out; omega)
          obtain ⟨h1, qs, out, -, h3, h4⟩ := hH.out
          rw [hkn, HRC.out] at h4
          have h4' : out = cutsS l ps := by rw [← h4]; show out = out ++ []; rw [List.append_nil]
          subst h4'
          have HE := Lib.hid (And.intro h1 h3)
          clear h1 h3 h4 hkn hH
          go_wp2_with fail
          go_ret2
          exact GaveS.of (HE.out.2.mono L5.out.size) (by omega) (L5.out.trans (HE.out.1.mono L5.out.size))
    · rw [hat] at HCF
      go_enter Try.func9, Try.ntmps9
      go_upto_region 1 with fail
      generalize w.alloc (.cells #[.slice A n c] 22) = w1 at *
      have m0 := OneBox.cells Q1.out
      go_wp2_with fail
      refine (HC w1 (HR.out.below L1.out)).out.mono ?_
      rintro e w2 ⟨rfl, hb⟩
      have L2 := Lib.hid (L1.out.trans (hb.mono L1.out.size))
      have Q2 := Lib.hid (Cells.below Q1.out hb)
      clear hb L1 Q1 m0 HC
      go_wp2_with fail
      refine (HCF w2 w.heap.size (HR.out.below L2.out) (HS.out.below L2.out) Q2.out).out.mono ?_
      rintro e w3 ⟨rfl, hb⟩
      have L3 := Lib.hid (L2.out.trans (hb.mono L2.out.size))
      clear hb
      go_wp2_with fail
      go_ret2
      exact GaveS.none_ L3.out
end Spa
end Go.Proofs.Ytjoemlifpbjdbaa
