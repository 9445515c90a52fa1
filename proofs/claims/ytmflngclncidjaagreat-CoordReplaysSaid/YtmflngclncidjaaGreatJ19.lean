/-
  SEVERAL TEXTS IN ONE FILE: SpaGive.
-/
import Derived.Test.YtmflngclncidjaaGreatJ16
import Derived.Test.YtmflngclncidjaaGreatJ18
/-
  WALKS: Give. (Written by gen_spagive.py.)
-/
namespace Go.Proofs.YtmflngclncidjaaGreat
open Go.RowKit Mem
namespace Spa
/-- Three pieces in one block. -/
theorem row_three {w : World} {A B C : Option Addr} {n c m d k f : Nat} {a b r : List Sp} {t : TypeId} {q : Nat} (h : Cells w q t #[.slice A n c, .slice B m d, .slice C k f]) :
    Row Piece.val w (some ⟨q, 0, none⟩) 3 3 [⟨A, n, c, a⟩, ⟨B, m, d, b⟩, ⟨C, k, f, r⟩] := by
  refine ⟨rfl, by omega, by omega, fun _ => ⟨_, _, rfl, Cells.lt h, fun i x hi => ?_⟩⟩
  rw [Nat.zero_add, Cells.cell h]
  match i, hi with
  | 0, hi => simp at hi; subst hi; rfl
  | 1, hi => simp at hi; subst hi; rfl
  | 2, hi => simp at hi; subst hi; rfl

set_option maxRecDepth 100000 in
set_option maxHeartbeats 1600000 in
theorem give1_any (e : Int) (q : Nat) (x : Sp) (w : World) (hq : OneBox w q 3 (.int .i64 e)) :
    Calls Tryz.prog 91 #[sv x, .pointer (some ⟨q, 0, none⟩)] w fun en w' => en = .returned (.bool ((x.own != -1) && decide (e ≤ x.ep))) ∧ Below w.heap.size w w' := by
  have L1 : Hid (Below w.heap.size w (w.alloc (.cells #[.int .i64 x.fr, .int .i64 x.to, .int .i64 x.own, .int .i64 x.ep] 48))) := (Below.refl w.heap.size w).alloc (Nat.le_refl _) _
  have B1 : Hid (OneBox (w.alloc (.cells #[.int .i64 x.fr, .int .i64 x.to, .int .i64 x.own, .int .i64 x.ep] 48)) q 3 (.int .i64 e)) := Cells.alloc hq _
  have B2 : Hid (LBox (w.alloc (.cells #[.int .i64 x.fr, .int .i64 x.to, .int .i64 x.own, .int .i64 x.ep] 48)) w.heap.size x) := Cells.new w _ _
  clear hq
  rcases e1 : (x.own != -1)
  · go_enter Tryz.func91, Tryz.ntmps91
    go_upto_region 1 with fail
    generalize w.alloc (.cells #[.int .i64 x.fr, .int .i64 x.to, .int .i64 x.own, .int .i64 x.ep] 48) = w1 at *
    have m0 := OneBox.cells B1.out
    obtain ⟨n0, n1, n2, n3⟩ := LBox.cells B2.out
    go_wp2_with fail
    go_ret
    exact ⟨rfl, L1.out⟩
  · go_enter Tryz.func91, Tryz.ntmps91
    go_upto_region 1 with fail
    generalize w.alloc (.cells #[.int .i64 x.fr, .int .i64 x.to, .int .i64 x.own, .int .i64 x.ep] 48) = w1 at *
    have m0 := OneBox.cells B1.out
    obtain ⟨n0, n1, n2, n3⟩ := LBox.cells B2.out
    go_wp2_with fail
    go_ret
    exact ⟨rfl, L1.out⟩

set_option maxRecDepth 100000 in
set_option maxHeartbeats 12800000 in
theorem give_any {A : Option Addr} {n c : Nat} {l : List Sp} {w : World} (a b o e : Int) (h : RowL w A n c l) (hn : n ≤ 400000) :
    Calls Tryz.prog 71 #[.slice A n c, .int .i64 a, .int .i64 b, .int .i64 o, .int .i64 e] w (GaveS w (giveP l a b o e)) := by
  have HR := Lib.hid h
  have hbig := h.big
  have hlen := Lib.hid h.len
  have HPP := fun w (h : RowL w A n c l) => Lib.hid (Parts_any a b h (by omega))
  have HM := fun w => Lib.hid (may_any o e w)
  have L1 : Hid (Below w.heap.size w (w.alloc (.cells #[.int .i64 e] 3))) := (Below.refl w.heap.size w).alloc (Nat.le_refl _) _
  have Q1 : Hid (OneBox (w.alloc (.cells #[.int .i64 e] 3)) w.heap.size 3 (.int .i64 e)) := Cells.new w _ _
  clear h
  rcases hr : rangeB l a b
  · have HG : Hid (giveP l a b o e = ([], 1)) := by show _ = _; unfold giveP; rw [hr]; rfl
    have HP2 : Hid (partsP l a b = ([], 1)) := by show _ = _; unfold partsP; rw [hr]; rfl
    rw [HP2.out] at HPP
    go_enter Tryz.func71, Tryz.ntmps71
    go_upto_region 1 with fail
    generalize w.alloc (.cells #[.int .i64 e] 3) = w1 at *
    go_wp2_with fail
    refine (HPP w1 (HR.out.below L1.out)).out.mono ?_
    rintro en w2 ⟨B, d, rfl, hO, hb⟩
    have L2 := Lib.hid (L1.out.trans (hb.mono L1.out.size))
    clear hO hb
    go_wp2_with fail
    go_ret2
    rw [HG.out]
    exact GaveS.none_ L2.out
  · obtain ⟨hok, ha, hab, hbN⟩ := rangeB_iff.1 hr
    have HP2 : Hid (partsP l a b = (partsS l a b, 0)) := by show _ = _; unfold partsP; rw [hr]; rfl
    rw [HP2.out] at HPP
    rcases hm : mayOwn o e
    · have HG : Hid (giveP l a b o e = ([], 1)) := by show _ = _; unfold giveP; rw [hr, hm]; rfl
      rw [hm] at HM
      clear hok ha hab hbN
      go_enter Tryz.func71, Tryz.ntmps71
      go_upto_region 1 with fail
      generalize w.alloc (.cells #[.int .i64 e] 3) = w1 at *
      go_wp2_with fail
      refine (HPP w1 (HR.out.below L1.out)).out.mono ?_
      rintro en w2 ⟨B, d, rfl, hO, hb⟩
      have L2 := Lib.hid (L1.out.trans (hb.mono L1.out.size))
      have Q2 := Lib.hid (Cells.below Q1.out hb)
      clear hO hb Q1
      have m0 := OneBox.cells Q2.out
      go_wp2_with fail
      refine (HM w2).out.mono ?_
      rintro en w3 ⟨rfl, rfl⟩
      go_wp2_with fail
      go_ret2
      rw [HG.out]
      exact GaveS.none_ L2.out
    · rw [hm] at HM
      have HG : Hid (giveP l a b o e = bif staleB (partsS l a b) o e then ([], 61) else (giveS l a b o e, 0)) := by show _ = _; unfold giveP; rw [hr, hm]; rfl
      have hn0 : 0 < n := by
        have := (okS_iff.1 hok).2.2.1
        rcases Nat.eq_zero_or_pos n with h0 | h0
        · exact absurd (List.eq_nil_of_length_eq_zero (by rw [hlen.out, h0])) this
        · exact h0
      have HE := fun w (h : RowL w A n c l) => Lib.hid (end_any h hn0)
      have HPA := fun w (h : RowL w A n c l) => Lib.hid (parts_any 0 a h (by omega) (ok_ch hok) (ok_le hok) (Int.le_refl _) ha (by omega))
      have HPB := fun w (h : RowL w A n c l) => Lib.hid (parts_any b (endF 0 l) h (by omega) (ok_ch hok) (ok_le hok) (by omega) hbN (Int.le_refl _))
      have HGS : Hid (giveS l a b o e = joinS (partsS l 0 a ++ [⟨a, b, o, e⟩] ++ partsS l b (endF 0 l))) := rfl
      have HPL := Lib.hid (partsS_len l a b)
      clear hok ha hab hbN hn0 hr hm
      generalize endF 0 l = N at *
      go_enter Tryz.func71, Tryz.ntmps71
      go_upto_region 1 with fail
      generalize w.alloc (.cells #[.int .i64 e] 3) = w1 at *
      go_wp2_with fail
      refine (HPP w1 (HR.out.below L1.out)).out.mono ?_
      rintro en w2 ⟨B, d, rfl, hO, hb⟩
      have L2 := Lib.hid (L1.out.trans (hb.mono L1.out.size))
      have Q2 := Lib.hid (Cells.below Q1.out hb)
      have R2 := Lib.hid (OwnsL.row hO (by have := HPL.out; have := hlen.out; simp only; omega))
      clear hO hb Q1 L1 HPP HPL HP2
      simp only at R2
      have m0 := OneBox.cells Q2.out
      go_wp2_with fail
      refine (HM w2).out.mono ?_
      rintro en w3 ⟨rfl, rfl⟩
      clear HM
      obtain ⟨st, hst⟩ : ∃ st, staleB (partsS l a b) o e = st := ⟨_, rfl⟩
      rw [hst] at HG
      have HST := Lib.hid hst
      clear hst
      go_upto_region 5 with fail
      go_cut [37] (fun s wx => s = .bool st ∧ Hid (Below w3.heap.size w3 wx))
      case first =>
        rcases e1 : (o != -1)
        · have hs : st = false := by rw [← HST.out]; unfold staleB; rw [e1]; rfl
          subst hs
          go_wp2_with fail
          go_meet
          exact ⟨rfl, Below.refl _ _⟩
        · have hs : (partsS l a b).any (fun s => (s.own != -1) && decide (e ≤ s.ep)) = st := by rw [← HST.out]; unfold staleB; rw [e1, Bool.true_and]
          have HCF := Lib.hid (contains_any R2.out 91 #[.pointer (some ⟨w.heap.size, 0, none⟩)] (enters_of Tryz.func91 (by kernel_rfl) rfl) (fun s => (s.own != -1) && decide (e ≤ s.ep)) (fun W x hW => give1_any e w.heap.size x W (Cells.below Q2.out hW)))
          rw [hs] at HCF
          clear hs
          go_wp2_with fail
          refine HCF.out.mono ?_
          rintro en w4 ⟨rfl, hb⟩
          have B4 := Lib.hid hb
          clear hb
          go_wp2_with fail
          go_meet
          exact ⟨rfl, B4.out⟩
      case rest =>
        obtain ⟨rfl, hcb⟩ := hcut
        have LY := Lib.hid (L2.out.trans (hcb.out.mono L2.out.size))
        have QY := Lib.hid (Cells.below Q2.out hcb.out)
        clear hcb m0 L2 Q2 R2
        generalize wc = vy at *
        cases st
        · rw [cond_false, HGS.out] at HG
          have FIN : Hid (∀ (Y : Option Addr) (i p : Nat) (W : World), Below w.heap.size w W → OwnsL w.heap.size W (.slice Y i p) i (joinS (partsS l 0 a ++ [⟨a, b, o, e⟩] ++ partsS l b N)) → i ≤ 900000 → GaveS w (giveP l a b o e) (.returned (.tuple #[.slice Y i p, .int .i64 0])) W) := by
            show ∀ _, _
            intro Y i p W hb hO hi
            rw [HG.out]
            exact GaveS.of hO (by omega) hb
          have LZ : Hid (Below w.heap.size w vy.drew) := LY.out.drew
          have QZ : Hid (OneBox vy.drew w.heap.size 3 (.int .i64 e)) := QY.out
          clear HG HGS HST
          go_upto_region 7 with fail
          refine wp_region_held_drew (S := fun W => W.cell? ⟨w.heap.size, 0, none⟩ = some (.int .i64 e)) (by kernel_rfl) (OneBox.cells QY.out) (fun hHeld => ?_)
          generalize vy.drew = vz at *
          (first | (refine Reg.take 0 (v := ?_) rfl (by kernel_rfl) (by kernel_rfl) (by kernel_rfl) (fun _ _ _ h => h) (Or.inl ⟨by rfl, ?_⟩) (by assumption) ?_; rotate_left; (focus ((intro W hSW); (try dsimp only at hSW); (try go_split_ands); go_simp; (try (with_reducible rfl)); done))) | (refine Reg.take 0 (v := undef) rfl (by kernel_rfl) (by kernel_rfl) (by kernel_rfl) (fun _ _ _ h => h) (Or.inr ⟨by rfl, rfl⟩) (by assumption) ?_))
          (try simp only [Act.put, List.setIfInBounds_toArray, List.set_cons_zero, List.set_cons_succ])
          (first | (refine Reg.take 1 (v := ?_) rfl (by kernel_rfl) (by kernel_rfl) (by kernel_rfl) (fun _ _ _ h => h) (Or.inl ⟨by rfl, ?_⟩) (by assumption) ?_; rotate_left; (focus ((intro W hSW); (try dsimp only at hSW); (try go_split_ands); go_simp; (try (with_reducible rfl)); done))) | (refine Reg.take 1 (v := undef) rfl (by kernel_rfl) (by kernel_rfl) (by kernel_rfl) (fun _ _ _ h => h) (Or.inr ⟨by rfl, rfl⟩) (by assumption) ?_))
          (try simp only [Act.put, List.setIfInBounds_toArray, List.set_cons_zero, List.set_cons_succ])
          (first | (refine Reg.take 3 (v := ?_) rfl (by kernel_rfl) (by kernel_rfl) (by kernel_rfl) (fun _ _ _ h => h) (Or.inl ⟨by rfl, ?_⟩) (by assumption) ?_; rotate_left; (focus ((intro W hSW); (try dsimp only at hSW); (try go_split_ands); go_simp; (try (with_reducible rfl)); done))) | (refine Reg.take 3 (v := undef) rfl (by kernel_rfl) (by kernel_rfl) (by kernel_rfl) (fun _ _ _ h => h) (Or.inr ⟨by rfl, rfl⟩) (by assumption) ?_))
          (try simp only [Act.put, List.setIfInBounds_toArray, List.set_cons_zero, List.set_cons_succ])
          (first | (refine Reg.take 4 (v := ?_) rfl (by kernel_rfl) (by kernel_rfl) (by kernel_rfl) (fun _ _ _ h => h) (Or.inl ⟨by rfl, ?_⟩) (by assumption) ?_; rotate_left; (focus ((intro W hSW); (try dsimp only at hSW); (try go_split_ands); go_simp; (try (with_reducible rfl)); done))) | (refine Reg.take 4 (v := undef) rfl (by kernel_rfl) (by kernel_rfl) (by kernel_rfl) (fun _ _ _ h => h) (Or.inr ⟨by rfl, rfl⟩) (by assumption) ?_))
          (try simp only [Act.put, List.setIfInBounds_toArray, List.set_cons_zero, List.set_cons_succ])
          (first | (refine Reg.take 5 (v := ?_) rfl (by kernel_rfl) (by kernel_rfl) (by kernel_rfl) (fun _ _ _ h => h) (Or.inl ⟨by rfl, ?_⟩) (by assumption) ?_; rotate_left; (focus ((intro W hSW); (try dsimp only at hSW); (try go_split_ands); go_simp; (try (with_reducible rfl)); done))) | (refine Reg.take 5 (v := undef) rfl (by kernel_rfl) (by kernel_rfl) (by kernel_rfl) (fun _ _ _ h => h) (Or.inr ⟨by rfl, rfl⟩) (by assumption) ?_))
          (try simp only [Act.put, List.setIfInBounds_toArray, List.set_cons_zero, List.set_cons_succ])
          (first | (refine Reg.take 6 (v := ?_) rfl (by kernel_rfl) (by kernel_rfl) (by kernel_rfl) (fun _ _ _ h => h) (Or.inl ⟨by rfl, ?_⟩) (by assumption) ?_; rotate_left; (focus ((intro W hSW); (try dsimp only at hSW); (try go_split_ands); go_simp; (try (with_reducible rfl)); done))) | (refine Reg.take 6 (v := undef) rfl (by kernel_rfl) (by kernel_rfl) (by kernel_rfl) (fun _ _ _ h => h) (Or.inr ⟨by rfl, rfl⟩) (by assumption) ?_))
          (try simp only [Act.put, List.setIfInBounds_toArray, List.set_cons_zero, List.set_cons_succ])
          (first | (refine Reg.take 7 (v := ?_) rfl (by kernel_rfl) (by kernel_rfl) (by kernel_rfl) (fun _ _ _ h => h) (Or.inl ⟨by rfl, ?_⟩) (by assumption) ?_; rotate_left; (focus ((intro W hSW); (try dsimp only at hSW); (try go_split_ands); go_simp; (try (with_reducible rfl)); done))) | (refine Reg.take 7 (v := undef) rfl (by kernel_rfl) (by kernel_rfl) (by kernel_rfl) (fun _ _ _ h => h) (Or.inr ⟨by rfl, rfl⟩) (by assumption) ?_))
          (try simp only [Act.put, List.setIfInBounds_toArray, List.set_cons_zero, List.set_cons_succ])
          (first | (refine Reg.take 9 (v := ?_) rfl (by kernel_rfl) (by kernel_rfl) (by kernel_rfl) (fun _ _ _ h => h) (Or.inl ⟨by rfl, ?_⟩) (by assumption) ?_; rotate_left; (focus ((intro W hSW); (try dsimp only at hSW); (try go_split_ands); go_simp; (try (with_reducible rfl)); done))) | (refine Reg.take 9 (v := undef) rfl (by kernel_rfl) (by kernel_rfl) (by kernel_rfl) (fun _ _ _ h => h) (Or.inr ⟨by rfl, rfl⟩) (by assumption) ?_))
          (try simp only [Act.put, List.setIfInBounds_toArray, List.set_cons_zero, List.set_cons_succ])
          (first | (refine Reg.take 10 (v := ?_) rfl (by kernel_rfl) (by kernel_rfl) (by kernel_rfl) (fun _ _ _ h => h) (Or.inl ⟨by rfl, ?_⟩) (by assumption) ?_; rotate_left; (focus ((intro W hSW); (try dsimp only at hSW); (try go_split_ands); go_simp; (try (with_reducible rfl)); done))) | (refine Reg.take 10 (v := undef) rfl (by kernel_rfl) (by kernel_rfl) (by kernel_rfl) (fun _ _ _ h => h) (Or.inr ⟨by rfl, rfl⟩) (by assumption) ?_))
          (try simp only [Act.put, List.setIfInBounds_toArray, List.set_cons_zero, List.set_cons_succ])
          (first | (refine Reg.take 11 (v := ?_) rfl (by kernel_rfl) (by kernel_rfl) (by kernel_rfl) (fun _ _ _ h => h) (Or.inl ⟨by rfl, ?_⟩) (by assumption) ?_; rotate_left; (focus ((intro W hSW); (try dsimp only at hSW); (try go_split_ands); go_simp; (try (with_reducible rfl)); done))) | (refine Reg.take 11 (v := undef) rfl (by kernel_rfl) (by kernel_rfl) (by kernel_rfl) (fun _ _ _ h => h) (Or.inr ⟨by rfl, rfl⟩) (by assumption) ?_))
          (try simp only [Act.put, List.setIfInBounds_toArray, List.set_cons_zero, List.set_cons_succ])
          refine Reg.step2 2 8 rfl rfl (by kernel_rfl) (by rfl) (by rfl) (fun K hK => ?_) (fun K hK => ?_)
          · go_simp
            refine (HPA vz (HR.out.below LZ.out)).out.mono ?_
            rintro en v1 ⟨⟨B1, m1, d1, rfl, hm1, hO⟩, hb⟩
            have L1 := Lib.hid (LZ.out.trans (hb.mono LZ.out.size))
            have Q1 := Lib.hid (Cells.below QZ.out hb)
            have RP1 := Lib.hid (OwnsL.row hO (by omega))
            clear hO
            clear hb
            have hq1 := OneBox.cells Q1.out
            refine hK.out _ _ hq1 (fun hHeld1 => ?_)
            clear hK K hq1
            (try simp only [Act.put, List.setIfInBounds_toArray, List.set_cons_zero, List.set_cons_succ])
            refine Reg.step2 8 12 rfl rfl (by kernel_rfl) (by rfl) (by rfl) (fun K hK => ?_) (fun K hK => ?_)
            · have L15 : Hid (Below w.heap.size w (v1.alloc (.cells #[.int .i64 a, .int .i64 b, .int .i64 o, .int .i64 e] 48))) := L1.out.alloc L1.out.size _
              have Q15 : Hid (OneBox (v1.alloc (.cells #[.int .i64 a, .int .i64 b, .int .i64 o, .int .i64 e] 48)) w.heap.size 3 (.int .i64 e)) := Cells.alloc Q1.out _
              have FP16 : Hid (RowL (v1.alloc (.cells #[.int .i64 a, .int .i64 b, .int .i64 o, .int .i64 e] 48)) B1 m1 d1 (partsS l 0 a)) := RowS.alloc RP1.out _
              have RN15 : Hid (RowL (v1.alloc (.cells #[.int .i64 a, .int .i64 b, .int .i64 o, .int .i64 e] 48)) (some ⟨v1.heap.size, 0, none⟩) 1 1 [⟨a, b, o, e⟩]) := RowS.one (x := ⟨a, b, o, e⟩) (Cells.new _ _ _)
              have hq15 := OneBox.cells Q15.out
              go_simp
              refine hK.out _ _ hq15 (fun hHeld15 => ?_)
              clear hK K hq15
              (try simp only [Act.put, List.setIfInBounds_toArray, List.set_cons_zero, List.set_cons_succ])
              obtain ⟨g15, hg15⟩ : ∃ g, v1.heap.size = g := ⟨_, rfl⟩
              rw [hg15] at RN15
              (try simp only [hg15])
              clear hg15
              generalize v1.alloc (.cells #[.int .i64 a, .int .i64 b, .int .i64 o, .int .i64 e] 48) = v15 at *
              refine Reg.step 12 rfl (by kernel_rfl) (by rfl) (fun K hK => ?_)
              go_simp
              refine (HE v15 (HR.out.below L15.out)).out.mono ?_
              rintro en v17 ⟨rfl, hb⟩
              have L17 := Lib.hid (L15.out.trans (hb.mono L15.out.size))
              have Q17 := Lib.hid (Cells.below Q15.out hb)
              have FP18 : Hid (RowL v17 B1 m1 d1 (partsS l 0 a)) := RowS.below FP16.out hb
              have FN18 : Hid (RowL v17 (some ⟨g15, 0, none⟩) 1 1 [⟨a, b, o, e⟩]) := RowS.below RN15.out hb
              clear hb
              have hq17 := OneBox.cells Q17.out
              refine hK.out _ _ hq17 (fun hHeld17 => ?_)
              clear hK K hq17
              (try simp only [Act.put, List.setIfInBounds_toArray, List.set_cons_zero, List.set_cons_succ])
              refine Reg.step 13 rfl (by kernel_rfl) (by rfl) (fun K hK => ?_)
              go_simp
              refine (HPB v17 (HR.out.below L17.out)).out.mono ?_
              rintro en v19 ⟨⟨B19, m19, d19, rfl, hm19, hO⟩, hb⟩
              have L19 := Lib.hid (L17.out.trans (hb.mono L17.out.size))
              have Q19 := Lib.hid (Cells.below Q17.out hb)
              have FP20 : Hid (RowL v19 B1 m1 d1 (partsS l 0 a)) := RowS.below FP18.out hb
              have FN20 : Hid (RowL v19 (some ⟨g15, 0, none⟩) 1 1 [⟨a, b, o, e⟩]) := RowS.below FN18.out hb
              have RR19 := Lib.hid (OwnsL.row hO (by omega))
              clear hO
              clear hb
              have hq19 := OneBox.cells Q19.out
              refine hK.out _ _ hq19 (fun hHeld19 => ?_)
              clear hK K hq19
              (try simp only [Act.put, List.setIfInBounds_toArray, List.set_cons_zero, List.set_cons_succ])
              refine Reg.step 14 rfl (by kernel_rfl) (by rfl) (fun K hK => ?_)
              have LT : Hid (Below w.heap.size w (v19.alloc (.cells #[.slice B1 m1 d1, .slice (some ⟨g15, 0, none⟩) 1 1, .slice B19 m19 d19] 28))) := L19.out.alloc L19.out.size _
              have QT : Hid (OneBox (v19.alloc (.cells #[.slice B1 m1 d1, .slice (some ⟨g15, 0, none⟩) 1 1, .slice B19 m19 d19] 28)) w.heap.size 3 (.int .i64 e)) := Cells.alloc Q19.out _
              have RW : Hid (Row Piece.val (v19.alloc (.cells #[.slice B1 m1 d1, .slice (some ⟨g15, 0, none⟩) 1 1, .slice B19 m19 d19] 28)) (some ⟨v19.heap.size, 0, none⟩) 3 3 [⟨B1, m1, d1, partsS l 0 a⟩, ⟨some ⟨g15, 0, none⟩, 1, 1, [⟨a, b, o, e⟩]⟩, ⟨B19, m19, d19, partsS l b N⟩]) := row_three (Cells.new _ _ _)
              have T1 : Hid (RowL (v19.alloc (.cells #[.slice B1 m1 d1, .slice (some ⟨g15, 0, none⟩) 1 1, .slice B19 m19 d19] 28)) B1 m1 d1 (partsS l 0 a)) := RowS.alloc FP20.out _
              have T2 : Hid (RowL (v19.alloc (.cells #[.slice B1 m1 d1, .slice (some ⟨g15, 0, none⟩) 1 1, .slice B19 m19 d19] 28)) (some ⟨g15, 0, none⟩) 1 1 [⟨a, b, o, e⟩]) := RowS.alloc FN20.out _
              have T3 : Hid (RowL (v19.alloc (.cells #[.slice B1 m1 d1, .slice (some ⟨g15, 0, none⟩) 1 1, .slice B19 m19 d19] 28)) B19 m19 d19 (partsS l b N)) := RowS.alloc RR19.out _
              have hqt := OneBox.cells QT.out
              go_simp
              refine hK.out _ _ hqt (fun hHeldT => ?_)
              clear hK K hqt
              (try simp only [Act.put, List.setIfInBounds_toArray, List.set_cons_zero, List.set_cons_succ])
              obtain ⟨gt, hgt⟩ : ∃ g, v19.heap.size = g := ⟨_, rfl⟩
              rw [hgt] at RW
              (try simp only [hgt])
              clear hgt
              generalize v19.alloc (.cells #[.slice B1 m1 d1, .slice (some ⟨g15, 0, none⟩) 1 1, .slice B19 m19 d19] 28) = vt at *
              have HCC := Lib.hid (concat_any RW.out (by intro p hp; simp at hp; rcases hp with rfl | rfl | rfl; exact T1.out; exact T2.out; exact T3.out) (by simp [total]; omega))
              refine Reg.step 15 rfl (by kernel_rfl) (by rfl) (fun K hK => ?_)
              go_simp
              refine HCC.out.mono ?_
              rintro en vu ⟨⟨X, j, f, rfl, hO⟩, hb⟩
              have LU := Lib.hid (LT.out.trans (hb.mono LT.out.size))
              have QU := Lib.hid (Cells.below QT.out hb)
              have HJL : Hid (j ≤ 900000) := by
                show _ ≤ _
                rw [← hO.2]; have h1 := T1.out.len; have h3 := T3.out.len; simp [joined, h1, h3]; omega
              have XU := Lib.hid (OwnsL.row hO (by have := HJL.out; omega))
              have hjo : joined [⟨B1, m1, d1, partsS l 0 a⟩, ⟨some ⟨g15, 0, none⟩, 1, 1, [⟨a, b, o, e⟩]⟩, ⟨B19, m19, d19, partsS l b N⟩] = partsS l 0 a ++ [⟨a, b, o, e⟩] ++ partsS l b N := by simp [joined]
              rw [hjo] at XU
              clear hb hO HCC hjo
              have hqu := OneBox.cells QU.out
              refine hK.out _ _ hqu (fun hHeldU => ?_)
              clear hK K hqu
              (try simp only [Act.put, List.setIfInBounds_toArray, List.set_cons_zero, List.set_cons_succ])
              have HJO := Lib.hid (joined_any XU.out (by have := HJL.out; omega))
              refine Reg.step 16 rfl (by kernel_rfl) (by rfl) (fun K hK => ?_)
              go_simp
              refine HJO.out.mono ?_
              rintro en vx ⟨⟨Y, i, p, rfl, hi, hO⟩, hb⟩
              have LX := Lib.hid (LU.out.trans (hb.mono LU.out.size))
              have QX := Lib.hid (Cells.below QU.out hb)
              have OX := Lib.hid (hO.mono LU.out.size)
              have HI : Hid (i ≤ 900000) := by have := HJL.out; show i ≤ 900000; omega
              clear hb hO hi HJO
              have hqx := OneBox.cells QX.out
              refine hK.out _ _ hqx (fun hHeldX => ?_)
              clear hK K hqx
              (try simp only [Act.put, List.setIfInBounds_toArray, List.set_cons_zero, List.set_cons_succ])
              (first | (refine Reg.take 17 (v := ?_) rfl (by kernel_rfl) (by kernel_rfl) (by kernel_rfl) (fun _ _ _ h => h) (Or.inl ⟨by rfl, ?_⟩) (by assumption) ?_; rotate_left; (focus ((intro W hSW); (try dsimp only at hSW); (try go_split_ands); go_simp; (try (with_reducible rfl)); done))) | (refine Reg.take 17 (v := undef) rfl (by kernel_rfl) (by kernel_rfl) (by kernel_rfl) (fun _ _ _ h => h) (Or.inr ⟨by rfl, rfl⟩) (by assumption) ?_))
              (try simp only [Act.put, List.setIfInBounds_toArray, List.set_cons_zero, List.set_cons_succ])
              (first | (refine Reg.take 18 (v := ?_) rfl (by kernel_rfl) (by kernel_rfl) (by kernel_rfl) (fun _ _ _ h => h) (Or.inl ⟨by rfl, ?_⟩) (by assumption) ?_; rotate_left; (focus ((intro W hSW); (try dsimp only at hSW); (try go_split_ands); go_simp; (try (with_reducible rfl)); done))) | (refine Reg.take 18 (v := undef) rfl (by kernel_rfl) (by kernel_rfl) (by kernel_rfl) (fun _ _ _ h => h) (Or.inr ⟨by rfl, rfl⟩) (by assumption) ?_))
              (try simp only [Act.put, List.setIfInBounds_toArray, List.set_cons_zero, List.set_cons_succ])
              refine wpAnyH_done (by kernel_rfl) ?_ _
              go_wp2_with fail
              go_ret2
              exact FIN.out _ _ _ _ LX.out OX.out HI.out
            · go_simp
              refine (HE v1 (HR.out.below L1.out)).out.mono ?_
              rintro en v3 ⟨rfl, hb⟩
              have L3 := Lib.hid (L1.out.trans (hb.mono L1.out.size))
              have Q3 := Lib.hid (Cells.below Q1.out hb)
              have FP4 : Hid (RowL v3 B1 m1 d1 (partsS l 0 a)) := RowS.below RP1.out hb
              clear hb
              have hq3 := OneBox.cells Q3.out
              refine hK.out _ _ hq3 (fun hHeld3 => ?_)
              clear hK K hq3
              (try simp only [Act.put, List.setIfInBounds_toArray, List.set_cons_zero, List.set_cons_succ])
              refine Reg.step2 8 13 rfl rfl (by kernel_rfl) (by rfl) (by rfl) (fun K hK => ?_) (fun K hK => ?_)
              · have L10 : Hid (Below w.heap.size w (v3.alloc (.cells #[.int .i64 a, .int .i64 b, .int .i64 o, .int .i64 e] 48))) := L3.out.alloc L3.out.size _
                have Q10 : Hid (OneBox (v3.alloc (.cells #[.int .i64 a, .int .i64 b, .int .i64 o, .int .i64 e] 48)) w.heap.size 3 (.int .i64 e)) := Cells.alloc Q3.out _
                have FP11 : Hid (RowL (v3.alloc (.cells #[.int .i64 a, .int .i64 b, .int .i64 o, .int .i64 e] 48)) B1 m1 d1 (partsS l 0 a)) := RowS.alloc FP4.out _
                have RN10 : Hid (RowL (v3.alloc (.cells #[.int .i64 a, .int .i64 b, .int .i64 o, .int .i64 e] 48)) (some ⟨v3.heap.size, 0, none⟩) 1 1 [⟨a, b, o, e⟩]) := RowS.one (x := ⟨a, b, o, e⟩) (Cells.new _ _ _)
                have hq10 := OneBox.cells Q10.out
                go_simp
                refine hK.out _ _ hq10 (fun hHeld10 => ?_)
                clear hK K hq10
                (try simp only [Act.put, List.setIfInBounds_toArray, List.set_cons_zero, List.set_cons_succ])
                obtain ⟨g10, hg10⟩ : ∃ g, v3.heap.size = g := ⟨_, rfl⟩
                rw [hg10] at RN10
                (try simp only [hg10])
                clear hg10
                generalize v3.alloc (.cells #[.int .i64 a, .int .i64 b, .int .i64 o, .int .i64 e] 48) = v10 at *
                refine Reg.step 13 rfl (by kernel_rfl) (by rfl) (fun K hK => ?_)
                go_simp
                refine (HPB v10 (HR.out.below L10.out)).out.mono ?_
                rintro en v12 ⟨⟨B12, m12, d12, rfl, hm12, hO⟩, hb⟩
                have L12 := Lib.hid (L10.out.trans (hb.mono L10.out.size))
                have Q12 := Lib.hid (Cells.below Q10.out hb)
                have FP13 : Hid (RowL v12 B1 m1 d1 (partsS l 0 a)) := RowS.below FP11.out hb
                have FN13 : Hid (RowL v12 (some ⟨g10, 0, none⟩) 1 1 [⟨a, b, o, e⟩]) := RowS.below RN10.out hb
                have RR12 := Lib.hid (OwnsL.row hO (by omega))
                clear hO
                clear hb
                have hq12 := OneBox.cells Q12.out
                refine hK.out _ _ hq12 (fun hHeld12 => ?_)
                clear hK K hq12
                (try simp only [Act.put, List.setIfInBounds_toArray, List.set_cons_zero, List.set_cons_succ])
                refine Reg.step 14 rfl (by kernel_rfl) (by rfl) (fun K hK => ?_)
                have LT : Hid (Below w.heap.size w (v12.alloc (.cells #[.slice B1 m1 d1, .slice (some ⟨g10, 0, none⟩) 1 1, .slice B12 m12 d12] 28))) := L12.out.alloc L12.out.size _
                have QT : Hid (OneBox (v12.alloc (.cells #[.slice B1 m1 d1, .slice (some ⟨g10, 0, none⟩) 1 1, .slice B12 m12 d12] 28)) w.heap.size 3 (.int .i64 e)) := Cells.alloc Q12.out _
                have RW : Hid (Row Piece.val (v12.alloc (.cells #[.slice B1 m1 d1, .slice (some ⟨g10, 0, none⟩) 1 1, .slice B12 m12 d12] 28)) (some ⟨v12.heap.size, 0, none⟩) 3 3 [⟨B1, m1, d1, partsS l 0 a⟩, ⟨some ⟨g10, 0, none⟩, 1, 1, [⟨a, b, o, e⟩]⟩, ⟨B12, m12, d12, partsS l b N⟩]) := row_three (Cells.new _ _ _)
                have T1 : Hid (RowL (v12.alloc (.cells #[.slice B1 m1 d1, .slice (some ⟨g10, 0, none⟩) 1 1, .slice B12 m12 d12] 28)) B1 m1 d1 (partsS l 0 a)) := RowS.alloc FP13.out _
                have T2 : Hid (RowL (v12.alloc (.cells #[.slice B1 m1 d1, .slice (some ⟨g10, 0, none⟩) 1 1, .slice B12 m12 d12] 28)) (some ⟨g10, 0, none⟩) 1 1 [⟨a, b, o, e⟩]) := RowS.alloc FN13.out _
                have T3 : Hid (RowL (v12.alloc (.cells #[.slice B1 m1 d1, .slice (some ⟨g10, 0, none⟩) 1 1, .slice B12 m12 d12] 28)) B12 m12 d12 (partsS l b N)) := RowS.alloc RR12.out _
                have hqt := OneBox.cells QT.out
                go_simp
                refine hK.out _ _ hqt (fun hHeldT => ?_)
                clear hK K hqt
                (try simp only [Act.put, List.setIfInBounds_toArray, List.set_cons_zero, List.set_cons_succ])
                obtain ⟨gt, hgt⟩ : ∃ g, v12.heap.size = g := ⟨_, rfl⟩
                rw [hgt] at RW
                (try simp only [hgt])
                clear hgt
                generalize v12.alloc (.cells #[.slice B1 m1 d1, .slice (some ⟨g10, 0, none⟩) 1 1, .slice B12 m12 d12] 28) = vt at *
                have HCC := Lib.hid (concat_any RW.out (by intro p hp; simp at hp; rcases hp with rfl | rfl | rfl; exact T1.out; exact T2.out; exact T3.out) (by simp [total]; omega))
                refine Reg.step 15 rfl (by kernel_rfl) (by rfl) (fun K hK => ?_)
                go_simp
                refine HCC.out.mono ?_
                rintro en vu ⟨⟨X, j, f, rfl, hO⟩, hb⟩
                have LU := Lib.hid (LT.out.trans (hb.mono LT.out.size))
                have QU := Lib.hid (Cells.below QT.out hb)
                have HJL : Hid (j ≤ 900000) := by
                  show _ ≤ _
                  rw [← hO.2]; have h1 := T1.out.len; have h3 := T3.out.len; simp [joined, h1, h3]; omega
                have XU := Lib.hid (OwnsL.row hO (by have := HJL.out; omega))
                have hjo : joined [⟨B1, m1, d1, partsS l 0 a⟩, ⟨some ⟨g10, 0, none⟩, 1, 1, [⟨a, b, o, e⟩]⟩, ⟨B12, m12, d12, partsS l b N⟩] = partsS l 0 a ++ [⟨a, b, o, e⟩] ++ partsS l b N := by simp [joined]
                rw [hjo] at XU
                clear hb hO HCC hjo
                have hqu := OneBox.cells QU.out
                refine hK.out _ _ hqu (fun hHeldU => ?_)
                clear hK K hqu
                (try simp only [Act.put, List.setIfInBounds_toArray, List.set_cons_zero, List.set_cons_succ])
                have HJO := Lib.hid (joined_any XU.out (by have := HJL.out; omega))
                refine Reg.step 16 rfl (by kernel_rfl) (by rfl) (fun K hK => ?_)
                go_simp
                refine HJO.out.mono ?_
                rintro en vx ⟨⟨Y, i, p, rfl, hi, hO⟩, hb⟩
                have LX := Lib.hid (LU.out.trans (hb.mono LU.out.size))
                have QX := Lib.hid (Cells.below QU.out hb)
                have OX := Lib.hid (hO.mono LU.out.size)
                have HI : Hid (i ≤ 900000) := by have := HJL.out; show i ≤ 900000; omega
                clear hb hO hi HJO
                have hqx := OneBox.cells QX.out
                refine hK.out _ _ hqx (fun hHeldX => ?_)
                clear hK K hqx
                (try simp only [Act.put, List.setIfInBounds_toArray, List.set_cons_zero, List.set_cons_succ])
                (first | (refine Reg.take 17 (v := ?_) rfl (by kernel_rfl) (by kernel_rfl) (by kernel_rfl) (fun _ _ _ h => h) (Or.inl ⟨by rfl, ?_⟩) (by assumption) ?_; rotate_left; (focus ((intro W hSW); (try dsimp only at hSW); (try go_split_ands); go_simp; (try (with_reducible rfl)); done))) | (refine Reg.take 17 (v := undef) rfl (by kernel_rfl) (by kernel_rfl) (by kernel_rfl) (fun _ _ _ h => h) (Or.inr ⟨by rfl, rfl⟩) (by assumption) ?_))
                (try simp only [Act.put, List.setIfInBounds_toArray, List.set_cons_zero, List.set_cons_succ])
                (first | (refine Reg.take 18 (v := ?_) rfl (by kernel_rfl) (by kernel_rfl) (by kernel_rfl) (fun _ _ _ h => h) (Or.inl ⟨by rfl, ?_⟩) (by assumption) ?_; rotate_left; (focus ((intro W hSW); (try dsimp only at hSW); (try go_split_ands); go_simp; (try (with_reducible rfl)); done))) | (refine Reg.take 18 (v := undef) rfl (by kernel_rfl) (by kernel_rfl) (by kernel_rfl) (fun _ _ _ h => h) (Or.inr ⟨by rfl, rfl⟩) (by assumption) ?_))
                (try simp only [Act.put, List.setIfInBounds_toArray, List.set_cons_zero, List.set_cons_succ])
                refine wpAnyH_done (by kernel_rfl) ?_ _
                go_wp2_with fail
                go_ret2
                exact FIN.out _ _ _ _ LX.out OX.out HI.out
              · go_simp
                refine (HPB v3 (HR.out.below L3.out)).out.mono ?_
                rintro en v5 ⟨⟨B5, m5, d5, rfl, hm5, hO⟩, hb⟩
                have L5 := Lib.hid (L3.out.trans (hb.mono L3.out.size))
                have Q5 := Lib.hid (Cells.below Q3.out hb)
                have FP6 : Hid (RowL v5 B1 m1 d1 (partsS l 0 a)) := RowS.below FP4.out hb
                have RR5 := Lib.hid (OwnsL.row hO (by omega))
                clear hO
                clear hb
                have hq5 := OneBox.cells Q5.out
                refine hK.out _ _ hq5 (fun hHeld5 => ?_)
                clear hK K hq5
                (try simp only [Act.put, List.setIfInBounds_toArray, List.set_cons_zero, List.set_cons_succ])
                refine Reg.step 8 rfl (by kernel_rfl) (by rfl) (fun K hK => ?_)
                have L7 : Hid (Below w.heap.size w (v5.alloc (.cells #[.int .i64 a, .int .i64 b, .int .i64 o, .int .i64 e] 48))) := L5.out.alloc L5.out.size _
                have Q7 : Hid (OneBox (v5.alloc (.cells #[.int .i64 a, .int .i64 b, .int .i64 o, .int .i64 e] 48)) w.heap.size 3 (.int .i64 e)) := Cells.alloc Q5.out _
                have FP8 : Hid (RowL (v5.alloc (.cells #[.int .i64 a, .int .i64 b, .int .i64 o, .int .i64 e] 48)) B1 m1 d1 (partsS l 0 a)) := RowS.alloc FP6.out _
                have FR8 : Hid (RowL (v5.alloc (.cells #[.int .i64 a, .int .i64 b, .int .i64 o, .int .i64 e] 48)) B5 m5 d5 (partsS l b N)) := RowS.alloc RR5.out _
                have RN7 : Hid (RowL (v5.alloc (.cells #[.int .i64 a, .int .i64 b, .int .i64 o, .int .i64 e] 48)) (some ⟨v5.heap.size, 0, none⟩) 1 1 [⟨a, b, o, e⟩]) := RowS.one (x := ⟨a, b, o, e⟩) (Cells.new _ _ _)
                have hq7 := OneBox.cells Q7.out
                go_simp
                refine hK.out _ _ hq7 (fun hHeld7 => ?_)
                clear hK K hq7
                (try simp only [Act.put, List.setIfInBounds_toArray, List.set_cons_zero, List.set_cons_succ])
                obtain ⟨g7, hg7⟩ : ∃ g, v5.heap.size = g := ⟨_, rfl⟩
                rw [hg7] at RN7
                (try simp only [hg7])
                clear hg7
                generalize v5.alloc (.cells #[.int .i64 a, .int .i64 b, .int .i64 o, .int .i64 e] 48) = v7 at *
                refine Reg.step 14 rfl (by kernel_rfl) (by rfl) (fun K hK => ?_)
                have LT : Hid (Below w.heap.size w (v7.alloc (.cells #[.slice B1 m1 d1, .slice (some ⟨g7, 0, none⟩) 1 1, .slice B5 m5 d5] 28))) := L7.out.alloc L7.out.size _
                have QT : Hid (OneBox (v7.alloc (.cells #[.slice B1 m1 d1, .slice (some ⟨g7, 0, none⟩) 1 1, .slice B5 m5 d5] 28)) w.heap.size 3 (.int .i64 e)) := Cells.alloc Q7.out _
                have RW : Hid (Row Piece.val (v7.alloc (.cells #[.slice B1 m1 d1, .slice (some ⟨g7, 0, none⟩) 1 1, .slice B5 m5 d5] 28)) (some ⟨v7.heap.size, 0, none⟩) 3 3 [⟨B1, m1, d1, partsS l 0 a⟩, ⟨some ⟨g7, 0, none⟩, 1, 1, [⟨a, b, o, e⟩]⟩, ⟨B5, m5, d5, partsS l b N⟩]) := row_three (Cells.new _ _ _)
                have T1 : Hid (RowL (v7.alloc (.cells #[.slice B1 m1 d1, .slice (some ⟨g7, 0, none⟩) 1 1, .slice B5 m5 d5] 28)) B1 m1 d1 (partsS l 0 a)) := RowS.alloc FP8.out _
                have T2 : Hid (RowL (v7.alloc (.cells #[.slice B1 m1 d1, .slice (some ⟨g7, 0, none⟩) 1 1, .slice B5 m5 d5] 28)) (some ⟨g7, 0, none⟩) 1 1 [⟨a, b, o, e⟩]) := RowS.alloc RN7.out _
                have T3 : Hid (RowL (v7.alloc (.cells #[.slice B1 m1 d1, .slice (some ⟨g7, 0, none⟩) 1 1, .slice B5 m5 d5] 28)) B5 m5 d5 (partsS l b N)) := RowS.alloc FR8.out _
                have hqt := OneBox.cells QT.out
                go_simp
                refine hK.out _ _ hqt (fun hHeldT => ?_)
                clear hK K hqt
                (try simp only [Act.put, List.setIfInBounds_toArray, List.set_cons_zero, List.set_cons_succ])
                obtain ⟨gt, hgt⟩ : ∃ g, v7.heap.size = g := ⟨_, rfl⟩
                rw [hgt] at RW
                (try simp only [hgt])
                clear hgt
                generalize v7.alloc (.cells #[.slice B1 m1 d1, .slice (some ⟨g7, 0, none⟩) 1 1, .slice B5 m5 d5] 28) = vt at *
                have HCC := Lib.hid (concat_any RW.out (by intro p hp; simp at hp; rcases hp with rfl | rfl | rfl; exact T1.out; exact T2.out; exact T3.out) (by simp [total]; omega))
                refine Reg.step 15 rfl (by kernel_rfl) (by rfl) (fun K hK => ?_)
                go_simp
                refine HCC.out.mono ?_
                rintro en vu ⟨⟨X, j, f, rfl, hO⟩, hb⟩
                have LU := Lib.hid (LT.out.trans (hb.mono LT.out.size))
                have QU := Lib.hid (Cells.below QT.out hb)
                have HJL : Hid (j ≤ 900000) := by
                  show _ ≤ _
                  rw [← hO.2]; have h1 := T1.out.len; have h3 := T3.out.len; simp [joined, h1, h3]; omega
                have XU := Lib.hid (OwnsL.row hO (by have := HJL.out; omega))
                have hjo : joined [⟨B1, m1, d1, partsS l 0 a⟩, ⟨some ⟨g7, 0, none⟩, 1, 1, [⟨a, b, o, e⟩]⟩, ⟨B5, m5, d5, partsS l b N⟩] = partsS l 0 a ++ [⟨a, b, o, e⟩] ++ partsS l b N := by simp [joined]
                rw [hjo] at XU
                clear hb hO HCC hjo
                have hqu := OneBox.cells QU.out
                refine hK.out _ _ hqu (fun hHeldU => ?_)
                clear hK K hqu
                (try simp only [Act.put, List.setIfInBounds_toArray, List.set_cons_zero, List.set_cons_succ])
                have HJO := Lib.hid (joined_any XU.out (by have := HJL.out; omega))
                refine Reg.step 16 rfl (by kernel_rfl) (by rfl) (fun K hK => ?_)
                go_simp
                refine HJO.out.mono ?_
                rintro en vx ⟨⟨Y, i, p, rfl, hi, hO⟩, hb⟩
                have LX := Lib.hid (LU.out.trans (hb.mono LU.out.size))
                have QX := Lib.hid (Cells.below QU.out hb)
                have OX := Lib.hid (hO.mono LU.out.size)
                have HI : Hid (i ≤ 900000) := by have := HJL.out; show i ≤ 900000; omega
                clear hb hO hi HJO
                have hqx := OneBox.cells QX.out
                refine hK.out _ _ hqx (fun hHeldX => ?_)
                clear hK K hqx
                (try simp only [Act.put, List.setIfInBounds_toArray, List.set_cons_zero, List.set_cons_succ])
                (first | (refine Reg.take 17 (v := ?_) rfl (by kernel_rfl) (by kernel_rfl) (by kernel_rfl) (fun _ _ _ h => h) (Or.inl ⟨by rfl, ?_⟩) (by assumption) ?_; rotate_left; (focus ((intro W hSW); (try dsimp only at hSW); (try go_split_ands); go_simp; (try (with_reducible rfl)); done))) | (refine Reg.take 17 (v := undef) rfl (by kernel_rfl) (by kernel_rfl) (by kernel_rfl) (fun _ _ _ h => h) (Or.inr ⟨by rfl, rfl⟩) (by assumption) ?_))
                (try simp only [Act.put, List.setIfInBounds_toArray, List.set_cons_zero, List.set_cons_succ])
                (first | (refine Reg.take 18 (v := ?_) rfl (by kernel_rfl) (by kernel_rfl) (by kernel_rfl) (fun _ _ _ h => h) (Or.inl ⟨by rfl, ?_⟩) (by assumption) ?_; rotate_left; (focus ((intro W hSW); (try dsimp only at hSW); (try go_split_ands); go_simp; (try (with_reducible rfl)); done))) | (refine Reg.take 18 (v := undef) rfl (by kernel_rfl) (by kernel_rfl) (by kernel_rfl) (fun _ _ _ h => h) (Or.inr ⟨by rfl, rfl⟩) (by assumption) ?_))
                (try simp only [Act.put, List.setIfInBounds_toArray, List.set_cons_zero, List.set_cons_succ])
                refine wpAnyH_done (by kernel_rfl) ?_ _
                go_wp2_with fail
                go_ret2
                exact FIN.out _ _ _ _ LX.out OX.out HI.out
          · have L22 : Hid (Below w.heap.size w (vz.alloc (.cells #[.int .i64 a, .int .i64 b, .int .i64 o, .int .i64 e] 48))) := LZ.out.alloc LZ.out.size _
            have Q22 : Hid (OneBox (vz.alloc (.cells #[.int .i64 a, .int .i64 b, .int .i64 o, .int .i64 e] 48)) w.heap.size 3 (.int .i64 e)) := Cells.alloc QZ.out _
            have RN22 : Hid (RowL (vz.alloc (.cells #[.int .i64 a, .int .i64 b, .int .i64 o, .int .i64 e] 48)) (some ⟨vz.heap.size, 0, none⟩) 1 1 [⟨a, b, o, e⟩]) := RowS.one (x := ⟨a, b, o, e⟩) (Cells.new _ _ _)
            have hq22 := OneBox.cells Q22.out
            go_simp
            refine hK.out _ _ hq22 (fun hHeld22 => ?_)
            clear hK K hq22
            (try simp only [Act.put, List.setIfInBounds_toArray, List.set_cons_zero, List.set_cons_succ])
            obtain ⟨g22, hg22⟩ : ∃ g, vz.heap.size = g := ⟨_, rfl⟩
            rw [hg22] at RN22
            (try simp only [hg22])
            clear hg22
            generalize vz.alloc (.cells #[.int .i64 a, .int .i64 b, .int .i64 o, .int .i64 e] 48) = v22 at *
            refine Reg.step 2 rfl (by kernel_rfl) (by rfl) (fun K hK => ?_)
            go_simp
            refine (HPA v22 (HR.out.below L22.out)).out.mono ?_
            rintro en v24 ⟨⟨B24, m24, d24, rfl, hm24, hO⟩, hb⟩
            have L24 := Lib.hid (L22.out.trans (hb.mono L22.out.size))
            have Q24 := Lib.hid (Cells.below Q22.out hb)
            have FN25 : Hid (RowL v24 (some ⟨g22, 0, none⟩) 1 1 [⟨a, b, o, e⟩]) := RowS.below RN22.out hb
            have RP24 := Lib.hid (OwnsL.row hO (by omega))
            clear hO
            clear hb
            have hq24 := OneBox.cells Q24.out
            refine hK.out _ _ hq24 (fun hHeld24 => ?_)
            clear hK K hq24
            (try simp only [Act.put, List.setIfInBounds_toArray, List.set_cons_zero, List.set_cons_succ])
            refine Reg.step 12 rfl (by kernel_rfl) (by rfl) (fun K hK => ?_)
            go_simp
            refine (HE v24 (HR.out.below L24.out)).out.mono ?_
            rintro en v26 ⟨rfl, hb⟩
            have L26 := Lib.hid (L24.out.trans (hb.mono L24.out.size))
            have Q26 := Lib.hid (Cells.below Q24.out hb)
            have FN27 : Hid (RowL v26 (some ⟨g22, 0, none⟩) 1 1 [⟨a, b, o, e⟩]) := RowS.below FN25.out hb
            have FP27 : Hid (RowL v26 B24 m24 d24 (partsS l 0 a)) := RowS.below RP24.out hb
            clear hb
            have hq26 := OneBox.cells Q26.out
            refine hK.out _ _ hq26 (fun hHeld26 => ?_)
            clear hK K hq26
            (try simp only [Act.put, List.setIfInBounds_toArray, List.set_cons_zero, List.set_cons_succ])
            refine Reg.step 13 rfl (by kernel_rfl) (by rfl) (fun K hK => ?_)
            go_simp
            refine (HPB v26 (HR.out.below L26.out)).out.mono ?_
            rintro en v28 ⟨⟨B28, m28, d28, rfl, hm28, hO⟩, hb⟩
            have L28 := Lib.hid (L26.out.trans (hb.mono L26.out.size))
            have Q28 := Lib.hid (Cells.below Q26.out hb)
            have FN29 : Hid (RowL v28 (some ⟨g22, 0, none⟩) 1 1 [⟨a, b, o, e⟩]) := RowS.below FN27.out hb
            have FP29 : Hid (RowL v28 B24 m24 d24 (partsS l 0 a)) := RowS.below FP27.out hb
            have RR28 := Lib.hid (OwnsL.row hO (by omega))
            clear hO
            clear hb
            have hq28 := OneBox.cells Q28.out
            refine hK.out _ _ hq28 (fun hHeld28 => ?_)
            clear hK K hq28
            (try simp only [Act.put, List.setIfInBounds_toArray, List.set_cons_zero, List.set_cons_succ])
            refine Reg.step 14 rfl (by kernel_rfl) (by rfl) (fun K hK => ?_)
            have LT : Hid (Below w.heap.size w (v28.alloc (.cells #[.slice B24 m24 d24, .slice (some ⟨g22, 0, none⟩) 1 1, .slice B28 m28 d28] 28))) := L28.out.alloc L28.out.size _
            have QT : Hid (OneBox (v28.alloc (.cells #[.slice B24 m24 d24, .slice (some ⟨g22, 0, none⟩) 1 1, .slice B28 m28 d28] 28)) w.heap.size 3 (.int .i64 e)) := Cells.alloc Q28.out _
            have RW : Hid (Row Piece.val (v28.alloc (.cells #[.slice B24 m24 d24, .slice (some ⟨g22, 0, none⟩) 1 1, .slice B28 m28 d28] 28)) (some ⟨v28.heap.size, 0, none⟩) 3 3 [⟨B24, m24, d24, partsS l 0 a⟩, ⟨some ⟨g22, 0, none⟩, 1, 1, [⟨a, b, o, e⟩]⟩, ⟨B28, m28, d28, partsS l b N⟩]) := row_three (Cells.new _ _ _)
            have T1 : Hid (RowL (v28.alloc (.cells #[.slice B24 m24 d24, .slice (some ⟨g22, 0, none⟩) 1 1, .slice B28 m28 d28] 28)) B24 m24 d24 (partsS l 0 a)) := RowS.alloc FP29.out _
            have T2 : Hid (RowL (v28.alloc (.cells #[.slice B24 m24 d24, .slice (some ⟨g22, 0, none⟩) 1 1, .slice B28 m28 d28] 28)) (some ⟨g22, 0, none⟩) 1 1 [⟨a, b, o, e⟩]) := RowS.alloc FN29.out _
            have T3 : Hid (RowL (v28.alloc (.cells #[.slice B24 m24 d24, .slice (some ⟨g22, 0, none⟩) 1 1, .slice B28 m28 d28] 28)) B28 m28 d28 (partsS l b N)) := RowS.alloc RR28.out _
            have hqt := OneBox.cells QT.out
            go_simp
            refine hK.out _ _ hqt (fun hHeldT => ?_)
            clear hK K hqt
            (try simp only [Act.put, List.setIfInBounds_toArray, List.set_cons_zero, List.set_cons_succ])
            obtain ⟨gt, hgt⟩ : ∃ g, v28.heap.size = g := ⟨_, rfl⟩
            rw [hgt] at RW
            (try simp only [hgt])
            clear hgt
            generalize v28.alloc (.cells #[.slice B24 m24 d24, .slice (some ⟨g22, 0, none⟩) 1 1, .slice B28 m28 d28] 28) = vt at *
            have HCC := Lib.hid (concat_any RW.out (by intro p hp; simp at hp; rcases hp with rfl | rfl | rfl; exact T1.out; exact T2.out; exact T3.out) (by simp [total]; omega))
            refine Reg.step 15 rfl (by kernel_rfl) (by rfl) (fun K hK => ?_)
            go_simp
            refine HCC.out.mono ?_
            rintro en vu ⟨⟨X, j, f, rfl, hO⟩, hb⟩
            have LU := Lib.hid (LT.out.trans (hb.mono LT.out.size))
            have QU := Lib.hid (Cells.below QT.out hb)
            have HJL : Hid (j ≤ 900000) := by
              show _ ≤ _
              rw [← hO.2]; have h1 := T1.out.len; have h3 := T3.out.len; simp [joined, h1, h3]; omega
            have XU := Lib.hid (OwnsL.row hO (by have := HJL.out; omega))
            have hjo : joined [⟨B24, m24, d24, partsS l 0 a⟩, ⟨some ⟨g22, 0, none⟩, 1, 1, [⟨a, b, o, e⟩]⟩, ⟨B28, m28, d28, partsS l b N⟩] = partsS l 0 a ++ [⟨a, b, o, e⟩] ++ partsS l b N := by simp [joined]
            rw [hjo] at XU
            clear hb hO HCC hjo
            have hqu := OneBox.cells QU.out
            refine hK.out _ _ hqu (fun hHeldU => ?_)
            clear hK K hqu
            (try simp only [Act.put, List.setIfInBounds_toArray, List.set_cons_zero, List.set_cons_succ])
            have HJO := Lib.hid (joined_any XU.out (by have := HJL.out; omega))
            refine Reg.step 16 rfl (by kernel_rfl) (by rfl) (fun K hK => ?_)
            go_simp
            refine HJO.out.mono ?_
            rintro en vx ⟨⟨Y, i, p, rfl, hi, hO⟩, hb⟩
            have LX := Lib.hid (LU.out.trans (hb.mono LU.out.size))
            have QX := Lib.hid (Cells.below QU.out hb)
            have OX := Lib.hid (hO.mono LU.out.size)
            have HI : Hid (i ≤ 900000) := by have := HJL.out; show i ≤ 900000; omega
            clear hb hO hi HJO
            have hqx := OneBox.cells QX.out
            refine hK.out _ _ hqx (fun hHeldX => ?_)
            clear hK K hqx
            (try simp only [Act.put, List.setIfInBounds_toArray, List.set_cons_zero, List.set_cons_succ])
            (first | (refine Reg.take 17 (v := ?_) rfl (by kernel_rfl) (by kernel_rfl) (by kernel_rfl) (fun _ _ _ h => h) (Or.inl ⟨by rfl, ?_⟩) (by assumption) ?_; rotate_left; (focus ((intro W hSW); (try dsimp only at hSW); (try go_split_ands); go_simp; (try (with_reducible rfl)); done))) | (refine Reg.take 17 (v := undef) rfl (by kernel_rfl) (by kernel_rfl) (by kernel_rfl) (fun _ _ _ h => h) (Or.inr ⟨by rfl, rfl⟩) (by assumption) ?_))
            (try simp only [Act.put, List.setIfInBounds_toArray, List.set_cons_zero, List.set_cons_succ])
            (first | (refine Reg.take 18 (v := ?_) rfl (by kernel_rfl) (by kernel_rfl) (by kernel_rfl) (fun _ _ _ h => h) (Or.inl ⟨by rfl, ?_⟩) (by assumption) ?_; rotate_left; (focus ((intro W hSW); (try dsimp only at hSW); (try go_split_ands); go_simp; (try (with_reducible rfl)); done))) | (refine Reg.take 18 (v := undef) rfl (by kernel_rfl) (by kernel_rfl) (by kernel_rfl) (fun _ _ _ h => h) (Or.inr ⟨by rfl, rfl⟩) (by assumption) ?_))
            (try simp only [Act.put, List.setIfInBounds_toArray, List.set_cons_zero, List.set_cons_succ])
            refine wpAnyH_done (by kernel_rfl) ?_ _
            go_wp2_with fail
            go_ret2
            exact FIN.out _ _ _ _ LX.out OX.out HI.out
        · rw [cond_true] at HG
          go_wp2_with fail
          go_ret2
          rw [HG.out]
          exact GaveS.none_ LY.out
end Spa
end Go.Proofs.YtmflngclncidjaaGreat
