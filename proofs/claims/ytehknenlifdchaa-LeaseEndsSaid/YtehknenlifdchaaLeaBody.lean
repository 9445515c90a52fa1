/-
  A WALK: body. (Written by gen_leabody.py.)
-/
import Derived.Test.YtehknenlifdchaaLeaBox
namespace Go.Proofs.Ytehknenlifdchaa
open Go.RowKit Mem
namespace Lea

set_option maxRecDepth 100000 in
set_option maxHeartbeats 25600000 in
theorem body_any {last now : Int} {A : Option Addr} {n c : Nat} {l : List Lv} {w : World} (o : Ov) (h : RowL w A n c l) (hn : n ≤ 900000)
    (hwl : okT ⟨last, now, l⟩ = true → IntKind.i64.wrap (last + 1) = last + 1) (hwt : okT ⟨last, now, l⟩ = true → ttlB o.c = true → IntKind.i64.wrap (now + o.c) = now + o.c) :
    Calls Try.prog 12 #[tv last now A n c, ov o] w (GaveTL w (bodyP ⟨last, now, l⟩ o).1 (bodyP ⟨last, now, l⟩ o).2.1 (bodyP ⟨last, now, l⟩ o).2.2) := by
  obtain ⟨d, a, b, cc, ee⟩ := o
  have HR := Lib.hid h
  have hbig := h.big
  have HT := fun w (h : RowL w A n c l) => Lib.hid (tick_any (last := last) (now := now) a h (by omega))
  have HG := fun w (h : RowL w A n c l) => Lib.hid (grant_any (last := last) (now := now) a b cc h hn (fun hg => hwl (by unfold grantOk at hg; simp only [Bool.and_eq_true] at hg; exact hg.1)) (fun hg => by unfold grantOk at hg; simp only [Bool.and_eq_true] at hg; exact hwt hg.1 hg.2.2.2))
  have HN := fun w (h : RowL w A n c l) => Lib.hid (renew_any (last := last) (now := now) a b ee cc h (by omega) hwt)
  have HV := fun w (h : RowL w A n c l) => Lib.hid (revoke_any (last := last) (now := now) a h (by omega))
  have HH := fun w (h : RowL w A n c l) => Lib.hid (holder_any (last := last) (now := now) a h (by omega))
  have L1 : Hid (Below w.heap.size w (((w.alloc (.cells #[.int .i64 last, .int .i64 now, .slice A n c] 24)).alloc (.cells #[.int .i64 d, .int .i64 a, .int .i64 b, .int .i64 cc, .int .i64 ee] 30)).alloc (.cells #[.int .i64 0, .int .i64 0, .slice none 0 0] 24))) := (((Below.refl w.heap.size w).alloc (Nat.le_refl _) _).alloc (by simp) _).alloc (by simp; omega) _
  have B1 : Hid (TBox (((w.alloc (.cells #[.int .i64 last, .int .i64 now, .slice A n c] 24)).alloc (.cells #[.int .i64 d, .int .i64 a, .int .i64 b, .int .i64 cc, .int .i64 ee] 30)).alloc (.cells #[.int .i64 0, .int .i64 0, .slice none 0 0] 24)) w.heap.size last now A n c) := Cells.alloc (Cells.alloc (Cells.new w _ _) _) _
  have O1 : Hid (OBox (((w.alloc (.cells #[.int .i64 last, .int .i64 now, .slice A n c] 24)).alloc (.cells #[.int .i64 d, .int .i64 a, .int .i64 b, .int .i64 cc, .int .i64 ee] 30)).alloc (.cells #[.int .i64 0, .int .i64 0, .slice none 0 0] 24)) (w.heap.size + 1) ⟨d, a, b, cc, ee⟩) := Cells.alloc (by have := Cells.new (w.alloc (.cells #[.int .i64 last, .int .i64 now, .slice A n c] 24)) #[.int .i64 d, .int .i64 a, .int .i64 b, .int .i64 cc, .int .i64 ee] 30; simpa using this) _
  have N1 : Hid (TBox (((w.alloc (.cells #[.int .i64 last, .int .i64 now, .slice A n c] 24)).alloc (.cells #[.int .i64 d, .int .i64 a, .int .i64 b, .int .i64 cc, .int .i64 ee] 30)).alloc (.cells #[.int .i64 0, .int .i64 0, .slice none 0 0] 24)) (w.heap.size + 2) 0 0 none 0 0) := by
    have := Cells.new ((w.alloc (.cells #[.int .i64 last, .int .i64 now, .slice A n c] 24)).alloc (.cells #[.int .i64 d, .int .i64 a, .int .i64 b, .int .i64 cc, .int .i64 ee] 30)) #[.int .i64 0, .int .i64 0, .slice none 0 0] 24
    exact (by simpa using this : Cells _ (w.heap.size + 1 + 1) _ _)
  clear h hwl hwt
  unfold bodyP
  simp only
  rcases e0 : (d == 0)
  · rcases e1 : (d == 1)
    · rcases e2 : (d == 2)
      · rcases e3 : (d == 3)
        · simp only [cond_false]
          rcases hP : holdP ⟨last, now, l⟩ a with ⟨x, b⟩
          rw [hP] at HH
          obtain ⟨xk, xh, xe, xu⟩ := x
          clear HT HG HN HV
          rcases b
          · simp only [cond_false]
            go_enter Try.func12, Try.ntmps12
            go_upto_region 1 with fail
            generalize ((w.alloc (.cells #[.int .i64 last, .int .i64 now, .slice A n c] 24)).alloc (.cells #[.int .i64 d, .int .i64 a, .int .i64 b, .int .i64 cc, .int .i64 ee] 30)).alloc (.cells #[.int .i64 0, .int .i64 0, .slice none 0 0] 24) = w1 at *
            obtain ⟨m0, m1, m2⟩ := TBox.cells B1.out
            obtain ⟨o0, o1, o2, o3, o4⟩ := OBox.cells O1.out
            go_wp2_with fail
            refine (HH w1 (HR.out.below L1.out)).out.mono ?_
            rintro e w2 ⟨rfl, hb⟩
            have L2 := Lib.hid (L1.out.trans (hb.mono L1.out.size))
            have N2 := Lib.hid (Cells.below N1.out hb)
            have B2 := Lib.hid (Cells.below B1.out hb)
            have R2 := Lib.hid (HR.out.below L2.out)
            clear hb m0 m1 m2 o0 o1 o2 o3 o4 B1 N1 L1 O1
            have L3 : Hid (Below w.heap.size w (w2.alloc (.cells #[.int .i64 xk, .int .i64 xh, .int .i64 xe, .int .i64 xu] 43))) := L2.out.alloc L2.out.size _
            have B3 : Hid (TBox (w2.alloc (.cells #[.int .i64 xk, .int .i64 xh, .int .i64 xe, .int .i64 xu] 43)) w.heap.size last now A n c) := Cells.alloc B2.out _
            have N3 : Hid (TBox (w2.alloc (.cells #[.int .i64 xk, .int .i64 xh, .int .i64 xe, .int .i64 xu] 43)) (w.heap.size + 2) 0 0 none 0 0) := Cells.alloc N2.out _
            have R3 : Hid (RowL (w2.alloc (.cells #[.int .i64 xk, .int .i64 xh, .int .i64 xe, .int .i64 xu] 43)) A n c l) := RowS.alloc R2.out _
            go_upto_region 14 with fail
            generalize w2.alloc (.cells #[.int .i64 xk, .int .i64 xh, .int .i64 xe, .int .i64 xu] 43) = w3 at *
            obtain ⟨m0, m1, m2⟩ := TBox.cells B3.out
            obtain ⟨z0, z1, z2⟩ := TBox.cells N3.out
            obtain ⟨f0, f1, f2⟩ := TBox.frozen N3.out
            go_wp2_with fail
            refine bodyPost_ret_by (results_c2 rfl _ _ (w.heap.size + 2) _ _ _ _ rfl (Cells.set3 N3.out (.int .i64 last) (.int .i64 now) (.slice A n c)) Try.underlying24 rfl (by kernel_rfl)) rfl ?_
            have hl := HR.out.len
            subst hl
            exact ⟨A, c, none, 0, rfl, RowS.keep3 R3.out N3.out _ _ _, RowS.nil _ _ _, below3 L3.out (by omega) _ _ _⟩
          · simp only [cond_true]
            go_enter Try.func12, Try.ntmps12
            go_upto_region 1 with fail
            generalize ((w.alloc (.cells #[.int .i64 last, .int .i64 now, .slice A n c] 24)).alloc (.cells #[.int .i64 d, .int .i64 a, .int .i64 b, .int .i64 cc, .int .i64 ee] 30)).alloc (.cells #[.int .i64 0, .int .i64 0, .slice none 0 0] 24) = w1 at *
            obtain ⟨m0, m1, m2⟩ := TBox.cells B1.out
            obtain ⟨o0, o1, o2, o3, o4⟩ := OBox.cells O1.out
            go_wp2_with fail
            refine (HH w1 (HR.out.below L1.out)).out.mono ?_
            rintro e w2 ⟨rfl, hb⟩
            have L2 := Lib.hid (L1.out.trans (hb.mono L1.out.size))
            have N2 := Lib.hid (Cells.below N1.out hb)
            have B2 := Lib.hid (Cells.below B1.out hb)
            have R2 := Lib.hid (HR.out.below L2.out)
            have hlt : w.heap.size + 2 < w2.heap.size := Cells.lt N2.out
            clear hb m0 m1 m2 o0 o1 o2 o3 o4 B1 N1 L1 O1
            have L3 : Hid (Below w.heap.size w (w2.alloc (.cells #[.int .i64 xk, .int .i64 xh, .int .i64 xe, .int .i64 xu] 43))) := L2.out.alloc L2.out.size _
            have B3 : Hid (TBox (w2.alloc (.cells #[.int .i64 xk, .int .i64 xh, .int .i64 xe, .int .i64 xu] 43)) w.heap.size last now A n c) := Cells.alloc B2.out _
            have N3 : Hid (TBox (w2.alloc (.cells #[.int .i64 xk, .int .i64 xh, .int .i64 xe, .int .i64 xu] 43)) (w.heap.size + 2) 0 0 none 0 0) := Cells.alloc N2.out _
            have R3 : Hid (RowL (w2.alloc (.cells #[.int .i64 xk, .int .i64 xh, .int .i64 xe, .int .i64 xu] 43)) A n c l) := RowS.alloc R2.out _
            have G3 : Hid (LBox (w2.alloc (.cells #[.int .i64 xk, .int .i64 xh, .int .i64 xe, .int .i64 xu] 43)) w2.heap.size ⟨xk, xh, xe, xu⟩) := Cells.new _ _ _
            go_upto_region 16 with fail
            have hlt3 : w2.heap.size < (w2.alloc (.cells #[.int .i64 xk, .int .i64 xh, .int .i64 xe, .int .i64 xu] 43)).heap.size := Cells.lt G3.out
            generalize w2.alloc (.cells #[.int .i64 xk, .int .i64 xh, .int .i64 xe, .int .i64 xu] 43) = w3 at *
            generalize w2.heap.size = gx at *
            have L4 : Hid (Below w.heap.size w w3.drew) := L3.out.drew
            have B4 : Hid (TBox w3.drew w.heap.size last now A n c) := B3.out
            have N4 : Hid (TBox w3.drew (w.heap.size + 2) 0 0 none 0 0) := N3.out
            have G4 : Hid (LBox w3.drew gx ⟨xk, xh, xe, xu⟩) := G3.out
            have R4 : Hid (RowL w3.drew A n c l) := RowS.drew R3.out
            clear L3 B3 N3 G3 R3
            have HS := fun W (h1 : TBox W w.heap.size last now A n c) (h2 : LBox W gx ⟨xk, xh, xe, xu⟩) => And.intro (TBox.cells h1).1 (And.intro (TBox.cells h1).2.1 (And.intro (TBox.cells h1).2.2 (LBox.cells h2)))
            refine wp_region_held_drew (S := fun W => W.cell? ⟨w.heap.size, 0, none⟩ = some (.int .i64 last) ∧ W.cell? ⟨w.heap.size, 1, none⟩ = some (.int .i64 now) ∧ W.cell? ⟨w.heap.size, 2, none⟩ = some (.slice A n c) ∧ (W.cell? ⟨gx, 0, none⟩ = some (.int .i64 xk) ∧ W.cell? ⟨gx, 1, none⟩ = some (.int .i64 xh) ∧ W.cell? ⟨gx, 2, none⟩ = some (.int .i64 xe) ∧ W.cell? ⟨gx, 3, none⟩ = some (.int .i64 xu)))
              (by kernel_rfl) (HS _ B4.out G4.out) (fun hHeld => ?_)
            have hsz : w3.heap.size = w3.drew.heap.size := rfl
            rw [hsz] at hlt3
            clear hsz
            generalize w3.drew = w4 at *
            (first | (refine Reg.take 0 (v := ?_) rfl (by kernel_rfl) (by kernel_rfl) (by kernel_rfl) (fun _ _ _ h => h) (Or.inl ⟨by rfl, ?_⟩) (by assumption) ?_; rotate_left; (focus ((intro W hSW); (try dsimp only at hSW); (try go_split_ands); go_simp; (try (with_reducible rfl)); done))) | (refine Reg.take 0 (v := undef) rfl (by kernel_rfl) (by kernel_rfl) (by kernel_rfl) (fun _ _ _ h => h) (Or.inr ⟨by rfl, rfl⟩) (by assumption) ?_))
            (try simp only [Act.put, List.setIfInBounds_toArray, List.set_cons_zero, List.set_cons_succ])
            (first | (refine Reg.take 1 (v := ?_) rfl (by kernel_rfl) (by kernel_rfl) (by kernel_rfl) (fun _ _ _ h => h) (Or.inl ⟨by rfl, ?_⟩) (by assumption) ?_; rotate_left; (focus ((intro W hSW); (try dsimp only at hSW); (try go_split_ands); go_simp; (try (with_reducible rfl)); done))) | (refine Reg.take 1 (v := undef) rfl (by kernel_rfl) (by kernel_rfl) (by kernel_rfl) (fun _ _ _ h => h) (Or.inr ⟨by rfl, rfl⟩) (by assumption) ?_))
            (try simp only [Act.put, List.setIfInBounds_toArray, List.set_cons_zero, List.set_cons_succ])
            refine Reg.step2 2 3 rfl rfl (by kernel_rfl) (by rfl) (by rfl) (fun K hK => ?_) (fun K hK => ?_)
            · have L5 : Hid (Below w.heap.size w (w4.alloc (.cells #[.int .i64 xk, .int .i64 xh, .int .i64 xe, .int .i64 xu] 43))) := L4.out.alloc L4.out.size _
              have B5 : Hid (TBox (w4.alloc (.cells #[.int .i64 xk, .int .i64 xh, .int .i64 xe, .int .i64 xu] 43)) w.heap.size last now A n c) := Cells.alloc B4.out _
              have N5 : Hid (TBox (w4.alloc (.cells #[.int .i64 xk, .int .i64 xh, .int .i64 xe, .int .i64 xu] 43)) (w.heap.size + 2) 0 0 none 0 0) := Cells.alloc N4.out _
              have G5 : Hid (LBox (w4.alloc (.cells #[.int .i64 xk, .int .i64 xh, .int .i64 xe, .int .i64 xu] 43)) gx ⟨xk, xh, xe, xu⟩) := Cells.alloc G4.out _
              have Q5 : Hid (LBox (w4.alloc (.cells #[.int .i64 xk, .int .i64 xh, .int .i64 xe, .int .i64 xu] 43)) w4.heap.size ⟨xk, xh, xe, xu⟩) := Cells.new _ _ _
              have R5 : Hid (RowL (w4.alloc (.cells #[.int .i64 xk, .int .i64 xh, .int .i64 xe, .int .i64 xu] 43)) A n c l) := RowS.alloc R4.out _
              go_simp
              clear L4 B4 N4 G4 R4
              generalize w4.alloc (.cells #[.int .i64 xk, .int .i64 xh, .int .i64 xe, .int .i64 xu] 43) = w5 at *
              have hq : w4.heap.size ≠ w.heap.size + 2 := by have := Cells.lt Q5.out; omega
              generalize w4.heap.size = gq at *
              refine hK.out _ _ (HS _ B5.out G5.out) (fun hHeld2 => ?_)
              clear hK K
              (try simp only [Act.put, List.setIfInBounds_toArray, List.set_cons_zero, List.set_cons_succ])
              refine Reg.step 3 rfl (by kernel_rfl) (by rfl) (fun K hK => ?_)
              obtain ⟨z0, z1, z2⟩ := TBox.cells N5.out
              obtain ⟨f0, f1, f2⟩ := TBox.frozen N5.out
              have B6 : Hid (TBox _ w.heap.size last now A n c) := Cells.other3 (g' := w.heap.size + 2) B5.out (by omega) (.int .i64 last) (.int .i64 now) (.slice A n c)
              have G6 : Hid (LBox _ gx ⟨xk, xh, xe, xu⟩) := Cells.other3 (g' := w.heap.size + 2) G5.out (by omega) (.int .i64 last) (.int .i64 now) (.slice A n c)
              have Q6 : Hid (LBox _ gq ⟨xk, xh, xe, xu⟩) := Cells.other3 (g' := w.heap.size + 2) Q5.out (Ne.symm hq) (.int .i64 last) (.int .i64 now) (.slice A n c)
              have N6 : Hid (TBox _ (w.heap.size + 2) last now A n c) := Cells.set3 N5.out (.int .i64 last) (.int .i64 now) (.slice A n c)
              have R6 : Hid (RowL _ A n c l) := RowS.keep3 R5.out N5.out (.int .i64 last) (.int .i64 now) (.slice A n c)
              have L6 : Hid (Below w.heap.size w _) := below3 (g := w.heap.size + 2) L5.out (by omega) (.int .i64 last) (.int .i64 now) (.slice A n c)
              go_simp
              clear z0 z1 z2 f0 f1 f2
              refine hK.out _ _ (HS _ B6.out G6.out) (fun hHeld4 => ?_)
              clear hK K
              (try simp only [Act.put, List.setIfInBounds_toArray, List.set_cons_zero, List.set_cons_succ])
              (first | (refine Reg.take 4 (v := ?_) rfl (by kernel_rfl) (by kernel_rfl) (by kernel_rfl) (fun _ _ _ h => h) (Or.inl ⟨by rfl, ?_⟩) (by assumption) ?_; rotate_left; (focus ((intro W hSW); (try dsimp only at hSW); (try go_split_ands); go_simp; (try (with_reducible rfl)); done))) | (refine Reg.take 4 (v := undef) rfl (by kernel_rfl) (by kernel_rfl) (by kernel_rfl) (fun _ _ _ h => h) (Or.inr ⟨by rfl, rfl⟩) (by assumption) ?_))
              (try simp only [Act.put, List.setIfInBounds_toArray, List.set_cons_zero, List.set_cons_succ])
              (first | (refine Reg.take 5 (v := ?_) rfl (by kernel_rfl) (by kernel_rfl) (by kernel_rfl) (fun _ _ _ h => h) (Or.inl ⟨by rfl, ?_⟩) (by assumption) ?_; rotate_left; (focus ((intro W hSW); (try dsimp only at hSW); (try go_split_ands); go_simp; (try (with_reducible rfl)); done))) | (refine Reg.take 5 (v := undef) rfl (by kernel_rfl) (by kernel_rfl) (by kernel_rfl) (fun _ _ _ h => h) (Or.inr ⟨by rfl, rfl⟩) (by assumption) ?_))
              (try simp only [Act.put, List.setIfInBounds_toArray, List.set_cons_zero, List.set_cons_succ])
              refine wpAnyH_done (by kernel_rfl) ?_ _
              go_wp2_with fail
              refine bodyPost_ret_by (results_c2 rfl _ _ (w.heap.size + 2) _ _ _ _ rfl N6.out Try.underlying24 rfl (by kernel_rfl)) rfl ?_
              have hl := HR.out.len
              subst hl
              exact ⟨A, c, some ⟨gq, 0, none⟩, 1, rfl, R6.out, RowS.one Q6.out, L6.out⟩
            · obtain ⟨z0, z1, z2⟩ := TBox.cells N4.out
              obtain ⟨f0, f1, f2⟩ := TBox.frozen N4.out
              have B5 : Hid (TBox _ w.heap.size last now A n c) := Cells.other3 (g' := w.heap.size + 2) B4.out (by omega) (.int .i64 last) (.int .i64 now) (.slice A n c)
              have G5 : Hid (LBox _ gx ⟨xk, xh, xe, xu⟩) := Cells.other3 (g' := w.heap.size + 2) G4.out (by omega) (.int .i64 last) (.int .i64 now) (.slice A n c)
              have N5 : Hid (TBox _ (w.heap.size + 2) last now A n c) := Cells.set3 N4.out (.int .i64 last) (.int .i64 now) (.slice A n c)
              have R5 : Hid (RowL _ A n c l) := RowS.keep3 R4.out N4.out (.int .i64 last) (.int .i64 now) (.slice A n c)
              have L5 : Hid (Below w.heap.size w _) := below3 (g := w.heap.size + 2) L4.out (by omega) (.int .i64 last) (.int .i64 now) (.slice A n c)
              go_simp
              clear z0 z1 z2 f0 f1 f2 L4 B4 N4 G4 R4
              refine hK.out _ _ (HS _ B5.out G5.out) (fun hHeld2 => ?_)
              clear hK K
              (try simp only [Act.put, List.setIfInBounds_toArray, List.set_cons_zero, List.set_cons_succ])
              have hsz5 : w4.heap.size = (((w4.setCell ⟨w.heap.size + 2, 0, none⟩ (.int .i64 last)).setCell ⟨w.heap.size + 2, 1, none⟩ (.int .i64 now)).setCell ⟨w.heap.size + 2, 2, none⟩ (.slice A n c)).heap.size := by simp
              clear hlt3
              generalize ((w4.setCell ⟨w.heap.size + 2, 0, none⟩ (.int .i64 last)).setCell ⟨w.heap.size + 2, 1, none⟩ (.int .i64 now)).setCell ⟨w.heap.size + 2, 2, none⟩ (.slice A n c) = w5 at *
              refine Reg.step 2 rfl (by kernel_rfl) (by rfl) (fun K hK => ?_)
              have L6 : Hid (Below w.heap.size w (w5.alloc (.cells #[.int .i64 xk, .int .i64 xh, .int .i64 xe, .int .i64 xu] 43))) := L5.out.alloc L5.out.size _
              have B6 : Hid (TBox (w5.alloc (.cells #[.int .i64 xk, .int .i64 xh, .int .i64 xe, .int .i64 xu] 43)) w.heap.size last now A n c) := Cells.alloc B5.out _
              have N6 : Hid (TBox (w5.alloc (.cells #[.int .i64 xk, .int .i64 xh, .int .i64 xe, .int .i64 xu] 43)) (w.heap.size + 2) last now A n c) := Cells.alloc N5.out _
              have G6 : Hid (LBox (w5.alloc (.cells #[.int .i64 xk, .int .i64 xh, .int .i64 xe, .int .i64 xu] 43)) gx ⟨xk, xh, xe, xu⟩) := Cells.alloc G5.out _
              have Q6 : Hid (LBox (w5.alloc (.cells #[.int .i64 xk, .int .i64 xh, .int .i64 xe, .int .i64 xu] 43)) w5.heap.size ⟨xk, xh, xe, xu⟩) := Cells.new _ _ _
              have R6 : Hid (RowL (w5.alloc (.cells #[.int .i64 xk, .int .i64 xh, .int .i64 xe, .int .i64 xu] 43)) A n c l) := RowS.alloc R5.out _
              go_simp
              clear L5 B5 N5 G5 R5
              generalize w5.alloc (.cells #[.int .i64 xk, .int .i64 xh, .int .i64 xe, .int .i64 xu] 43) = w6 at *
              generalize w5.heap.size = gq at *
              refine hK.out _ _ (HS _ B6.out G6.out) (fun hHeld4 => ?_)
              clear hK K
              (try simp only [Act.put, List.setIfInBounds_toArray, List.set_cons_zero, List.set_cons_succ])
              (first | (refine Reg.take 4 (v := ?_) rfl (by kernel_rfl) (by kernel_rfl) (by kernel_rfl) (fun _ _ _ h => h) (Or.inl ⟨by rfl, ?_⟩) (by assumption) ?_; rotate_left; (focus ((intro W hSW); (try dsimp only at hSW); (try go_split_ands); go_simp; (try (with_reducible rfl)); done))) | (refine Reg.take 4 (v := undef) rfl (by kernel_rfl) (by kernel_rfl) (by kernel_rfl) (fun _ _ _ h => h) (Or.inr ⟨by rfl, rfl⟩) (by assumption) ?_))
              (try simp only [Act.put, List.setIfInBounds_toArray, List.set_cons_zero, List.set_cons_succ])
              (first | (refine Reg.take 5 (v := ?_) rfl (by kernel_rfl) (by kernel_rfl) (by kernel_rfl) (fun _ _ _ h => h) (Or.inl ⟨by rfl, ?_⟩) (by assumption) ?_; rotate_left; (focus ((intro W hSW); (try dsimp only at hSW); (try go_split_ands); go_simp; (try (with_reducible rfl)); done))) | (refine Reg.take 5 (v := undef) rfl (by kernel_rfl) (by kernel_rfl) (by kernel_rfl) (fun _ _ _ h => h) (Or.inr ⟨by rfl, rfl⟩) (by assumption) ?_))
              (try simp only [Act.put, List.setIfInBounds_toArray, List.set_cons_zero, List.set_cons_succ])
              refine wpAnyH_done (by kernel_rfl) ?_ _
              go_wp2_with fail
              refine bodyPost_ret_by (results_c2 rfl _ _ (w.heap.size + 2) _ _ _ _ rfl N6.out Try.underlying24 rfl (by kernel_rfl)) rfl ?_
              have hl := HR.out.len
              subst hl
              exact ⟨A, c, some ⟨gq, 0, none⟩, 1, rfl, R6.out, RowS.one Q6.out, L6.out⟩
        · -- revoke
          simp only [cond_false, cond_true]
          rcases hP : revokeP ⟨last, now, l⟩ a with ⟨⟨la, no, l'⟩, er⟩
          rw [hP] at HV
          clear HT HG HN HH
          go_enter Try.func12, Try.ntmps12
          go_upto_region 1 with fail
          generalize ((w.alloc (.cells #[.int .i64 last, .int .i64 now, .slice A n c] 24)).alloc (.cells #[.int .i64 d, .int .i64 a, .int .i64 b, .int .i64 cc, .int .i64 ee] 30)).alloc (.cells #[.int .i64 0, .int .i64 0, .slice none 0 0] 24) = w1 at *
          obtain ⟨m0, m1, m2⟩ := TBox.cells B1.out
          obtain ⟨o0, o1, o2, o3, o4⟩ := OBox.cells O1.out
          go_wp2_with fail
          refine (HV w1 (HR.out.below L1.out)).out.mono ?_
          rintro e w2 ⟨A', c', rfl, hA, hb⟩
          simp only at hA
          have L2 := Lib.hid (L1.out.trans (hb.mono L1.out.size))
          have N2 := Lib.hid (Cells.below N1.out hb)
          have RA := Lib.hid hA
          clear hb hA m0 m1 m2 o0 o1 o2 o3 o4 B1 N1 L1 O1 HR
          have L3 : Hid (Below w.heap.size w (w2.alloc (.cells #[.int .i64 la, .int .i64 no, .slice A' l'.length c'] 24))) := L2.out.alloc L2.out.size _
          have B3 : Hid (TBox (w2.alloc (.cells #[.int .i64 la, .int .i64 no, .slice A' l'.length c'] 24)) w2.heap.size la no A' l'.length c') := Cells.new _ _ _
          have N3 : Hid (TBox (w2.alloc (.cells #[.int .i64 la, .int .i64 no, .slice A' l'.length c'] 24)) (w.heap.size + 2) 0 0 none 0 0) := Cells.alloc N2.out _
          have R3 : Hid (RowL (w2.alloc (.cells #[.int .i64 la, .int .i64 no, .slice A' l'.length c'] 24)) A' l'.length c' l') := RowS.alloc RA.out _
          go_upto_region 12 with fail
          generalize w2.alloc (.cells #[.int .i64 la, .int .i64 no, .slice A' l'.length c'] 24) = w3 at *
          obtain ⟨m0, m1, m2⟩ := TBox.cells B3.out
          obtain ⟨z0, z1, z2⟩ := TBox.cells N3.out
          obtain ⟨f0, f1, f2⟩ := TBox.frozen N3.out
          go_wp2_with fail
          refine bodyPost_ret_by (results_c2 rfl _ _ (w.heap.size + 2) _ _ _ _ rfl (Cells.set3 N3.out (.int .i64 la) (.int .i64 no) (.slice A' l'.length c')) Try.underlying24 rfl (by kernel_rfl)) rfl ?_
          exact ⟨A', c', none, 0, rfl, RowS.keep3 R3.out N3.out _ _ _, RowS.nil _ _ _, below3 L3.out (by omega) _ _ _⟩
      · -- renew
        simp only [cond_false, cond_true]
        rcases hP : renewP ⟨last, now, l⟩ a b ee cc with ⟨⟨la, no, l'⟩, er⟩
        rw [hP] at HN
        clear HT HG HV HH
        go_enter Try.func12, Try.ntmps12
        go_upto_region 1 with fail
        generalize ((w.alloc (.cells #[.int .i64 last, .int .i64 now, .slice A n c] 24)).alloc (.cells #[.int .i64 d, .int .i64 a, .int .i64 b, .int .i64 cc, .int .i64 ee] 30)).alloc (.cells #[.int .i64 0, .int .i64 0, .slice none 0 0] 24) = w1 at *
        obtain ⟨m0, m1, m2⟩ := TBox.cells B1.out
        obtain ⟨o0, o1, o2, o3, o4⟩ := OBox.cells O1.out
        go_wp2_with fail
        refine (HN w1 (HR.out.below L1.out)).out.mono ?_
        rintro e w2 ⟨A', c', rfl, hA, hb⟩
        simp only at hA
        have L2 := Lib.hid (L1.out.trans (hb.mono L1.out.size))
        have N2 := Lib.hid (Cells.below N1.out hb)
        have RA := Lib.hid hA
        clear hb hA m0 m1 m2 o0 o1 o2 o3 o4 B1 N1 L1 O1 HR
        have L3 : Hid (Below w.heap.size w (w2.alloc (.cells #[.int .i64 la, .int .i64 no, .slice A' l'.length c'] 24))) := L2.out.alloc L2.out.size _
        have B3 : Hid (TBox (w2.alloc (.cells #[.int .i64 la, .int .i64 no, .slice A' l'.length c'] 24)) w2.heap.size la no A' l'.length c') := Cells.new _ _ _
        have N3 : Hid (TBox (w2.alloc (.cells #[.int .i64 la, .int .i64 no, .slice A' l'.length c'] 24)) (w.heap.size + 2) 0 0 none 0 0) := Cells.alloc N2.out _
        have R3 : Hid (RowL (w2.alloc (.cells #[.int .i64 la, .int .i64 no, .slice A' l'.length c'] 24)) A' l'.length c' l') := RowS.alloc RA.out _
        go_upto_region 9 with fail
        generalize w2.alloc (.cells #[.int .i64 la, .int .i64 no, .slice A' l'.length c'] 24) = w3 at *
        obtain ⟨m0, m1, m2⟩ := TBox.cells B3.out
        obtain ⟨z0, z1, z2⟩ := TBox.cells N3.out
        obtain ⟨f0, f1, f2⟩ := TBox.frozen N3.out
        go_wp2_with fail
        refine bodyPost_ret_by (results_c2 rfl _ _ (w.heap.size + 2) _ _ _ _ rfl (Cells.set3 N3.out (.int .i64 la) (.int .i64 no) (.slice A' l'.length c')) Try.underlying24 rfl (by kernel_rfl)) rfl ?_
        exact ⟨A', c', none, 0, rfl, RowS.keep3 R3.out N3.out _ _ _, RowS.nil _ _ _, below3 L3.out (by omega) _ _ _⟩
    · -- grant
      simp only [cond_false, cond_true]
      rcases hP : grantP ⟨last, now, l⟩ a b cc with ⟨⟨la, no, l'⟩, ⟨xk, xh, xe, xu⟩, er⟩
      rw [hP] at HG
      clear HT HN HV HH
      go_enter Try.func12, Try.ntmps12
      go_upto_region 1 with fail
      generalize ((w.alloc (.cells #[.int .i64 last, .int .i64 now, .slice A n c] 24)).alloc (.cells #[.int .i64 d, .int .i64 a, .int .i64 b, .int .i64 cc, .int .i64 ee] 30)).alloc (.cells #[.int .i64 0, .int .i64 0, .slice none 0 0] 24) = w1 at *
      obtain ⟨m0, m1, m2⟩ := TBox.cells B1.out
      obtain ⟨o0, o1, o2, o3, o4⟩ := OBox.cells O1.out
      go_wp2_with fail
      refine (HG w1 (HR.out.below L1.out)).out.mono ?_
      rintro e w2 ⟨A', c', rfl, hA, hb⟩
      simp only at hA
      have L2 := Lib.hid (L1.out.trans (hb.mono L1.out.size))
      have N2 := Lib.hid (Cells.below N1.out hb)
      have RA := Lib.hid hA
      have hlt : w.heap.size + 2 < w2.heap.size := Cells.lt N2.out
      clear hb hA m0 m1 m2 o0 o1 o2 o3 o4 B1 N1 L1 O1 HR
      have L3 : Hid (Below w.heap.size w ((w2.alloc (.cells #[.int .i64 la, .int .i64 no, .slice A' l'.length c'] 24)).alloc (.cells #[.int .i64 xk, .int .i64 xh, .int .i64 xe, .int .i64 xu] 43))) := (L2.out.alloc L2.out.size _).alloc (by have := L2.out.size; simp; omega) _
      have B3 : Hid (TBox ((w2.alloc (.cells #[.int .i64 la, .int .i64 no, .slice A' l'.length c'] 24)).alloc (.cells #[.int .i64 xk, .int .i64 xh, .int .i64 xe, .int .i64 xu] 43)) w2.heap.size la no A' l'.length c') := heap_alloc2_old w2 _ _
      have G3 : Hid (LBox ((w2.alloc (.cells #[.int .i64 la, .int .i64 no, .slice A' l'.length c'] 24)).alloc (.cells #[.int .i64 xk, .int .i64 xh, .int .i64 xe, .int .i64 xu] 43)) (w2.heap.size + 1) ⟨xk, xh, xe, xu⟩) := heap_alloc2_new w2 _ _
      have N3 : Hid (TBox ((w2.alloc (.cells #[.int .i64 la, .int .i64 no, .slice A' l'.length c'] 24)).alloc (.cells #[.int .i64 xk, .int .i64 xh, .int .i64 xe, .int .i64 xu] 43)) (w.heap.size + 2) 0 0 none 0 0) := Cells.alloc (Cells.alloc N2.out _) _
      have R3 : Hid (RowL ((w2.alloc (.cells #[.int .i64 la, .int .i64 no, .slice A' l'.length c'] 24)).alloc (.cells #[.int .i64 xk, .int .i64 xh, .int .i64 xe, .int .i64 xu] 43)) A' l'.length c' l') := RowS.alloc (RowS.alloc RA.out _) _
      go_upto_region 6 with fail
      have hlt3 : w2.heap.size + 1 < ((w2.alloc (.cells #[.int .i64 la, .int .i64 no, .slice A' l'.length c'] 24)).alloc (.cells #[.int .i64 xk, .int .i64 xh, .int .i64 xe, .int .i64 xu] 43)).heap.size := Cells.lt G3.out
      generalize (w2.alloc (.cells #[.int .i64 la, .int .i64 no, .slice A' l'.length c'] 24)).alloc (.cells #[.int .i64 xk, .int .i64 xh, .int .i64 xe, .int .i64 xu] 43) = w3 at *
      generalize w2.heap.size = gx at *
      have L4 : Hid (Below w.heap.size w w3.drew) := L3.out.drew
      have B4 : Hid (TBox w3.drew gx la no A' l'.length c') := B3.out
      have N4 : Hid (TBox w3.drew (w.heap.size + 2) 0 0 none 0 0) := N3.out
      have G4 : Hid (LBox w3.drew (gx + 1) ⟨xk, xh, xe, xu⟩) := G3.out
      have R4 : Hid (RowL w3.drew A' l'.length c' l') := RowS.drew R3.out
      clear L3 B3 N3 G3 R3
      have HS := fun W (h1 : TBox W gx la no A' l'.length c') (h2 : LBox W (gx + 1) ⟨xk, xh, xe, xu⟩) => And.intro (TBox.cells h1).1 (And.intro (TBox.cells h1).2.1 (And.intro (TBox.cells h1).2.2 (LBox.cells h2)))
      refine wp_region_held_drew (S := fun W => W.cell? ⟨gx, 0, none⟩ = some (.int .i64 la) ∧ W.cell? ⟨gx, 1, none⟩ = some (.int .i64 no) ∧ W.cell? ⟨gx, 2, none⟩ = some (.slice A' l'.length c') ∧ (W.cell? ⟨(gx + 1), 0, none⟩ = some (.int .i64 xk) ∧ W.cell? ⟨(gx + 1), 1, none⟩ = some (.int .i64 xh) ∧ W.cell? ⟨(gx + 1), 2, none⟩ = some (.int .i64 xe) ∧ W.cell? ⟨(gx + 1), 3, none⟩ = some (.int .i64 xu)))
        (by kernel_rfl) (HS _ B4.out G4.out) (fun hHeld => ?_)
      have hsz : w3.heap.size = w3.drew.heap.size := rfl
      rw [hsz] at hlt3
      clear hsz
      generalize w3.drew = w4 at *
      (first | (refine Reg.take 0 (v := ?_) rfl (by kernel_rfl) (by kernel_rfl) (by kernel_rfl) (fun _ _ _ h => h) (Or.inl ⟨by rfl, ?_⟩) (by assumption) ?_; rotate_left; (focus ((intro W hSW); (try dsimp only at hSW); (try go_split_ands); go_simp; (try (with_reducible rfl)); done))) | (refine Reg.take 0 (v := undef) rfl (by kernel_rfl) (by kernel_rfl) (by kernel_rfl) (fun _ _ _ h => h) (Or.inr ⟨by rfl, rfl⟩) (by assumption) ?_))
      (try simp only [Act.put, List.setIfInBounds_toArray, List.set_cons_zero, List.set_cons_succ])
      (first | (refine Reg.take 1 (v := ?_) rfl (by kernel_rfl) (by kernel_rfl) (by kernel_rfl) (fun _ _ _ h => h) (Or.inl ⟨by rfl, ?_⟩) (by assumption) ?_; rotate_left; (focus ((intro W hSW); (try dsimp only at hSW); (try go_split_ands); go_simp; (try (with_reducible rfl)); done))) | (refine Reg.take 1 (v := undef) rfl (by kernel_rfl) (by kernel_rfl) (by kernel_rfl) (fun _ _ _ h => h) (Or.inr ⟨by rfl, rfl⟩) (by assumption) ?_))
      (try simp only [Act.put, List.setIfInBounds_toArray, List.set_cons_zero, List.set_cons_succ])
      (first | (refine Reg.take 3 (v := ?_) rfl (by kernel_rfl) (by kernel_rfl) (by kernel_rfl) (fun _ _ _ h => h) (Or.inl ⟨by rfl, ?_⟩) (by assumption) ?_; rotate_left; (focus ((intro W hSW); (try dsimp only at hSW); (try go_split_ands); go_simp; (try (with_reducible rfl)); done))) | (refine Reg.take 3 (v := undef) rfl (by kernel_rfl) (by kernel_rfl) (by kernel_rfl) (fun _ _ _ h => h) (Or.inr ⟨by rfl, rfl⟩) (by assumption) ?_))
      (try simp only [Act.put, List.setIfInBounds_toArray, List.set_cons_zero, List.set_cons_succ])
      refine Reg.step2 2 4 rfl rfl (by kernel_rfl) (by rfl) (by rfl) (fun K hK => ?_) (fun K hK => ?_)
      · have L5 : Hid (Below w.heap.size w (w4.alloc (.cells #[.int .i64 xk, .int .i64 xh, .int .i64 xe, .int .i64 xu] 43))) := L4.out.alloc L4.out.size _
        have B5 : Hid (TBox (w4.alloc (.cells #[.int .i64 xk, .int .i64 xh, .int .i64 xe, .int .i64 xu] 43)) gx la no A' l'.length c') := Cells.alloc B4.out _
        have N5 : Hid (TBox (w4.alloc (.cells #[.int .i64 xk, .int .i64 xh, .int .i64 xe, .int .i64 xu] 43)) (w.heap.size + 2) 0 0 none 0 0) := Cells.alloc N4.out _
        have G5 : Hid (LBox (w4.alloc (.cells #[.int .i64 xk, .int .i64 xh, .int .i64 xe, .int .i64 xu] 43)) (gx + 1) ⟨xk, xh, xe, xu⟩) := Cells.alloc G4.out _
        have Q5 : Hid (LBox (w4.alloc (.cells #[.int .i64 xk, .int .i64 xh, .int .i64 xe, .int .i64 xu] 43)) w4.heap.size ⟨xk, xh, xe, xu⟩) := Cells.new _ _ _
        have R5 : Hid (RowL (w4.alloc (.cells #[.int .i64 xk, .int .i64 xh, .int .i64 xe, .int .i64 xu] 43)) A' l'.length c' l') := RowS.alloc R4.out _
        go_simp
        clear L4 B4 N4 G4 R4
        generalize w4.alloc (.cells #[.int .i64 xk, .int .i64 xh, .int .i64 xe, .int .i64 xu] 43) = w5 at *
        have hq : w4.heap.size ≠ w.heap.size + 2 := by have := Cells.lt Q5.out; omega
        generalize w4.heap.size = gq at *
        refine hK.out _ _ (HS _ B5.out G5.out) (fun hHeld2 => ?_)
        clear hK K
        (try simp only [Act.put, List.setIfInBounds_toArray, List.set_cons_zero, List.set_cons_succ])
        refine Reg.step 4 rfl (by kernel_rfl) (by rfl) (fun K hK => ?_)
        obtain ⟨z0, z1, z2⟩ := TBox.cells N5.out
        obtain ⟨f0, f1, f2⟩ := TBox.frozen N5.out
        have B6 : Hid (TBox _ gx la no A' l'.length c') := Cells.other3 (g' := w.heap.size + 2) B5.out (by omega) (.int .i64 la) (.int .i64 no) (.slice A' l'.length c')
        have G6 : Hid (LBox _ (gx + 1) ⟨xk, xh, xe, xu⟩) := Cells.other3 (g' := w.heap.size + 2) G5.out (by omega) (.int .i64 la) (.int .i64 no) (.slice A' l'.length c')
        have Q6 : Hid (LBox _ gq ⟨xk, xh, xe, xu⟩) := Cells.other3 (g' := w.heap.size + 2) Q5.out (Ne.symm hq) (.int .i64 la) (.int .i64 no) (.slice A' l'.length c')
        have N6 : Hid (TBox _ (w.heap.size + 2) la no A' l'.length c') := Cells.set3 N5.out (.int .i64 la) (.int .i64 no) (.slice A' l'.length c')
        have R6 : Hid (RowL _ A' l'.length c' l') := RowS.keep3 R5.out N5.out (.int .i64 la) (.int .i64 no) (.slice A' l'.length c')
        have L6 : Hid (Below w.heap.size w _) := below3 (g := w.heap.size + 2) L5.out (by omega) (.int .i64 la) (.int .i64 no) (.slice A' l'.length c')
        go_simp
        clear z0 z1 z2 f0 f1 f2
        refine hK.out _ _ (HS _ B6.out G6.out) (fun hHeld4 => ?_)
        clear hK K
        (try simp only [Act.put, List.setIfInBounds_toArray, List.set_cons_zero, List.set_cons_succ])
        (first | (refine Reg.take 5 (v := ?_) rfl (by kernel_rfl) (by kernel_rfl) (by kernel_rfl) (fun _ _ _ h => h) (Or.inl ⟨by rfl, ?_⟩) (by assumption) ?_; rotate_left; (focus ((intro W hSW); (try dsimp only at hSW); (try go_split_ands); go_simp; (try (with_reducible rfl)); done))) | (refine Reg.take 5 (v := undef) rfl (by kernel_rfl) (by kernel_rfl) (by kernel_rfl) (fun _ _ _ h => h) (Or.inr ⟨by rfl, rfl⟩) (by assumption) ?_))
        (try simp only [Act.put, List.setIfInBounds_toArray, List.set_cons_zero, List.set_cons_succ])
        (first | (refine Reg.take 6 (v := ?_) rfl (by kernel_rfl) (by kernel_rfl) (by kernel_rfl) (fun _ _ _ h => h) (Or.inl ⟨by rfl, ?_⟩) (by assumption) ?_; rotate_left; (focus ((intro W hSW); (try dsimp only at hSW); (try go_split_ands); go_simp; (try (with_reducible rfl)); done))) | (refine Reg.take 6 (v := undef) rfl (by kernel_rfl) (by kernel_rfl) (by kernel_rfl) (fun _ _ _ h => h) (Or.inr ⟨by rfl, rfl⟩) (by assumption) ?_))
        (try simp only [Act.put, List.setIfInBounds_toArray, List.set_cons_zero, List.set_cons_succ])
        refine wpAnyH_done (by kernel_rfl) ?_ _
        go_wp2_with fail
        refine bodyPost_ret_by (results_c2 rfl _ _ (w.heap.size + 2) _ _ _ _ rfl N6.out Try.underlying24 rfl (by kernel_rfl)) rfl ?_
        exact ⟨A', c', some ⟨gq, 0, none⟩, 1, rfl, R6.out, RowS.one Q6.out, L6.out⟩
      · obtain ⟨z0, z1, z2⟩ := TBox.cells N4.out
        obtain ⟨f0, f1, f2⟩ := TBox.frozen N4.out
        have B5 : Hid (TBox _ gx la no A' l'.length c') := Cells.other3 (g' := w.heap.size + 2) B4.out (by omega) (.int .i64 la) (.int .i64 no) (.slice A' l'.length c')
        have G5 : Hid (LBox _ (gx + 1) ⟨xk, xh, xe, xu⟩) := Cells.other3 (g' := w.heap.size + 2) G4.out (by omega) (.int .i64 la) (.int .i64 no) (.slice A' l'.length c')
        have N5 : Hid (TBox _ (w.heap.size + 2) la no A' l'.length c') := Cells.set3 N4.out (.int .i64 la) (.int .i64 no) (.slice A' l'.length c')
        have R5 : Hid (RowL _ A' l'.length c' l') := RowS.keep3 R4.out N4.out (.int .i64 la) (.int .i64 no) (.slice A' l'.length c')
        have L5 : Hid (Below w.heap.size w _) := below3 (g := w.heap.size + 2) L4.out (by omega) (.int .i64 la) (.int .i64 no) (.slice A' l'.length c')
        go_simp
        clear z0 z1 z2 f0 f1 f2 L4 B4 N4 G4 R4
        refine hK.out _ _ (HS _ B5.out G5.out) (fun hHeld2 => ?_)
        clear hK K
        (try simp only [Act.put, List.setIfInBounds_toArray, List.set_cons_zero, List.set_cons_succ])
        have hsz5 : w4.heap.size = (((w4.setCell ⟨w.heap.size + 2, 0, none⟩ (.int .i64 la)).setCell ⟨w.heap.size + 2, 1, none⟩ (.int .i64 no)).setCell ⟨w.heap.size + 2, 2, none⟩ (.slice A' l'.length c')).heap.size := by simp
        clear hlt3
        generalize ((w4.setCell ⟨w.heap.size + 2, 0, none⟩ (.int .i64 la)).setCell ⟨w.heap.size + 2, 1, none⟩ (.int .i64 no)).setCell ⟨w.heap.size + 2, 2, none⟩ (.slice A' l'.length c') = w5 at *
        refine Reg.step 2 rfl (by kernel_rfl) (by rfl) (fun K hK => ?_)
        have L6 : Hid (Below w.heap.size w (w5.alloc (.cells #[.int .i64 xk, .int .i64 xh, .int .i64 xe, .int .i64 xu] 43))) := L5.out.alloc L5.out.size _
        have B6 : Hid (TBox (w5.alloc (.cells #[.int .i64 xk, .int .i64 xh, .int .i64 xe, .int .i64 xu] 43)) gx la no A' l'.length c') := Cells.alloc B5.out _
        have N6 : Hid (TBox (w5.alloc (.cells #[.int .i64 xk, .int .i64 xh, .int .i64 xe, .int .i64 xu] 43)) (w.heap.size + 2) la no A' l'.length c') := Cells.alloc N5.out _
        have G6 : Hid (LBox (w5.alloc (.cells #[.int .i64 xk, .int .i64 xh, .int .i64 xe, .int .i64 xu] 43)) (gx + 1) ⟨xk, xh, xe, xu⟩) := Cells.alloc G5.out _
        have Q6 : Hid (LBox (w5.alloc (.cells #[.int .i64 xk, .int .i64 xh, .int .i64 xe, .int .i64 xu] 43)) w5.heap.size ⟨xk, xh, xe, xu⟩) := Cells.new _ _ _
        have R6 : Hid (RowL (w5.alloc (.cells #[.int .i64 xk, .int .i64 xh, .int .i64 xe, .int .i64 xu] 43)) A' l'.length c' l') := RowS.alloc R5.out _
        go_simp
        clear L5 B5 N5 G5 R5
        generalize w5.alloc (.cells #[.int .i64 xk, .int .i64 xh, .int .i64 xe, .int .i64 xu] 43) = w6 at *
        generalize w5.heap.size = gq at *
        refine hK.out _ _ (HS _ B6.out G6.out) (fun hHeld4 => ?_)
        clear hK K
        (try simp only [Act.put, List.setIfInBounds_toArray, List.set_cons_zero, List.set_cons_succ])
        (first | (refine Reg.take 5 (v := ?_) rfl (by kernel_rfl) (by kernel_rfl) (by kernel_rfl) (fun _ _ _ h => h) (Or.inl ⟨by rfl, ?_⟩) (by assumption) ?_; rotate_left; (focus ((intro W hSW); (try dsimp only at hSW); (try go_split_ands); go_simp; (try (with_reducible rfl)); done))) | (refine Reg.take 5 (v := undef) rfl (by kernel_rfl) (by kernel_rfl) (by kernel_rfl) (fun _ _ _ h => h) (Or.inr ⟨by rfl, rfl⟩) (by assumption) ?_))
        (try simp only [Act.put, List.setIfInBounds_toArray, List.set_cons_zero, List.set_cons_succ])
        (first | (refine Reg.take 6 (v := ?_) rfl (by kernel_rfl) (by kernel_rfl) (by kernel_rfl) (fun _ _ _ h => h) (Or.inl ⟨by rfl, ?_⟩) (by assumption) ?_; rotate_left; (focus ((intro W hSW); (try dsimp only at hSW); (try go_split_ands); go_simp; (try (with_reducible rfl)); done))) | (refine Reg.take 6 (v := undef) rfl (by kernel_rfl) (by kernel_rfl) (by kernel_rfl) (fun _ _ _ h => h) (Or.inr ⟨by rfl, rfl⟩) (by assumption) ?_))
        (try simp only [Act.put, List.setIfInBounds_toArray, List.set_cons_zero, List.set_cons_succ])
        refine wpAnyH_done (by kernel_rfl) ?_ _
        go_wp2_with fail
        refine bodyPost_ret_by (results_c2 rfl _ _ (w.heap.size + 2) _ _ _ _ rfl N6.out Try.underlying24 rfl (by kernel_rfl)) rfl ?_
        exact ⟨A', c', some ⟨gq, 0, none⟩, 1, rfl, R6.out, RowS.one Q6.out, L6.out⟩
  · simp only [cond_true]
    rcases hP : tickP ⟨last, now, l⟩ a with ⟨⟨la, no, l'⟩, ll, er⟩
    rw [hP] at HT
    clear HG HN HV HH
    go_enter Try.func12, Try.ntmps12
    go_upto_region 1 with fail
    generalize ((w.alloc (.cells #[.int .i64 last, .int .i64 now, .slice A n c] 24)).alloc (.cells #[.int .i64 d, .int .i64 a, .int .i64 b, .int .i64 cc, .int .i64 ee] 30)).alloc (.cells #[.int .i64 0, .int .i64 0, .slice none 0 0] 24) = w1 at *
    obtain ⟨m0, m1, m2⟩ := TBox.cells B1.out
    obtain ⟨o0, o1, o2, o3, o4⟩ := OBox.cells O1.out
    go_wp2_with fail
    refine (HT w1 (HR.out.below L1.out)).out.mono ?_
    rintro e w2 ⟨A', c', B', d', rfl, hA, hB, hb⟩
    simp only at hA hB
    have L2 := Lib.hid (L1.out.trans (hb.mono L1.out.size))
    have N2 := Lib.hid (Cells.below N1.out hb)
    have RA := Lib.hid hA
    have RB := Lib.hid hB
    clear hb hA hB m0 m1 m2 o0 o1 o2 o3 o4 B1 N1 L1 O1 HR
    obtain ⟨z0, z1, z2⟩ := TBox.cells N2.out
    obtain ⟨f0, f1, f2⟩ := TBox.frozen N2.out
    go_wp2_with fail
    refine bodyPost_ret_by (results_c2 rfl _ _ (w.heap.size + 2) _ _ _ _ rfl (Cells.set3 N2.out (.int .i64 la) (.int .i64 no) (.slice A' l'.length c')) Try.underlying24 rfl (by kernel_rfl)) rfl ?_
    exact ⟨A', c', B', d', rfl, RowS.keep3 RA.out N2.out _ _ _, RowS.keep3 RB.out N2.out _ _ _, below3 L2.out (by omega) _ _ _⟩
end Lea
end Go.Proofs.Ytehknenlifdchaa
