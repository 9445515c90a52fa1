/-
  SEVERAL TEXTS IN ONE FILE: LeaRenew.
-/
import Derived.Test.YtcpkgcckjphbfaaGreatJ11
import Derived.StillTailTactics
/-
  A WALK: Renew.
-/
namespace Go.Proofs.YtcpkgcckjphbfaaGreat
open Go.RowKit Mem
namespace Lea

/-- One lease of a row of one's own is written at its end. -/
theorem OwnsL.at_ {base : Nat} {w : World} {A : Option Addr} {n c : Nat} {l : List Lv} (h : OwnsL base w (.slice A n c) n l) {k : Nat} {x : Lv} (hx : l[k]? = some x) :
    ∃ g, A = some ⟨g, 0, none⟩ ∧ base ≤ g ∧ g < w.heap.size ∧ w.cell? ⟨g, k * 4, none⟩ = some (.int .i64 x.key) ∧ w.cell? ⟨g, k * 4 + 3, none⟩ = some (.int .i64 x.til) ∧ (∀ i, w.frozen? ⟨g, i, none⟩ = false) ∧
      ∀ (v : Int) (f : Lv → Lv), f x = ⟨x.key, x.host, x.epoch, v⟩ → OwnsL base (w.setCell ⟨g, k * 4 + 3, none⟩ (.int .i64 v)) (.slice A n c) n (l.set k (f x)) := by
  have hk := (List.getElem?_eq_some_iff.1 hx).1
  rcases h.1.2 with ⟨-, h1⟩ | ⟨g, cap, cur, e, hb, hg, hnc, hcm, hs, ht⟩
  · have := h.2; omega
  · injection e with e1 _ e3
    subst e1 e3
    have hcell : ∀ j u, (cellsL x)[j]? = some u → w.cell? ⟨g, k * 4 + j, none⟩ = some u := fun j u hu => by
      have := World.ownsRow.cells (g := g) h.1 rfl (k * 4 + j) u (flat_get l k j x u hx hu)
      rwa [Mem.add_none, Nat.zero_add] at this
    refine ⟨g, rfl, hb, (Array.getElem?_eq_some_iff.1 hg).1, hcell 0 _ rfl, hcell 3 _ rfl, fun i => frozen_of hg i, fun v f hf => ⟨?_, by rw [List.length_set]; exact h.2⟩⟩
    have hst := (World.ownsRow.stored h.1 (k * 4 + 3) (.int .i64 v)).1
    have he : (l.flatMap cellsL).set (k * 4 + 3) (.int .i64 v) = (l.set k (f x)).flatMap cellsL := by
      apply List.ext_getElem?
      intro i
      rw [List.getElem?_set, flat_len]
      have hl4 : ((l.set k (f x)).flatMap cellsL).length = l.length * 4 := by rw [flat_len, List.length_set]
      by_cases hi : k * 4 + 3 = i
      · subst hi
        rw [if_pos rfl, if_pos (by omega)]
        exact (flat_get _ k 3 (f x) _ (by simp [hk]) (by rw [hf]; rfl)).symm
      · rw [if_neg hi]
        rcases Nat.lt_or_ge i (l.length * 4) with h1 | h1
        · obtain ⟨u, hu⟩ : ∃ u, (l.flatMap cellsL)[i]? = some u := ⟨_, List.getElem?_eq_getElem (by rw [flat_len]; exact h1)⟩
          obtain ⟨y, hy, hyu⟩ := flat_inv l i u hu
          rw [hu]
          have h4 : i % 4 < 4 := Nat.mod_lt _ (by omega)
          by_cases hik : k = i / 4
          · subst hik
            have hxy := hx.symm.trans hy
            injection hxy with hxy
            subst hxy
            have := flat_get (l.set (i / 4) (f x)) (i / 4) (i % 4) (f x) u (by simp [hk]) (by
              rw [hf]
              have : i % 4 ≠ 3 := by omega
              match h5 : i % 4, h4, this with
              | 0, _, _ => rw [h5] at hyu; exact hyu
              | 1, _, _ => rw [h5] at hyu; exact hyu
              | 2, _, _ => rw [h5] at hyu; exact hyu
              | q + 3, h6, h7 => omega)
            rw [show i / 4 * 4 + i % 4 = i by omega] at this
            exact this.symm
          · have := flat_get (l.set k (f x)) (i / 4) (i % 4) y u (by rw [List.getElem?_set, if_neg hik]; exact hy) hyu
            rw [show i / 4 * 4 + i % 4 = i by omega] at this
            exact this.symm
        · rw [List.getElem?_eq_none (by rw [flat_len]; exact h1), List.getElem?_eq_none (by rw [hl4]; exact h1)]
    rw [← he]
    exact hst

set_option maxRecDepth 100000 in
set_option maxHeartbeats 6400000 in
theorem renew_own {last now : Int} {A : Option Addr} {n c : Nat} {l : List Lv} {w : World} (key host epoch ttl : Int) (h : RowL w A n c l) (hn : n ≤ 1000000) (hwt : okT ⟨last, now, l⟩ = true → ttlB ttl = true → IntKind.i64.wrap (now + ttl) = now + ttl) :
    Calls Tryz.prog 74 #[tv last now A n c, .int .i64 key, .int .i64 host, .int .i64 epoch, .int .i64 ttl] w (OwnedT w (renewP ⟨last, now, l⟩ key host epoch ttl).1 [.int .i64 (renewP ⟨last, now, l⟩ key host epoch ttl).2]) := by
  have HR := Lib.hid h
  have hbig := h.big
  have hcap := h.cap
  have hlen := Lib.hid h.len
  have HC := fun w (h : RowL w A n c l) => Lib.hid (check_any (last := last) (now := now) h hn)
  have HT := fun w => Lib.hid (ttl_any ttl w)
  have L1 : Hid (Below w.heap.size w ((w.alloc (.cells #[.int .i64 last, .int .i64 now, .slice A n c] 27)).alloc (.cells #[.int .i64 0, .int .i64 0, .slice none 0 0] 27))) := ((Below.refl w.heap.size w).alloc (Nat.le_refl _) _).alloc (by simp) _
  have B1 : Hid (TBox ((w.alloc (.cells #[.int .i64 last, .int .i64 now, .slice A n c] 27)).alloc (.cells #[.int .i64 0, .int .i64 0, .slice none 0 0] 27)) w.heap.size last now A n c) := heap_alloc2_old w _ _
  have N1 : Hid (TBox ((w.alloc (.cells #[.int .i64 last, .int .i64 now, .slice A n c] 27)).alloc (.cells #[.int .i64 0, .int .i64 0, .slice none 0 0] 27)) (w.heap.size + 1) 0 0 none 0 0) := heap_alloc2_new w _ _
  clear h
  have BAD : Hid (∀ (er : Int) w2, Below w.heap.size w w2 → OwnedT w zT [.int .i64 er] (.returned (.tuple #[tv 0 0 none 0 0, .int .i64 er])) w2) := fun er w2 hb => ⟨none, 0, rfl, RowS.nil _ _ _, OwnsL.nil _ _, hb⟩
  unfold renewP
  simp only
  rcases hok : okT ⟨last, now, l⟩
  · rw [hok] at HC
    go_enter Tryz.func74, Tryz.ntmps74
    go_upto_region 1 with fail
    generalize (w.alloc (.cells #[.int .i64 last, .int .i64 now, .slice A n c] 27)).alloc (.cells #[.int .i64 0, .int .i64 0, .slice none 0 0] 27) = w1 at *
    obtain ⟨m0, m1, m2⟩ := TBox.cells B1.out
    go_wp2_with fail
    refine (HC w1 (HR.out.below L1.out)).out.mono ?_
    rintro e w2 ⟨rfl, hb⟩
    have L2 := Lib.hid (L1.out.trans (hb.mono L1.out.size))
    have N2 := Lib.hid (Cells.below N1.out hb)
    have B2 := Lib.hid (Cells.below B1.out hb)
    clear hb m0 m1 m2 B1 N1 L1 HC
    obtain ⟨m0, m1, m2⟩ := TBox.cells B2.out
    obtain ⟨z0, z1, z2⟩ := TBox.cells N2.out
    obtain ⟨f0, f1, f2⟩ := TBox.frozen N2.out
    go_wp2_with fail
    refine bodyPost_ret_by (results_c1 rfl _ _ (w.heap.size + 1) _ _ _ _ rfl (Cells.set3 N2.out (.int .i64 0) (.int .i64 0) (.slice none 0 0)) Tryz.underlying27 rfl (by kernel_rfl)) rfl ?_
    exact BAD.out 1 _ (below3 L2.out (by omega) _ _ _)
  · rw [hok] at HC
    rcases hto : ttlB ttl
    · rw [hto] at HT
      go_enter Tryz.func74, Tryz.ntmps74
      go_upto_region 1 with fail
      generalize (w.alloc (.cells #[.int .i64 last, .int .i64 now, .slice A n c] 27)).alloc (.cells #[.int .i64 0, .int .i64 0, .slice none 0 0] 27) = w1 at *
      obtain ⟨m0, m1, m2⟩ := TBox.cells B1.out
      go_wp2_with fail
      refine (HC w1 (HR.out.below L1.out)).out.mono ?_
      rintro e w2 ⟨rfl, hb⟩
      have L2 := Lib.hid (L1.out.trans (hb.mono L1.out.size))
      have N2 := Lib.hid (Cells.below N1.out hb)
      have B2 := Lib.hid (Cells.below B1.out hb)
      clear hb m0 m1 m2 B1 N1 L1 HC
      obtain ⟨m0, m1, m2⟩ := TBox.cells B2.out
      go_wp2_with fail
      refine (HT w2).out.mono ?_
      rintro e w2' ⟨rfl, rfl⟩
      obtain ⟨z0, z1, z2⟩ := TBox.cells N2.out
      obtain ⟨f0, f1, f2⟩ := TBox.frozen N2.out
      go_wp2_with fail
      refine bodyPost_ret_by (results_c1 rfl _ _ (w.heap.size + 1) _ _ _ _ rfl (Cells.set3 N2.out (.int .i64 0) (.int .i64 0) (.slice none 0 0)) Tryz.underlying27 rfl (by kernel_rfl)) rfl ?_
      exact BAD.out 1 _ (below3 L2.out (by omega) _ _ _)
    · rw [hto] at HT
      have hri := okT_rises hok
      have HF := fun w (h : RowL w A n c l) => Lib.hid (find_any (key := key) h hri)
      have HRI := Lib.hid hri
      have HW := Lib.hid (hwt hok hto)
      clear hri hwt
      rcases hh : heldB l key
      · rw [hh] at HF
        go_enter Tryz.func74, Tryz.ntmps74
        go_upto_region 1 with fail
        generalize (w.alloc (.cells #[.int .i64 last, .int .i64 now, .slice A n c] 27)).alloc (.cells #[.int .i64 0, .int .i64 0, .slice none 0 0] 27) = w1 at *
        obtain ⟨m0, m1, m2⟩ := TBox.cells B1.out
        go_wp2_with fail
        refine (HC w1 (HR.out.below L1.out)).out.mono ?_
        rintro e w2 ⟨rfl, hb⟩
        have L2 := Lib.hid (L1.out.trans (hb.mono L1.out.size))
        have N2 := Lib.hid (Cells.below N1.out hb)
        have B2 := Lib.hid (Cells.below B1.out hb)
        clear hb m0 m1 m2 B1 N1 L1 HC
        obtain ⟨m0, m1, m2⟩ := TBox.cells B2.out
        go_wp2_with fail
        refine (HT w2).out.mono ?_
        rintro e w2' ⟨rfl, rfl⟩
        go_wp2_with fail
        refine (HF w2' (HR.out.below L2.out)).out.mono ?_
        rintro e w3 ⟨⟨k, rfl, hpl⟩, hb⟩
        have L3 := Lib.hid (L2.out.trans (hb.mono L2.out.size))
        have N3 := Lib.hid (Cells.below N2.out hb)
        have B3 := Lib.hid (Cells.below B2.out hb)
        clear hb hpl m0 m1 m2
        obtain ⟨z0, z1, z2⟩ := TBox.cells N3.out
        obtain ⟨f0, f1, f2⟩ := TBox.frozen N3.out
        go_wp2_with fail
        refine bodyPost_ret_by (results_c1 rfl _ _ (w.heap.size + 1) _ _ _ _ rfl (Cells.set3 N3.out (.int .i64 0) (.int .i64 0) (.slice none 0 0)) Tryz.underlying27 rfl (by kernel_rfl)) rfl ?_
        exact BAD.out 4 _ (below3 L3.out (by omega) _ _ _)
      · rw [hh] at HF
        have HH := Lib.hid hh
        obtain ⟨x, hx0⟩ : ∃ x, findL l key = some x := by rw [find_held] at hh; exact Option.isSome_iff_exists.1 hh
        have hgx : getL l key = x := by unfold getL; rw [hx0]; rfl
        rw [hgx]
        have HX0 := Lib.hid hx0
        clear hx0 hgx
        rcases e1 : (x.host != host)
        · rcases e2 : (x.epoch != epoch)
          · go_enter Tryz.func74, Tryz.ntmps74
            go_upto_region 1 with fail
            generalize (w.alloc (.cells #[.int .i64 last, .int .i64 now, .slice A n c] 27)).alloc (.cells #[.int .i64 0, .int .i64 0, .slice none 0 0] 27) = w1 at *
            obtain ⟨m0, m1, m2⟩ := TBox.cells B1.out
            go_wp2_with fail
            refine (HC w1 (HR.out.below L1.out)).out.mono ?_
            rintro e w2 ⟨rfl, hb⟩
            have L2 := Lib.hid (L1.out.trans (hb.mono L1.out.size))
            have N2 := Lib.hid (Cells.below N1.out hb)
            have B2 := Lib.hid (Cells.below B1.out hb)
            clear hb m0 m1 m2 B1 N1 L1 HC
            obtain ⟨m0, m1, m2⟩ := TBox.cells B2.out
            go_wp2_with fail
            refine (HT w2).out.mono ?_
            rintro e w2' ⟨rfl, rfl⟩
            go_wp2_with fail
            refine (HF w2' (HR.out.below L2.out)).out.mono ?_
            rintro e w3 ⟨⟨k, rfl, hpl⟩, hb⟩
            have L3 := Lib.hid (L2.out.trans (hb.mono L2.out.size))
            have N3 := Lib.hid (Cells.below N2.out hb)
            have B3 := Lib.hid (Cells.below B2.out hb)
            obtain ⟨x', hx, hxk, hfx⟩ := place_held HRI.out hpl HH.out
            obtain rfl : x' = x := by have := HX0.out.symm.trans hfx; injection this with this; exact this.symm
            obtain ⟨b, o, hA, c0, c1, c2, c3⟩ := RowS.lease_at (HR.out.below L3.out) hx
            subst hA
            have hkl : k < n := by have := (List.getElem?_eq_some_iff.1 hx).1; have := hlen.out; omega
            have hk0 : (0 : Int) ≤ (k : Int) := by omega
            have hkn : (k : Int) < (n : Int) := by omega
            have HPS := Lib.hid (place_set HRI.out hx hxk (longer ⟨last, now, l⟩ ttl))
            have HXX := Lib.hid hx
            clear hb hpl m0 m1 m2 B2 N2 L2 HF HT hx hxk hfx
            obtain ⟨m0, m1, m2⟩ := TBox.cells B3.out
            have HCL := fun w (h : RowL w (some ⟨b, o, none⟩) n c l) => Lib.hid (clone_any h hn)
            go_upto_region 9 with fail
            go_wp2_with fail
            refine (HCL w3 (HR.out.below L3.out)).out.mono ?_
            rintro e w4 ⟨⟨X, d, rfl, hX⟩, hb⟩
            have L4 := Lib.hid (L3.out.trans (hb.mono L3.out.size))
            have N4 := Lib.hid (Cells.below N3.out hb)
            have B4 := Lib.hid (Cells.below B3.out hb)
            have hlt : w.heap.size + 1 < w3.heap.size := Cells.lt N3.out
            have C5 : Hid (TBox (w4.setCell ⟨w.heap.size, 2, none⟩ (.slice X n d)) w.heap.size last now X n d) := Cells.set_ B4.out 2 (.slice X n d)
            have N5 : Hid (TBox (w4.setCell ⟨w.heap.size, 2, none⟩ (.slice X n d)) (w.heap.size + 1) 0 0 none 0 0) := Cells.set_other N4.out (by omega) 2 _
            have L5 : Hid (Below w.heap.size w (w4.setCell ⟨w.heap.size, 2, none⟩ (.slice X n d))) := L4.out.setCell (p := ⟨w.heap.size, 2, none⟩) (Nat.le_refl _) _
            have X5 : Hid (OwnsL w3.heap.size (w4.setCell ⟨w.heap.size, 2, none⟩ (.slice X n d)) (.slice X n d) n l) := hX.setCell (p := ⟨w.heap.size, 2, none⟩) (by show w.heap.size < _; omega) _
            clear hb hX m0 m1 m2 c0 c1 c2 c3 e1 e2 HCL
            obtain ⟨m0, m1, m2⟩ := TBox.cells B4.out
            obtain ⟨f0, f1, f2⟩ := TBox.frozen B4.out
            go_upto_region 10 with fail
            clear m0 m1 m2 f0 f1 f2
            generalize w4.setCell ⟨w.heap.size, 2, none⟩ (.slice X n d) = w5 at *
            have C6 : Hid (TBox w5.drew w.heap.size last now X n d) := C5
            have N6 : Hid (TBox w5.drew (w.heap.size + 1) 0 0 none 0 0) := N5
            have L6 : Hid (Below w.heap.size w w5.drew) := L5.out.drew
            have X6 : Hid (OwnsL w3.heap.size w5.drew (.slice X n d) n l) := OwnsL.drew X5.out
            clear C5 N5 L5 X5 B4 N4 L4 B3 N3
            obtain ⟨g, rfl, hbg, hgw, q0, q3, hfz, hset⟩ := OwnsL.at_ X6.out HXX.out
            have FIN : Hid (∀ w9, But (w.heap.size + 1) (w5.drew.setCell ⟨g, k * 4 + 3, none⟩ (.int .i64 (max x'.til (now + ttl)))) w9 → OwnedT w ⟨last, now, setK l key (longer ⟨last, now, l⟩ ttl)⟩ [.int .i64 0] (.returned (.tuple #[tv last now (some ⟨g, 0, none⟩) n d, .int .i64 0])) w9) := by
              show ∀ _, _
              intro w9 hB
              have h1 := (hset (max x'.til (now + ttl)) (longer ⟨last, now, l⟩ ttl) rfl).but hB (by omega)
              rw [HPS.out] at h1
              have h2 := h1.2
              have h3 := h1.row (by omega)
              refine ⟨some ⟨g, 0, none⟩, d, ?_, ?_, by rw [show (setK l key (longer ⟨last, now, l⟩ ttl)).length = n from h2]; exact h1.mono (by omega), (L6.out.setCell (p := ⟨g, k * 4 + 3, none⟩) (by show w.heap.size ≤ g; omega) _).trans (hB.below (by simpa using L6.out.size) (by omega))⟩
              · show _ = Ending.returned (.tuple #[tv last now (some ⟨g, 0, none⟩) (setK l key _).length d, .int .i64 0])
                rw [h2]
              · show RowL w9 _ (setK l key _).length d _
                rw [h2]; exact h3
            have C7 : Hid (TBox (w5.drew.setCell ⟨g, k * 4 + 3, none⟩ (.int .i64 (max x'.til (now + ttl)))) w.heap.size last now (some ⟨g, 0, none⟩) n d) := Cells.set_other C6.out (by omega) _ _
            have N7 : Hid (TBox (w5.drew.setCell ⟨g, k * 4 + 3, none⟩ (.int .i64 (max x'.til (now + ttl)))) (w.heap.size + 1) 0 0 none 0 0) := Cells.set_other N6.out (by omega) _ _
            have hfz3 := hfz (k * 4 + 3)
            have hw := HW.out
            clear hset hfz X6
            obtain ⟨m0, m1, m2⟩ := TBox.cells C6.out
            go_still_tail 16, (by kernel_rfl)
            change wpList _ _ _ _ _ w5.drew
            generalize w5.drew = w6 at *
            go_upto_region 11 with fail
            clear m0 m1 m2 q0 q3 hfz3 C6 N6
            have L7 := L6
            clear L6 hgw
            generalize w6.setCell ⟨g, k * 4 + 3, none⟩ (.int .i64 (max x'.til (now + ttl))) = w7 at *
            obtain ⟨m0, m1, m2⟩ := TBox.cells C7.out
            obtain ⟨z0, z1, z2⟩ := TBox.cells N7.out
            obtain ⟨f0, f1, f2⟩ := TBox.frozen N7.out
            go_wp2_with fail
            refine bodyPost_ret_by (results_c1 rfl _ _ (w.heap.size + 1) _ _ _ _ rfl (Cells.set3 N7.out (.int .i64 last) (.int .i64 now) (.slice (some ⟨g, 0, none⟩) n d)) Tryz.underlying27 rfl (by kernel_rfl)) rfl ?_
            exact FIN.out _ (But.set3 _ _ _ _ _)
          · go_enter Tryz.func74, Tryz.ntmps74
            go_upto_region 1 with fail
            generalize (w.alloc (.cells #[.int .i64 last, .int .i64 now, .slice A n c] 27)).alloc (.cells #[.int .i64 0, .int .i64 0, .slice none 0 0] 27) = w1 at *
            obtain ⟨m0, m1, m2⟩ := TBox.cells B1.out
            go_wp2_with fail
            refine (HC w1 (HR.out.below L1.out)).out.mono ?_
            rintro e w2 ⟨rfl, hb⟩
            have L2 := Lib.hid (L1.out.trans (hb.mono L1.out.size))
            have N2 := Lib.hid (Cells.below N1.out hb)
            have B2 := Lib.hid (Cells.below B1.out hb)
            clear hb m0 m1 m2 B1 N1 L1 HC
            obtain ⟨m0, m1, m2⟩ := TBox.cells B2.out
            go_wp2_with fail
            refine (HT w2).out.mono ?_
            rintro e w2' ⟨rfl, rfl⟩
            go_wp2_with fail
            refine (HF w2' (HR.out.below L2.out)).out.mono ?_
            rintro e w3 ⟨⟨k, rfl, hpl⟩, hb⟩
            have L3 := Lib.hid (L2.out.trans (hb.mono L2.out.size))
            have N3 := Lib.hid (Cells.below N2.out hb)
            have B3 := Lib.hid (Cells.below B2.out hb)
            obtain ⟨x', hx, hxk, hfx⟩ := place_held HRI.out hpl HH.out
            obtain rfl : x' = x := by have := HX0.out.symm.trans hfx; injection this with this; exact this.symm
            obtain ⟨b, o, hA, c0, c1, c2, c3⟩ := RowS.lease_at (HR.out.below L3.out) hx
            subst hA
            have hkl : k < n := by have := (List.getElem?_eq_some_iff.1 hx).1; have := hlen.out; omega
            have hk0 : (0 : Int) ≤ (k : Int) := by omega
            have hkn : (k : Int) < (n : Int) := by omega
            have HPS := Lib.hid (place_set HRI.out hx hxk (longer ⟨last, now, l⟩ ttl))
            have HXX := Lib.hid hx
            clear hb hpl m0 m1 m2 B2 N2 L2 HF HT hx hxk hfx
            obtain ⟨m0, m1, m2⟩ := TBox.cells B3.out
            obtain ⟨z0, z1, z2⟩ := TBox.cells N3.out
            obtain ⟨f0, f1, f2⟩ := TBox.frozen N3.out
            go_wp2_with fail
            refine bodyPost_ret_by (results_c1 rfl _ _ (w.heap.size + 1) _ _ _ _ rfl (Cells.set3 N3.out (.int .i64 0) (.int .i64 0) (.slice none 0 0)) Tryz.underlying27 rfl (by kernel_rfl)) rfl ?_
            exact BAD.out 61 _ (below3 L3.out (by omega) _ _ _)
        · go_enter Tryz.func74, Tryz.ntmps74
          go_upto_region 1 with fail
          generalize (w.alloc (.cells #[.int .i64 last, .int .i64 now, .slice A n c] 27)).alloc (.cells #[.int .i64 0, .int .i64 0, .slice none 0 0] 27) = w1 at *
          obtain ⟨m0, m1, m2⟩ := TBox.cells B1.out
          go_wp2_with fail
          refine (HC w1 (HR.out.below L1.out)).out.mono ?_
          rintro e w2 ⟨rfl, hb⟩
          have L2 := Lib.hid (L1.out.trans (hb.mono L1.out.size))
          have N2 := Lib.hid (Cells.below N1.out hb)
          have B2 := Lib.hid (Cells.below B1.out hb)
          clear hb m0 m1 m2 B1 N1 L1 HC
          obtain ⟨m0, m1, m2⟩ := TBox.cells B2.out
          go_wp2_with fail
          refine (HT w2).out.mono ?_
          rintro e w2' ⟨rfl, rfl⟩
          go_wp2_with fail
          refine (HF w2' (HR.out.below L2.out)).out.mono ?_
          rintro e w3 ⟨⟨k, rfl, hpl⟩, hb⟩
          have L3 := Lib.hid (L2.out.trans (hb.mono L2.out.size))
          have N3 := Lib.hid (Cells.below N2.out hb)
          have B3 := Lib.hid (Cells.below B2.out hb)
          obtain ⟨x', hx, hxk, hfx⟩ := place_held HRI.out hpl HH.out
          obtain rfl : x' = x := by have := HX0.out.symm.trans hfx; injection this with this; exact this.symm
          obtain ⟨b, o, hA, c0, c1, c2, c3⟩ := RowS.lease_at (HR.out.below L3.out) hx
          subst hA
          have hkl : k < n := by have := (List.getElem?_eq_some_iff.1 hx).1; have := hlen.out; omega
          have hk0 : (0 : Int) ≤ (k : Int) := by omega
          have hkn : (k : Int) < (n : Int) := by omega
          have HPS := Lib.hid (place_set HRI.out hx hxk (longer ⟨last, now, l⟩ ttl))
          have HXX := Lib.hid hx
          clear hb hpl m0 m1 m2 B2 N2 L2 HF HT hx hxk hfx
          obtain ⟨m0, m1, m2⟩ := TBox.cells B3.out
          obtain ⟨z0, z1, z2⟩ := TBox.cells N3.out
          obtain ⟨f0, f1, f2⟩ := TBox.frozen N3.out
          go_wp2_with fail
          refine bodyPost_ret_by (results_c1 rfl _ _ (w.heap.size + 1) _ _ _ _ rfl (Cells.set3 N3.out (.int .i64 0) (.int .i64 0) (.slice none 0 0)) Tryz.underlying27 rfl (by kernel_rfl)) rfl ?_
          exact BAD.out 61 _ (below3 L3.out (by omega) _ _ _)
theorem renew_any {last now : Int} {A : Option Addr} {n c : Nat} {l : List Lv} {w : World} (key host epoch ttl : Int) (h : RowL w A n c l) (hn : n ≤ 1000000) (hwt : okT ⟨last, now, l⟩ = true → ttlB ttl = true → IntKind.i64.wrap (now + ttl) = now + ttl) :
    Calls Tryz.prog 74 #[tv last now A n c, .int .i64 key, .int .i64 host, .int .i64 epoch, .int .i64 ttl] w (GaveT w (renewP ⟨last, now, l⟩ key host epoch ttl).1 [.int .i64 (renewP ⟨last, now, l⟩ key host epoch ttl).2]) := by
  exact (renew_own key host epoch ttl h hn hwt).mono fun _ _ h => h.gave
end Lea
end Go.Proofs.YtcpkgcckjphbfaaGreat
