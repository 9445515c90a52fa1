/-
  WALKS: what the document's own Renew comes to. (Written by gen_learefb.py.)
-/
import Derived.Test.YtehknenlifdchaaLeaRefS
import Derived.Test.YtehknenlifdchaaLeaRefB
import Derived.Test.YtehknenlifdchaaLeaRenew
namespace Go.Proofs.Ytehknenlifdchaa
open Go.RowKit Mem
namespace Lea

/-- A table's leases of which the first k have been gone through. -/
def mix (l : List Lv) (key : Int) (f : Lv → Lv) (k : Nat) : List Lv := setK (l.take k) key f ++ l.drop k
theorem mix_zero (l : List Lv) (key : Int) (f : Lv → Lv) : mix l key f 0 = l := by simp [mix, setK]
theorem mix_end {l : List Lv} {n : Nat} (key : Int) (f : Lv → Lv) (h : l.length = n) : mix l key f n = setK l key f := by
  unfold mix
  rw [List.take_of_length_le (by omega), List.drop_eq_nil_of_le (by omega), List.append_nil]
theorem mix_at {l : List Lv} {k : Nat} {x : Lv} (key : Int) (f : Lv → Lv) (hx : l[k]? = some x) : (mix l key f k)[k]? = some x := by
  have hk := (List.getElem?_eq_some_iff.1 hx).1
  unfold mix setK
  rw [List.getElem?_append_right (by simp only [List.length_map, List.length_take]; omega), List.getElem?_drop]
  simp only [List.length_map, List.length_take]
  rw [show k + (k - min k l.length) = k by omega]
  exact hx
theorem mix_next {l : List Lv} {k : Nat} {x : Lv} (key : Int) (f : Lv → Lv) (hx : l[k]? = some x) : mix l key f (k + 1) = (mix l key f k).set k (bif x.key == key then f x else x) := by
  have hk := (List.getElem?_eq_some_iff.1 hx).1
  unfold mix
  rw [drop_cons hx, List.take_add_one, hx, Option.toList_some]
  unfold setK
  rw [List.map_append, List.map_cons, List.map_nil]
  have hl : ((l.take k).map (fun x => bif x.key == key then f x else x)).length = k := by simp; omega
  rw [List.set_append_right _ _ (by omega), hl, Nat.sub_self, List.set_cons_zero]
  simp

set_option maxRecDepth 100000 in
set_option maxHeartbeats 25600000 in
theorem refRenew_any {last now : Int} {A : Option Addr} {n c : Nat} {l : List Lv} {w : World} (key host epoch ttl : Int) (h : RowL w A n c l) (hn : n ≤ 1000000) (hwt : okT ⟨last, now, l⟩ = true → ttlB ttl = true → IntKind.i64.wrap (now + ttl) = now + ttl) :
    Calls Try.prog 32 #[tv last now A n c, .int .i64 key, .int .i64 host, .int .i64 epoch, .int .i64 ttl] w (GaveT w (renewP ⟨last, now, l⟩ key host epoch ttl).1 [.int .i64 (renewP ⟨last, now, l⟩ key host epoch ttl).2]) := by
  have HR := Lib.hid h
  have hbig := h.big
  have hlen := Lib.hid h.len
  have HC := fun w (h : RowL w A n c l) => Lib.hid (refCheck_any (last := last) (now := now) h hn)
  have HH := fun w (h : RowL w A n c l) => Lib.hid (refHolder_any (last := last) (now := now) key h hn)
  have HCP := fun w (h : RowL w A n c l) => Lib.hid (refCopy_any (last := last) (now := now) h hn)
  unfold errOf at HC
  unfold holdP at HH
  have L1 : Hid (Below w.heap.size w ((w.alloc (.cells #[.int .i64 last, .int .i64 now, .slice A n c] 24)).alloc (.cells #[.int .i64 0, .int .i64 0, .slice none 0 0] 24))) := ((Below.refl w.heap.size w).alloc (Nat.le_refl _) _).alloc (by simp) _
  have B1 : Hid (TBox ((w.alloc (.cells #[.int .i64 last, .int .i64 now, .slice A n c] 24)).alloc (.cells #[.int .i64 0, .int .i64 0, .slice none 0 0] 24)) w.heap.size last now A n c) := heap_alloc2_old w _ _
  have N1 : Hid (TBox ((w.alloc (.cells #[.int .i64 last, .int .i64 now, .slice A n c] 24)).alloc (.cells #[.int .i64 0, .int .i64 0, .slice none 0 0] 24)) (w.heap.size + 1) 0 0 none 0 0) := heap_alloc2_new w _ _
  clear h
  have BAD : Hid (∀ (er : Int) w2, Below w.heap.size w w2 → GaveT w zT [.int .i64 er] (.returned (.tuple #[tv 0 0 none 0 0, .int .i64 er])) w2) := fun er w2 hb => ⟨none, 0, rfl, RowS.nil _ _ _, hb⟩
  have c3 : decide (1 ≤ ttl) = !decide (ttl < 1) := by rw [Bool.eq_iff_iff]; simp <;> omega
  have c4 : decide (ttl ≤ 1099511627776) = !decide (1099511627776 < ttl) := by rw [Bool.eq_iff_iff]; simp
  have HTB : Hid (ttlB ttl = (!decide (ttl < 1) && !decide (1099511627776 < ttl))) := by show _ = _; unfold ttlB; rw [c3, c4]
  clear c3 c4
  unfold renewP
  simp only at HH ⊢
  rcases hok : okT ⟨last, now, l⟩
  · rw [hok] at HC
    simp only [cond_false] at HC
    clear hwt HTB
    go_enter Try.func32, Try.ntmps32
    go_upto_region 1 with fail
    generalize (w.alloc (.cells #[.int .i64 last, .int .i64 now, .slice A n c] 24)).alloc (.cells #[.int .i64 0, .int .i64 0, .slice none 0 0] 24) = w1 at *
    obtain ⟨m0, m1, m2⟩ := TBox.cells B1.out
    go_wp2_with fail
    refine (HC w1 (HR.out.below L1.out)).out.mono ?_
    rintro e w2 ⟨rfl, hb⟩
    have L2 := Lib.hid (L1.out.trans (hb.mono L1.out.size))
    have B2 := Lib.hid (Cells.below B1.out hb)
    have N2 := Lib.hid (Cells.below N1.out hb)
    clear hb m0 m1 m2 B1 N1 L1 HC
    obtain ⟨m0, m1, m2⟩ := TBox.cells B2.out
    obtain ⟨z0, z1, z2⟩ := TBox.cells N2.out
    obtain ⟨f0, f1, f2⟩ := TBox.frozen N2.out
    go_wp2_with fail
    refine bodyPost_ret_by (results_c1 rfl _ _ (w.heap.size + 1) _ _ _ _ rfl (Cells.set3 N2.out (.int .i64 0) (.int .i64 0) (.slice none 0 0)) Try.underlying24 rfl (by kernel_rfl)) rfl ?_
    exact BAD.out 1 _ (below3 L2.out (by omega) _ _ _)
  · rw [hok] at HC HH
    simp only [cond_true, Bool.true_and] at HC HH
    rcases q1 : decide (ttl < 1)
    · rcases q2 : decide (1099511627776 < ttl)
      · skip
        have hto : ttlB ttl = true := by rw [HTB.out, q1, q2]; rfl
        rw [hto]
        have HW := Lib.hid (hwt hok hto)
        have HRI := Lib.hid (okT_rises hok)
        clear hto hwt HTB
        rcases hh : heldB l key
        · rw [hh] at HH
          simp only [cond_false, zL] at HH
          go_enter Try.func32, Try.ntmps32
          go_upto_region 1 with fail
          generalize (w.alloc (.cells #[.int .i64 last, .int .i64 now, .slice A n c] 24)).alloc (.cells #[.int .i64 0, .int .i64 0, .slice none 0 0] 24) = w1 at *
          obtain ⟨m0, m1, m2⟩ := TBox.cells B1.out
          go_wp2_with fail
          refine (HC w1 (HR.out.below L1.out)).out.mono ?_
          rintro e w2 ⟨rfl, hb⟩
          have L2 := Lib.hid (L1.out.trans (hb.mono L1.out.size))
          have B2 := Lib.hid (Cells.below B1.out hb)
          have N2 := Lib.hid (Cells.below N1.out hb)
          clear hb m0 m1 m2 B1 N1 L1 HC
          obtain ⟨m0, m1, m2⟩ := TBox.cells B2.out
          go_wp2_with fail
          refine (HH w2 (HR.out.below L2.out)).out.mono ?_
          rintro e w3' ⟨rfl, hb⟩
          have L3 : Hid (Below w.heap.size w (w3'.alloc (.cells #[.int .i64 0, .int .i64 0, .int .i64 0, .int .i64 0] 43))) := (L2.out.trans (hb.mono L2.out.size)).alloc (Nat.le_trans L2.out.size hb.size) _
          have B3 : Hid (TBox (w3'.alloc (.cells #[.int .i64 0, .int .i64 0, .int .i64 0, .int .i64 0] 43)) w.heap.size last now A n c) := Cells.alloc (Cells.below B2.out hb) _
          have N3 : Hid (TBox (w3'.alloc (.cells #[.int .i64 0, .int .i64 0, .int .i64 0, .int .i64 0] 43)) (w.heap.size + 1) 0 0 none 0 0) := Cells.alloc (Cells.below N2.out hb) _
          have H3 : Hid (LBox (w3'.alloc (.cells #[.int .i64 0, .int .i64 0, .int .i64 0, .int .i64 0] 43)) w3'.heap.size zL) := Cells.new _ _ _
          clear hb m0 m1 m2
          go_upto_region 4 with fail
          clear L2 B2 N2
          generalize w3'.alloc (.cells #[.int .i64 0, .int .i64 0, .int .i64 0, .int .i64 0] 43) = w3 at *
          obtain ⟨z0, z1, z2⟩ := TBox.cells N3.out
          obtain ⟨f0, f1, f2⟩ := TBox.frozen N3.out
          go_wp2_with fail
          refine bodyPost_ret_by (results_c1 rfl _ _ (w.heap.size + 1) _ _ _ _ rfl (Cells.set3 N3.out (.int .i64 0) (.int .i64 0) (.slice none 0 0)) Try.underlying24 rfl (by kernel_rfl)) rfl ?_
          exact BAD.out 4 _ (below3 L3.out (by omega) _ _ _)
        · skip
          rw [hh] at HH
          simp only [cond_true] at HH
          have HX0 : Hid (∀ x ∈ l, x.key = key → getL l key = x) := by
            show ∀ _, _
            intro x hx hk
            subst hk
            unfold getL
            rw [find_of HRI.out hx]
            rfl
          generalize getL l key = x0 at *
          rcases e1 : (x0.host != host)
          · rcases e2 : (x0.epoch != epoch)
            · go_enter Try.func32, Try.ntmps32
              go_upto_region 1 with fail
              generalize (w.alloc (.cells #[.int .i64 last, .int .i64 now, .slice A n c] 24)).alloc (.cells #[.int .i64 0, .int .i64 0, .slice none 0 0] 24) = w1 at *
              obtain ⟨m0, m1, m2⟩ := TBox.cells B1.out
              go_wp2_with fail
              refine (HC w1 (HR.out.below L1.out)).out.mono ?_
              rintro e w2 ⟨rfl, hb⟩
              have L2 := Lib.hid (L1.out.trans (hb.mono L1.out.size))
              have B2 := Lib.hid (Cells.below B1.out hb)
              have N2 := Lib.hid (Cells.below N1.out hb)
              clear hb m0 m1 m2 B1 N1 L1 HC
              obtain ⟨m0, m1, m2⟩ := TBox.cells B2.out
              go_wp2_with fail
              refine (HH w2 (HR.out.below L2.out)).out.mono ?_
              rintro e w3' ⟨rfl, hb⟩
              have L3 : Hid (Below w.heap.size w (w3'.alloc (.cells #[.int .i64 x0.key, .int .i64 x0.host, .int .i64 x0.epoch, .int .i64 x0.til] 43))) := (L2.out.trans (hb.mono L2.out.size)).alloc (Nat.le_trans L2.out.size hb.size) _
              have B3 : Hid (TBox (w3'.alloc (.cells #[.int .i64 x0.key, .int .i64 x0.host, .int .i64 x0.epoch, .int .i64 x0.til] 43)) w.heap.size last now A n c) := Cells.alloc (Cells.below B2.out hb) _
              have N3 : Hid (TBox (w3'.alloc (.cells #[.int .i64 x0.key, .int .i64 x0.host, .int .i64 x0.epoch, .int .i64 x0.til] 43)) (w.heap.size + 1) 0 0 none 0 0) := Cells.alloc (Cells.below N2.out hb) _
              have H3 : Hid (LBox (w3'.alloc (.cells #[.int .i64 x0.key, .int .i64 x0.host, .int .i64 x0.epoch, .int .i64 x0.til] 43)) w3'.heap.size x0) := Cells.new _ _ _
              clear hb m0 m1 m2
              go_upto_region 6 with fail
              clear L2 B2 N2
              generalize w3'.alloc (.cells #[.int .i64 x0.key, .int .i64 x0.host, .int .i64 x0.epoch, .int .i64 x0.til] 43) = w3 at *
              obtain ⟨h0, h1, h2, h3⟩ := LBox.cells H3.out
              go_upto_region 8 with fail
              clear h0 h1 h2 h3 q1 q2
              obtain ⟨m0, m1, m2⟩ := TBox.cells B3.out
              go_wp2_with fail
              refine (HCP w3 (HR.out.below L3.out)).out.mono ?_
              rintro e w4 ⟨⟨B, d, rfl, hO⟩, hb⟩
              have hlt2 : w.heap.size + 1 < w3.heap.size := Cells.lt N3.out
              have hlt3 := Cells.lt H3.out
              have hsz4 := hb.size
              have HBL : Hid (∀ k, (Value.slice B n d).ownBlock = some k → k < w4.heap.size) := fun k hk => (hO.lt k hk).2
              have L5 : Hid (Below w3.heap.size w3 (w4.alloc (.cells #[.int .i64 last, .int .i64 now, .slice B n d] 24))) := hb.alloc hb.size _
              have B5 : Hid (TBox (w4.alloc (.cells #[.int .i64 last, .int .i64 now, .slice B n d] 24)) w.heap.size last now A n c) := Cells.alloc (Cells.below B3.out hb) _
              have H5 : Hid (LBox (w4.alloc (.cells #[.int .i64 last, .int .i64 now, .slice B n d] 24)) w3'.heap.size x0) := Cells.alloc (Cells.below H3.out hb) _
              have C5 : Hid (TBox (w4.alloc (.cells #[.int .i64 last, .int .i64 now, .slice B n d] 24)) w4.heap.size last now B n d) := Cells.new _ _ _
              have O5 : Hid (OwnsL (w3.heap.size + 2) (w4.alloc (.cells #[.int .i64 last, .int .i64 now, .slice B n d] 24)) (.slice B n d) n (mix l key (longer ⟨last, now, l⟩ ttl) 0)) := by show OwnsL _ _ _ _ _; rw [mix_zero]; exact OwnsL.alloc hO _
              clear hb hO m0 m1 m2
              obtain ⟨m0, m1, m2⟩ := TBox.cells C5.out
              go_upto_region 9 with fail
              generalize w4.alloc (.cells #[.int .i64 last, .int .i64 now, .slice B n d] 24) = w5 at *
              go_wp2_with fail
              clear m0 m1 m2
              go_loopw [15, 53] (fun _ i wr => ∃ k : Nat, i = .int .i64 k ∧ k ≤ n ∧ Hid (Below w3.heap.size w3 wr ∧ OwnsL (w3.heap.size + 2) wr (.slice B n d) n (mix l key (longer ⟨last, now, l⟩ ttl) k) ∧ TBox wr w4.heap.size last now B n d)) (fun _ i _ => n - (intOf i).toNat)
              case atStart => exact ⟨0, rfl, by omega, L5.out, O5.out, C5.out⟩
              case round =>
                obtain ⟨k, rfl, hk, hH⟩ := hrel
                by_cases hlt : k < n
                · obtain ⟨x, hx⟩ : ∃ x, l[k]? = some x := HR.out.get hlt
                  obtain ⟨gB, rfl, hbg, hgw, c0, c3, hfz, hset⟩ := OwnsL.at_ hH.out.2.1 (mix_at key (longer ⟨last, now, l⟩ ttl) hx)
                  have hgB := HBL.out gB rfl
                  have HNX := Lib.hid (mix_next key (longer ⟨last, now, l⟩ ttl) hx)
                  have HXM := Lib.hid (List.mem_of_getElem? hx)
                  have hk0 : (0 : Int) ≤ (k : Int) := by omega
                  have hkn : (k : Int) < (n : Int) := by omega
                  obtain ⟨m0, m1, m2⟩ := TBox.cells hH.out.2.2
                  rcases e : (x.key == key)
                  · have HE := Lib.hid e
                    have HSE : Hid ((mix l key (longer ⟨last, now, l⟩ ttl) k).set k x = mix l key (longer ⟨last, now, l⟩ ttl) k) := by
                      show _ = _
                      have := mix_at key (longer ⟨last, now, l⟩ ttl) hx
                      obtain ⟨h1, h2⟩ := List.getElem?_eq_some_iff.1 this
                      conv => lhs; rw [← h2]
                      exact List.set_getElem_self h1
                    clear hset hfz hx
                    go_wp2_with fail
                    go_roundw
                    case rel => exact ⟨k + 1, by go_num, by omega, hH.out.1, by rw [HNX.out, HE.out, cond_false, HSE.out]; exact hH.out.2.1, hH.out.2.2⟩
                    case measure => simp [intOf]; omega
                  · have HE := Lib.hid e
                    have hkk : x.key = key := by simpa using e
                    have H00 := Lib.hid (HX0.out x HXM.out hkk)
                    have BW := Lib.hid (Cells.below B3.out hH.out.1)
                    have HW3 := Lib.hid (Cells.below H3.out hH.out.1)
                    obtain ⟨b0, b1, b2⟩ := TBox.cells BW.out
                    obtain ⟨p0, p1, p2, p3⟩ := LBox.cells HW3.out
                    have hfz3 := hfz (k * 4 + 3)
                    have hw := HW.out
                    have O7 : Hid (OwnsL (w3.heap.size + 2) (wr.setCell ⟨gB, k * 4 + 3, none⟩ (.int .i64 (max x0.til (now + ttl)))) (.slice (some ⟨gB, 0, none⟩) n d) n (mix l key (longer ⟨last, now, l⟩ ttl) (k + 1))) := by
                      show OwnsL _ _ _ _ _
                      rw [HNX.out, HE.out, cond_true]
                      exact hset (max x0.til (now + ttl)) (longer ⟨last, now, l⟩ ttl) (by rw [H00.out]; rfl)
                    have C7 : Hid (TBox (wr.setCell ⟨gB, k * 4 + 3, none⟩ (.int .i64 (max x0.til (now + ttl)))) w4.heap.size last now (some ⟨gB, 0, none⟩) n d) := Cells.set_other hH.out.2.2 (by omega) _ _
                    have L7 : Hid (Below w3.heap.size w3 (wr.setCell ⟨gB, k * 4 + 3, none⟩ (.int .i64 (max x0.til (now + ttl))))) := hH.out.1.setCell (p := ⟨gB, k * 4 + 3, none⟩) (by show w3.heap.size ≤ gB; omega) _
                    clear hset hfz hx hkk
                    go_wp2_with fail
                    go_roundw
                    case rel => exact ⟨k + 1, by go_num, by omega, L7.out, O7.out, C7.out⟩
                    case measure => simp [intOf]; omega
                · have hkn : k = n := by omega
                  subst hkn
                  have N9 := Lib.hid (Cells.below N3.out hH.out.1)
                  have FIN : Hid (∀ w9, But (w.heap.size + 1) wr w9 → GaveT w ⟨last, now, setK l key (longer ⟨last, now, l⟩ ttl)⟩ [.int .i64 0] (.returned (.tuple #[tv last now B k d, .int .i64 0])) w9) := by
                    show ∀ _, _
                    intro w9 hB
                    have h := hH.out
                    rw [mix_end key _ hlen.out] at h
                    have h1 := h.2.1.but hB (by omega)
                    have h2 := h1.2
                    have h3 := h1.row (by omega)
                    refine ⟨B, d, ?_, ?_, (L3.out.trans (h.1.mono L3.out.size)).trans (hB.below (Nat.le_trans L3.out.size h.1.size) (by omega))⟩
                    · show _ = Ending.returned (.tuple #[tv last now B (setK l key _).length d, .int .i64 0])
                      rw [h2]
                    · show RowL w9 _ (setK l key _).length d _
                      rw [h2]; exact h3
                  obtain ⟨m0, m1, m2⟩ := TBox.cells hH.out.2.2
                  obtain ⟨z0, z1, z2⟩ := TBox.cells N9.out
                  obtain ⟨f0, f1, f2⟩ := TBox.frozen N9.out
                  go_wp2_with fail
                  refine bodyPost_ret_by (results_c1 rfl _ _ (w.heap.size + 1) _ _ _ _ rfl (Cells.set3 N9.out (.int .i64 last) (.int .i64 now) (.slice B k d)) Try.underlying24 rfl (by kernel_rfl)) rfl ?_
                  exact FIN.out _ (But.set3 _ _ _ _ _)
            · go_enter Try.func32, Try.ntmps32
              go_upto_region 1 with fail
              generalize (w.alloc (.cells #[.int .i64 last, .int .i64 now, .slice A n c] 24)).alloc (.cells #[.int .i64 0, .int .i64 0, .slice none 0 0] 24) = w1 at *
              obtain ⟨m0, m1, m2⟩ := TBox.cells B1.out
              go_wp2_with fail
              refine (HC w1 (HR.out.below L1.out)).out.mono ?_
              rintro e w2 ⟨rfl, hb⟩
              have L2 := Lib.hid (L1.out.trans (hb.mono L1.out.size))
              have B2 := Lib.hid (Cells.below B1.out hb)
              have N2 := Lib.hid (Cells.below N1.out hb)
              clear hb m0 m1 m2 B1 N1 L1 HC
              obtain ⟨m0, m1, m2⟩ := TBox.cells B2.out
              go_wp2_with fail
              refine (HH w2 (HR.out.below L2.out)).out.mono ?_
              rintro e w3' ⟨rfl, hb⟩
              have L3 : Hid (Below w.heap.size w (w3'.alloc (.cells #[.int .i64 x0.key, .int .i64 x0.host, .int .i64 x0.epoch, .int .i64 x0.til] 43))) := (L2.out.trans (hb.mono L2.out.size)).alloc (Nat.le_trans L2.out.size hb.size) _
              have B3 : Hid (TBox (w3'.alloc (.cells #[.int .i64 x0.key, .int .i64 x0.host, .int .i64 x0.epoch, .int .i64 x0.til] 43)) w.heap.size last now A n c) := Cells.alloc (Cells.below B2.out hb) _
              have N3 : Hid (TBox (w3'.alloc (.cells #[.int .i64 x0.key, .int .i64 x0.host, .int .i64 x0.epoch, .int .i64 x0.til] 43)) (w.heap.size + 1) 0 0 none 0 0) := Cells.alloc (Cells.below N2.out hb) _
              have H3 : Hid (LBox (w3'.alloc (.cells #[.int .i64 x0.key, .int .i64 x0.host, .int .i64 x0.epoch, .int .i64 x0.til] 43)) w3'.heap.size x0) := Cells.new _ _ _
              clear hb m0 m1 m2
              go_upto_region 6 with fail
              clear L2 B2 N2
              generalize w3'.alloc (.cells #[.int .i64 x0.key, .int .i64 x0.host, .int .i64 x0.epoch, .int .i64 x0.til] 43) = w3 at *
              obtain ⟨h0, h1, h2, h3⟩ := LBox.cells H3.out
              obtain ⟨z0, z1, z2⟩ := TBox.cells N3.out
              obtain ⟨f0, f1, f2⟩ := TBox.frozen N3.out
              go_wp2_with fail
              refine bodyPost_ret_by (results_c1 rfl _ _ (w.heap.size + 1) _ _ _ _ rfl (Cells.set3 N3.out (.int .i64 0) (.int .i64 0) (.slice none 0 0)) Try.underlying24 rfl (by kernel_rfl)) rfl ?_
              exact BAD.out 61 _ (below3 L3.out (by omega) _ _ _)
          · go_enter Try.func32, Try.ntmps32
            go_upto_region 1 with fail
            generalize (w.alloc (.cells #[.int .i64 last, .int .i64 now, .slice A n c] 24)).alloc (.cells #[.int .i64 0, .int .i64 0, .slice none 0 0] 24) = w1 at *
            obtain ⟨m0, m1, m2⟩ := TBox.cells B1.out
            go_wp2_with fail
            refine (HC w1 (HR.out.below L1.out)).out.mono ?_
            rintro e w2 ⟨rfl, hb⟩
            have L2 := Lib.hid (L1.out.trans (hb.mono L1.out.size))
            have B2 := Lib.hid (Cells.below B1.out hb)
            have N2 := Lib.hid (Cells.below N1.out hb)
            clear hb m0 m1 m2 B1 N1 L1 HC
            obtain ⟨m0, m1, m2⟩ := TBox.cells B2.out
            go_wp2_with fail
            refine (HH w2 (HR.out.below L2.out)).out.mono ?_
            rintro e w3' ⟨rfl, hb⟩
            have L3 : Hid (Below w.heap.size w (w3'.alloc (.cells #[.int .i64 x0.key, .int .i64 x0.host, .int .i64 x0.epoch, .int .i64 x0.til] 43))) := (L2.out.trans (hb.mono L2.out.size)).alloc (Nat.le_trans L2.out.size hb.size) _
            have B3 : Hid (TBox (w3'.alloc (.cells #[.int .i64 x0.key, .int .i64 x0.host, .int .i64 x0.epoch, .int .i64 x0.til] 43)) w.heap.size last now A n c) := Cells.alloc (Cells.below B2.out hb) _
            have N3 : Hid (TBox (w3'.alloc (.cells #[.int .i64 x0.key, .int .i64 x0.host, .int .i64 x0.epoch, .int .i64 x0.til] 43)) (w.heap.size + 1) 0 0 none 0 0) := Cells.alloc (Cells.below N2.out hb) _
            have H3 : Hid (LBox (w3'.alloc (.cells #[.int .i64 x0.key, .int .i64 x0.host, .int .i64 x0.epoch, .int .i64 x0.til] 43)) w3'.heap.size x0) := Cells.new _ _ _
            clear hb m0 m1 m2
            go_upto_region 6 with fail
            clear L2 B2 N2
            generalize w3'.alloc (.cells #[.int .i64 x0.key, .int .i64 x0.host, .int .i64 x0.epoch, .int .i64 x0.til] 43) = w3 at *
            obtain ⟨h0, h1, h2, h3⟩ := LBox.cells H3.out
            obtain ⟨z0, z1, z2⟩ := TBox.cells N3.out
            obtain ⟨f0, f1, f2⟩ := TBox.frozen N3.out
            go_wp2_with fail
            refine bodyPost_ret_by (results_c1 rfl _ _ (w.heap.size + 1) _ _ _ _ rfl (Cells.set3 N3.out (.int .i64 0) (.int .i64 0) (.slice none 0 0)) Try.underlying24 rfl (by kernel_rfl)) rfl ?_
            exact BAD.out 61 _ (below3 L3.out (by omega) _ _ _)
      · have hto : ttlB ttl = false := by rw [HTB.out, q1, q2]; rfl
        rw [hto]
        clear hto hwt HTB
        go_enter Try.func32, Try.ntmps32
        go_upto_region 1 with fail
        generalize (w.alloc (.cells #[.int .i64 last, .int .i64 now, .slice A n c] 24)).alloc (.cells #[.int .i64 0, .int .i64 0, .slice none 0 0] 24) = w1 at *
        obtain ⟨m0, m1, m2⟩ := TBox.cells B1.out
        go_wp2_with fail
        refine (HC w1 (HR.out.below L1.out)).out.mono ?_
        rintro e w2 ⟨rfl, hb⟩
        have L2 := Lib.hid (L1.out.trans (hb.mono L1.out.size))
        have B2 := Lib.hid (Cells.below B1.out hb)
        have N2 := Lib.hid (Cells.below N1.out hb)
        clear hb m0 m1 m2 B1 N1 L1 HC
        obtain ⟨m0, m1, m2⟩ := TBox.cells B2.out
        obtain ⟨z0, z1, z2⟩ := TBox.cells N2.out
        obtain ⟨f0, f1, f2⟩ := TBox.frozen N2.out
        go_wp2_with fail
        refine bodyPost_ret_by (results_c1 rfl _ _ (w.heap.size + 1) _ _ _ _ rfl (Cells.set3 N2.out (.int .i64 0) (.int .i64 0) (.slice none 0 0)) Try.underlying24 rfl (by kernel_rfl)) rfl ?_
        exact BAD.out 1 _ (below3 L2.out (by omega) _ _ _)
    · have hto : ttlB ttl = false := by rw [HTB.out, q1]; rfl
      rw [hto]
      clear hto hwt HTB
      go_enter Try.func32, Try.ntmps32
      go_upto_region 1 with fail
      generalize (w.alloc (.cells #[.int .i64 last, .int .i64 now, .slice A n c] 24)).alloc (.cells #[.int .i64 0, .int .i64 0, .slice none 0 0] 24) = w1 at *
      obtain ⟨m0, m1, m2⟩ := TBox.cells B1.out
      go_wp2_with fail
      refine (HC w1 (HR.out.below L1.out)).out.mono ?_
      rintro e w2 ⟨rfl, hb⟩
      have L2 := Lib.hid (L1.out.trans (hb.mono L1.out.size))
      have B2 := Lib.hid (Cells.below B1.out hb)
      have N2 := Lib.hid (Cells.below N1.out hb)
      clear hb m0 m1 m2 B1 N1 L1 HC
      obtain ⟨m0, m1, m2⟩ := TBox.cells B2.out
      obtain ⟨z0, z1, z2⟩ := TBox.cells N2.out
      obtain ⟨f0, f1, f2⟩ := TBox.frozen N2.out
      go_wp2_with fail
      refine bodyPost_ret_by (results_c1 rfl _ _ (w.heap.size + 1) _ _ _ _ rfl (Cells.set3 N2.out (.int .i64 0) (.int .i64 0) (.slice none 0 0)) Try.underlying24 rfl (by kernel_rfl)) rfl ?_
      exact BAD.out 1 _ (below3 L2.out (by omega) _ _ _)
end Lea
end Go.Proofs.Ytehknenlifdchaa
