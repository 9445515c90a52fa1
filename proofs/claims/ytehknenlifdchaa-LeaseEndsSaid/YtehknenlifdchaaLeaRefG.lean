/-
  WALKS: what the document's own Grant comes to. (Written by gen_learefb.py.)
-/
import Derived.Test.YtehknenlifdchaaLeaRefB
import Derived.Test.YtehknenlifdchaaLeaGrant
namespace Go.Proofs.Ytehknenlifdchaa
open Go.RowKit Mem
namespace Lea

set_option maxRecDepth 100000 in
set_option maxHeartbeats 25600000 in
theorem refGrant_any {last now : Int} {A : Option Addr} {n c : Nat} {l : List Lv} {w : World} (key host ttl : Int) (h : RowL w A n c l) (hn : n ≤ 900000)
    (hwl : grantOk ⟨last, now, l⟩ key host ttl = true → IntKind.i64.wrap (last + 1) = last + 1) (hwt : grantOk ⟨last, now, l⟩ key host ttl = true → IntKind.i64.wrap (now + ttl) = now + ttl) :
    Calls Try.prog 31 #[tv last now A n c, .int .i64 key, .int .i64 host, .int .i64 ttl] w (GaveG w (grantP ⟨last, now, l⟩ key host ttl).1 (grantP ⟨last, now, l⟩ key host ttl).2.1 (grantP ⟨last, now, l⟩ key host ttl).2.2) := by
  have HR := Lib.hid h
  have hbig := h.big
  have hlen := Lib.hid h.len
  have HC := fun w (h : RowL w A n c l) => Lib.hid (refCheck_any (last := last) (now := now) h (by omega))
  have HH := fun w (h : RowL w A n c l) => Lib.hid (refHolder_any (last := last) (now := now) key h (by omega))
  unfold errOf at HC
  unfold holdP at HH
  have L1 : Hid (Below w.heap.size w (((w.alloc (.cells #[.int .i64 last, .int .i64 now, .slice A n c] 24)).alloc (.cells #[.int .i64 0, .int .i64 0, .slice none 0 0] 24)).alloc (.cells #[.int .i64 0, .int .i64 0, .int .i64 0, .int .i64 0] 43))) := (((Below.refl w.heap.size w).alloc (Nat.le_refl _) _).alloc (by simp) _).alloc (by simp; omega) _
  have B1 : Hid (TBox (((w.alloc (.cells #[.int .i64 last, .int .i64 now, .slice A n c] 24)).alloc (.cells #[.int .i64 0, .int .i64 0, .slice none 0 0] 24)).alloc (.cells #[.int .i64 0, .int .i64 0, .int .i64 0, .int .i64 0] 43)) w.heap.size last now A n c) := Cells.alloc (Cells.alloc (Cells.new w _ _) _) _
  have N1 : Hid (TBox (((w.alloc (.cells #[.int .i64 last, .int .i64 now, .slice A n c] 24)).alloc (.cells #[.int .i64 0, .int .i64 0, .slice none 0 0] 24)).alloc (.cells #[.int .i64 0, .int .i64 0, .int .i64 0, .int .i64 0] 43)) (w.heap.size + 1) 0 0 none 0 0) := Cells.alloc (by have := Cells.new (w.alloc (.cells #[.int .i64 last, .int .i64 now, .slice A n c] 24)) #[.int .i64 0, .int .i64 0, .slice none 0 0] 24; simpa using this) _
  have M1 : Hid (LBox (((w.alloc (.cells #[.int .i64 last, .int .i64 now, .slice A n c] 24)).alloc (.cells #[.int .i64 0, .int .i64 0, .slice none 0 0] 24)).alloc (.cells #[.int .i64 0, .int .i64 0, .int .i64 0, .int .i64 0] 43)) (w.heap.size + 2) zL) := by
    have := Cells.new ((w.alloc (.cells #[.int .i64 last, .int .i64 now, .slice A n c] 24)).alloc (.cells #[.int .i64 0, .int .i64 0, .slice none 0 0] 24)) #[.int .i64 0, .int .i64 0, .int .i64 0, .int .i64 0] 43
    exact (by simpa using this : Cells _ (w.heap.size + 1 + 1) _ _)
  clear h
  have BAD : Hid (∀ (er : Int) w2, Below w.heap.size w w2 → GaveG w zT zL er (.returned (.tuple #[tv 0 0 none 0 0, lv zL, .int .i64 er])) w2) := fun er w2 hb => ⟨none, 0, rfl, RowS.nil _ _ _, hb⟩
  unfold grantP
  simp only at HH ⊢
  have c1 : decide (0 ≤ host) = !decide (host < 0) := by rw [Bool.eq_iff_iff]; simp
  have c2 : decide (host < 8) = !decide (8 ≤ host) := by rw [Bool.eq_iff_iff]; simp
  have c3 : decide (1 ≤ ttl) = !decide (ttl < 1) := by rw [Bool.eq_iff_iff]; simp <;> omega
  have c4 : decide (ttl ≤ 1099511627776) = !decide (1099511627776 < ttl) := by rw [Bool.eq_iff_iff]; simp
  have hgr : grantOk ⟨last, now, l⟩ key host ttl = (okT ⟨last, now, l⟩ && (!decide (key < 0) && ((!decide (host < 0) && !decide (8 ≤ host)) && (!decide (ttl < 1) && !decide (1099511627776 < ttl))))) := by unfold grantOk hostB ttlB; rw [c1, c2, c3, c4]
  have HGR := Lib.hid hgr
  clear c1 c2 c3 c4 hgr
  rcases hok : okT ⟨last, now, l⟩
  · rw [hok] at HC
    simp only [cond_false] at HC
    have hgo : grantOk ⟨last, now, l⟩ key host ttl = false := by rw [HGR.out, hok]; simp
    rw [hgo]
    clear hgo hwl hwt HGR
    go_enter Try.func31, Try.ntmps31
    go_upto_region 1 with fail
    generalize ((w.alloc (.cells #[.int .i64 last, .int .i64 now, .slice A n c] 24)).alloc (.cells #[.int .i64 0, .int .i64 0, .slice none 0 0] 24)).alloc (.cells #[.int .i64 0, .int .i64 0, .int .i64 0, .int .i64 0] 43) = w1 at *
    obtain ⟨m0, m1, m2⟩ := TBox.cells B1.out
    go_wp2_with fail
    refine (HC w1 (HR.out.below L1.out)).out.mono ?_
    rintro e w2 ⟨rfl, hb⟩
    have L2 := Lib.hid (L1.out.trans (hb.mono L1.out.size))
    have B2 := Lib.hid (Cells.below B1.out hb)
    have N2 := Lib.hid (Cells.below N1.out hb)
    have M2 := Lib.hid (Cells.below M1.out hb)
    clear hb m0 m1 m2 B1 N1 M1 L1 HC
    obtain ⟨m0, m1, m2⟩ := TBox.cells B2.out
    obtain ⟨z0, z1, z2⟩ := TBox.cells N2.out
    obtain ⟨f0, f1, f2⟩ := TBox.frozen N2.out
    obtain ⟨y0, y1, y2, y3⟩ := LBox.cells (x := zL) M2.out
    obtain ⟨g0, g1, g2, g3⟩ := LBox.frozen (x := zL) M2.out
    go_wp2_with fail
    refine bodyPost_ret_by (results_cc1 rfl _ _ (w.heap.size + 1) (w.heap.size + 2) _ _ _ _ _ _ _ _ rfl (Cells.other4 (Cells.set3 N2.out (.int .i64 0) (.int .i64 0) (.slice none 0 0)) (by omega) (.int .i64 0) (.int .i64 0) (.int .i64 0) (.int .i64 0)) Try.underlying24 rfl (by kernel_rfl) rfl (Cells.set4 (Cells.other3 M2.out (by omega) (.int .i64 0) (.int .i64 0) (.slice none 0 0)) (.int .i64 0) (.int .i64 0) (.int .i64 0) (.int .i64 0)) Try.underlying43 rfl (by kernel_rfl)) rfl ?_
    exact BAD.out 1 _ (below4 (below3 L2.out (by omega) _ _ _) (by omega) _ _ _ _)
  · rw [hok] at HC HH
    simp only [cond_true, Bool.true_and] at HC HH
    rcases q1 : decide (key < 0)
    · skip
      rcases q2 : decide (host < 0)
      · skip
        rcases q3 : decide (8 ≤ host)
        · skip
          rcases q4 : decide (ttl < 1)
          · skip
            rcases q5 : decide (1099511627776 < ttl)
            · skip
              have hgo : grantOk ⟨last, now, l⟩ key host ttl = true := by rw [HGR.out, hok, q1, q2, q3, q4, q5]; rfl
              rw [hgo]
              have HWL := Lib.hid (hwl hgo)
              have HWT := Lib.hid (hwt hgo)
              clear hgo hwl hwt HGR
              rcases hh : heldB l key
              · rw [hh] at HH
                simp only [cond_false, zL] at HH
                go_enter Try.func31, Try.ntmps31
                go_upto_region 1 with fail
                generalize ((w.alloc (.cells #[.int .i64 last, .int .i64 now, .slice A n c] 24)).alloc (.cells #[.int .i64 0, .int .i64 0, .slice none 0 0] 24)).alloc (.cells #[.int .i64 0, .int .i64 0, .int .i64 0, .int .i64 0] 43) = w1 at *
                obtain ⟨m0, m1, m2⟩ := TBox.cells B1.out
                go_wp2_with fail
                refine (HC w1 (HR.out.below L1.out)).out.mono ?_
                rintro e w2 ⟨rfl, hb⟩
                have L2 := Lib.hid (L1.out.trans (hb.mono L1.out.size))
                have B2 := Lib.hid (Cells.below B1.out hb)
                have N2 := Lib.hid (Cells.below N1.out hb)
                have M2 := Lib.hid (Cells.below M1.out hb)
                clear hb m0 m1 m2 B1 N1 M1 L1 HC
                obtain ⟨m0, m1, m2⟩ := TBox.cells B2.out
                go_wp2_with fail
                refine (HH w2 (HR.out.below L2.out)).out.mono ?_
                rintro e w3' ⟨rfl, hb⟩
                have L3 : Hid (Below w.heap.size w (w3'.alloc (.cells #[.int .i64 0, .int .i64 0, .int .i64 0, .int .i64 0] 43))) := (L2.out.trans (hb.mono L2.out.size)).alloc (Nat.le_trans L2.out.size hb.size) _
                have B3 : Hid (TBox (w3'.alloc (.cells #[.int .i64 0, .int .i64 0, .int .i64 0, .int .i64 0] 43)) w.heap.size last now A n c) := Cells.alloc (Cells.below B2.out hb) _
                have N3 : Hid (TBox (w3'.alloc (.cells #[.int .i64 0, .int .i64 0, .int .i64 0, .int .i64 0] 43)) (w.heap.size + 1) 0 0 none 0 0) := Cells.alloc (Cells.below N2.out hb) _
                have M3 : Hid (LBox (w3'.alloc (.cells #[.int .i64 0, .int .i64 0, .int .i64 0, .int .i64 0] 43)) (w.heap.size + 2) zL) := Cells.alloc (Cells.below M2.out hb) _
                have H3 : Hid (LBox (w3'.alloc (.cells #[.int .i64 0, .int .i64 0, .int .i64 0, .int .i64 0] 43)) w3'.heap.size zL) := Cells.new _ _ _
                clear hb m0 m1 m2
                go_upto_region 4 with fail
                clear L2 B2 N2 M2
                generalize w3'.alloc (.cells #[.int .i64 0, .int .i64 0, .int .i64 0, .int .i64 0] 43) = w3 at *
                obtain ⟨m0, m1, m2⟩ := TBox.cells B3.out
                have hw1 := HWL.out
                have hw2 := HWT.out
                have L4 : Hid (Below w.heap.size w (w3.alloc (.cells #[.int .i64 key, .int .i64 host, .int .i64 (last + 1), .int .i64 (now + ttl)] 43))) := L3.out.alloc L3.out.size _
                have B4 : Hid (TBox (w3.alloc (.cells #[.int .i64 key, .int .i64 host, .int .i64 (last + 1), .int .i64 (now + ttl)] 43)) w.heap.size last now A n c) := Cells.alloc B3.out _
                have N4 : Hid (TBox (w3.alloc (.cells #[.int .i64 key, .int .i64 host, .int .i64 (last + 1), .int .i64 (now + ttl)] 43)) (w.heap.size + 1) 0 0 none 0 0) := Cells.alloc N3.out _
                have M4 : Hid (LBox (w3.alloc (.cells #[.int .i64 key, .int .i64 host, .int .i64 (last + 1), .int .i64 (now + ttl)] 43)) (w.heap.size + 2) zL) := Cells.alloc M3.out _
                have G4 : Hid (LBox (w3.alloc (.cells #[.int .i64 key, .int .i64 host, .int .i64 (last + 1), .int .i64 (now + ttl)] 43)) w3.heap.size ⟨key, host, last + 1, now + ttl⟩) := Cells.new _ _ _
                have hlt2 : w.heap.size + 2 < w3.heap.size := Cells.lt M3.out
                clear q1 q2 q3 q4 q5
                go_upto_region 7 with fail
                clear m0 m1 m2 B3 N3 M3 L3 H3
                have hlt3 : w3.heap.size < (w3.alloc (.cells #[.int .i64 key, .int .i64 host, .int .i64 (last + 1), .int .i64 (now + ttl)] 43)).heap.size := Cells.lt G4.out
                generalize w3.alloc (.cells #[.int .i64 key, .int .i64 host, .int .i64 (last + 1), .int .i64 (now + ttl)] 43) = wa at *
                obtain ⟨m0, m1, m2⟩ := TBox.cells B4.out
                have I3 : Hid (Out wa (wa.alloc (.cells #[.int .i64 (last + 1), .int .i64 now, .slice none 0 0] 24)) wa.heap.size (last + 1) now none 0 0 []) := Out.start wa (last + 1) now
                go_upto_region 8 with fail
                clear m0 m1 m2
                have B5 := Lib.hid (Cells.below B4.out I3.out.below)
                generalize wa.alloc (.cells #[.int .i64 (last + 1), .int .i64 now, .slice none 0 0] 24) = wb at *
                obtain ⟨m0, m1, m2⟩ := TBox.cells B5.out
                go_wp2_with fail
                clear m0 m1 m2
                go_loopw [16, 72] (fun _ i wr => ∃ (k : Nat) (Y : Option Addr) (b y : Nat), i = .int .i64 k ∧ k ≤ n ∧ b ≤ k ∧ Hid (Out wa wr wa.heap.size (last + 1) now Y b y ((l.take k).filter (fun x => decide (x.key < key))))) (fun _ i _ => n - (intOf i).toNat)
                case atStart => exact ⟨0, none, 0, 0, rfl, by omega, by omega, I3.out⟩
                case round =>
                  obtain ⟨k, Y, b, y, rfl, hk, hb, hH⟩ := hrel
                  by_cases hlt : k < n
                  · skip
                    obtain ⟨x, hx⟩ := HR.out.get hlt
                    obtain ⟨b0, o0, hA, c0, c1, c2, c3⟩ := RowS.lease_at (HR.out.below (L4.out.trans (hH.out.below.mono L4.out.size))) hx
                    subst hA
                    have htk : Hid (l.take (k + 1) = l.take k ++ [x]) := by show _ = _; rw [List.take_add_one, hx]; rfl
                    have hk0 : (0 : Int) ≤ (k : Int) := by omega
                    have hkn : (k : Int) < (n : Int) := by omega
                    clear hx
                    have I4 := Lib.hid (Out.alloc hH.out (.cells #[.int .i64 x.key, .int .i64 x.host, .int .i64 x.epoch, .int .i64 x.til] 43))
                    have X4 : Hid (LBox (wr.alloc (.cells #[.int .i64 x.key, .int .i64 x.host, .int .i64 x.epoch, .int .i64 x.til] 43)) wr.heap.size x) := Cells.new _ _ _
                    go_upto_region 11 with fail
                    clear c0 c1 c2 c3
                    generalize wr.alloc (.cells #[.int .i64 x.key, .int .i64 x.host, .int .i64 x.epoch, .int .i64 x.til] 43) = w4 at *
                    obtain ⟨n0, n1, n2, n3⟩ := LBox.cells X4.out
                    rcases e : decide (x.key < key)
                    · have HE := Lib.hid e
                      go_wp2_with fail
                      go_roundw
                      case rel => exact ⟨k + 1, Y, b, y, by go_num, by omega, by omega, Lib.hid (by rw [htk.out, List.filter_append]; simpa [HE.out] using I4.out)⟩
                      case measure => simp [intOf]; omega
                    · have HE := Lib.hid e
                      obtain ⟨m0, m1, m2⟩ := TBox.cells I4.out.box
                      have Q5 : Hid (LBox (w4.alloc (.cells #[.int .i64 x.key, .int .i64 x.host, .int .i64 x.epoch, .int .i64 x.til] 43)) w4.heap.size x) := Cells.new _ _ _
                      have I5 := Lib.hid (Out.alloc I4.out (.cells #[.int .i64 x.key, .int .i64 x.host, .int .i64 x.epoch, .int .i64 x.til] 43))
                      have hs5 := Cells.lt I5.out.box
                      go_wp2_with (at_builtin
                                   refine wpList_append_l rfl (.tmp 81) (.tmp 83) rfl rfl (wa.heap.size + 1) (.slice Y b y) b _ rfl I5.out.own _ 1 1 [x] rfl (RowS.one Q5.out) (by omega) (by omega) ?_
                                   intro A' c' w' h1 h2 h3
                                   have C6 := Lib.hid (Cells.grown I5.out.box h2 (own_ne I5.out.own (by omega)))
                                   have I7 := Lib.hid (Out.put I5.out h1 h2)
                                   clear h1 h2 h3 m0 m1 m2
                                   obtain ⟨m0, m1, m2⟩ := TBox.cells C6.out
                                   obtain ⟨f0, f1, f2⟩ := TBox.frozen C6.out)
                      go_roundw
                      case rel => exact ⟨k + 1, A', b + 1, c', by go_num, by omega, by omega, Lib.hid (by rw [htk.out, List.filter_append]; simpa [HE.out] using I7.out)⟩
                      case measure => simp [intOf]; omega
                  · have hkn : l.take k = l := List.take_of_length_le (by have := hlen.out; omega)
                    have hH2 := hH.out
                    rw [hkn] at hH2
                    have I4 : Hid (Out wa wr wa.heap.size (last + 1) now Y b y (below_ l key)) := hH2
                    have G5 := Lib.hid (Cells.below G4.out I4.out.below)
                    clear hkn hH2 hH
                    obtain ⟨m0, m1, m2⟩ := TBox.cells I4.out.box
                    obtain ⟨n0, n1, n2, n3⟩ := LBox.cells G5.out
                    have Q5 : Hid (LBox (wr.alloc (.cells #[.int .i64 key, .int .i64 host, .int .i64 (last + 1), .int .i64 (now + ttl)] 43)) wr.heap.size ⟨key, host, last + 1, now + ttl⟩) := Cells.new _ _ _
                    have I5 := Lib.hid (Out.alloc I4.out (.cells #[.int .i64 key, .int .i64 host, .int .i64 (last + 1), .int .i64 (now + ttl)] 43))
                    have hs5 := Cells.lt I5.out.box
                    go_upto_region 15 with (at_builtin
                                            refine wpList_append_l rfl (.tmp 88) (.tmp 90) rfl rfl (wa.heap.size + 1) (.slice Y b y) b _ rfl I5.out.own _ 1 1 [⟨key, host, last + 1, now + ttl⟩] rfl (RowS.one Q5.out) (by omega) (by omega) ?_
                                            intro A' c' w' h1 h2 h3
                                            have C6 := Lib.hid (Cells.grown I5.out.box h2 (own_ne I5.out.own (by omega)))
                                            have I7 := Lib.hid (Out.put I5.out h1 h2)
                                            clear h1 h2 h3 m0 m1 m2
                                            obtain ⟨m0, m1, m2⟩ := TBox.cells C6.out
                                            obtain ⟨f0, f1, f2⟩ := TBox.frozen C6.out)
                    clear m0 m1 m2 f0 f1 f2 C6 n0 n1 n2 n3
                    generalize w'.setCell ⟨wa.heap.size, 2, none⟩ (.slice A' (b + 1) c') = wc at *
                    have B6 := Lib.hid (Cells.below B4.out I7.out.below)
                    obtain ⟨m0, m1, m2⟩ := TBox.cells B6.out
                    go_wp2_with fail
                    clear m0 m1 m2
                    go_loopw [18, 96] (fun _ i wr => ∃ (k : Nat) (Y : Option Addr) (b y : Nat), i = .int .i64 k ∧ k ≤ n ∧ b ≤ n + 1 + k ∧ Hid (Out wa wr wa.heap.size (last + 1) now Y b y (below_ l key ++ [⟨key, host, last + 1, now + ttl⟩] ++ (l.take k).filter (fun x => decide (key < x.key))))) (fun _ i _ => n - (intOf i).toNat)
                    case atStart => exact ⟨0, A', b + 1, c', rfl, by omega, by omega, Lib.hid (by simpa using I7.out)⟩
                    case round =>
                      obtain ⟨k, Y, b, y, rfl, hk, hb, hH⟩ := hrel
                      by_cases hlt : k < n
                      · skip
                        obtain ⟨x, hx⟩ := HR.out.get hlt
                        obtain ⟨b0, o0, hA, c0, c1, c2, c3⟩ := RowS.lease_at (HR.out.below (L4.out.trans (hH.out.below.mono L4.out.size))) hx
                        subst hA
                        have htk : Hid (l.take (k + 1) = l.take k ++ [x]) := by show _ = _; rw [List.take_add_one, hx]; rfl
                        have hk0 : (0 : Int) ≤ (k : Int) := by omega
                        have hkn : (k : Int) < (n : Int) := by omega
                        clear hx
                        have I4 := Lib.hid (Out.alloc hH.out (.cells #[.int .i64 x.key, .int .i64 x.host, .int .i64 x.epoch, .int .i64 x.til] 43))
                        have X4 : Hid (LBox (wr.alloc (.cells #[.int .i64 x.key, .int .i64 x.host, .int .i64 x.epoch, .int .i64 x.til] 43)) wr.heap.size x) := Cells.new _ _ _
                        go_upto_region 18 with fail
                        clear c0 c1 c2 c3
                        generalize wr.alloc (.cells #[.int .i64 x.key, .int .i64 x.host, .int .i64 x.epoch, .int .i64 x.til] 43) = w4 at *
                        obtain ⟨n0, n1, n2, n3⟩ := LBox.cells X4.out
                        rcases e : decide (key < x.key)
                        · have HE := Lib.hid e
                          go_wp2_with fail
                          go_roundw
                          case rel => exact ⟨k + 1, Y, b, y, by go_num, by omega, by omega, Lib.hid (by rw [htk.out, List.filter_append]; simpa [HE.out] using I4.out)⟩
                          case measure => simp [intOf]; omega
                        · have HE := Lib.hid e
                          obtain ⟨m0, m1, m2⟩ := TBox.cells I4.out.box
                          have Q5 : Hid (LBox (w4.alloc (.cells #[.int .i64 x.key, .int .i64 x.host, .int .i64 x.epoch, .int .i64 x.til] 43)) w4.heap.size x) := Cells.new _ _ _
                          have I5 := Lib.hid (Out.alloc I4.out (.cells #[.int .i64 x.key, .int .i64 x.host, .int .i64 x.epoch, .int .i64 x.til] 43))
                          have hs5 := Cells.lt I5.out.box
                          go_wp2_with (at_builtin
                                       refine wpList_append_l rfl (.tmp 105) (.tmp 107) rfl rfl (wa.heap.size + 1) (.slice Y b y) b _ rfl I5.out.own _ 1 1 [x] rfl (RowS.one Q5.out) (by omega) (by omega) ?_
                                       intro A' c' w' h1 h2 h3
                                       have C6 := Lib.hid (Cells.grown I5.out.box h2 (own_ne I5.out.own (by omega)))
                                       have I7 := Lib.hid (Out.put I5.out h1 h2)
                                       clear h1 h2 h3 m0 m1 m2
                                       obtain ⟨m0, m1, m2⟩ := TBox.cells C6.out
                                       obtain ⟨f0, f1, f2⟩ := TBox.frozen C6.out)
                          go_roundw
                          case rel => exact ⟨k + 1, A', b + 1, c', by go_num, by omega, by omega, Lib.hid (by rw [htk.out, List.filter_append]; simpa [HE.out] using I7.out)⟩
                          case measure => simp [intOf]; omega
                      · have hkn : l.take k = l := List.take_of_length_le (by have := hlen.out; omega)
                        have hH2 := hH.out
                        rw [hkn] at hH2
                        have I8 : Hid (Out wa wr wa.heap.size (last + 1) now Y b y (putL l key ⟨key, host, last + 1, now + ttl⟩)) := hH2
                        have G8 := Lib.hid (Cells.below G4.out I8.out.below)
                        have N8 := Lib.hid (Cells.below N4.out I8.out.below)
                        have M8 := Lib.hid (Cells.below M4.out I8.out.below)
                        clear hkn hH2 hH
                        have FIN : Hid (∀ W, W = ((((((wr.drew.setCell ⟨w.heap.size + 1, 0, none⟩ (.int .i64 (last + 1))).setCell ⟨w.heap.size + 1, 1, none⟩ (.int .i64 now)).setCell ⟨w.heap.size + 1, 2, none⟩ (.slice Y b y)).setCell ⟨w.heap.size + 2, 0, none⟩ (.int .i64 key)).setCell ⟨w.heap.size + 2, 1, none⟩ (.int .i64 host)).setCell ⟨w.heap.size + 2, 2, none⟩ (.int .i64 (last + 1))).setCell ⟨w.heap.size + 2, 3, none⟩ (.int .i64 (now + ttl)) → GaveG w ⟨last + 1, now, putL l key ⟨key, host, last + 1, now + ttl⟩⟩ ⟨key, host, last + 1, now + ttl⟩ 0 (.returned (.tuple #[tv (last + 1) now Y b y, lv ⟨key, host, last + 1, now + ttl⟩, .int .i64 0])) W) := by
                          show ∀ _, _
                          rintro W rfl
                          have h1 := ((OwnsL.drew I8.out.own).but (But.set3 wr.drew (w.heap.size + 1) (.int .i64 (last + 1)) (.int .i64 now) (.slice Y b y)) (by omega)).but (But.set4 _ (w.heap.size + 2) (.int .i64 key) (.int .i64 host) (.int .i64 (last + 1)) (.int .i64 (now + ttl))) (by omega)
                          have h3 := h1.2
                          have h4 := h1.row (by omega)
                          subst h3
                          exact ⟨Y, y, rfl, h4, below4 (below3 ((L4.out.trans (I8.out.below.mono L4.out.size)).drew) (by omega) _ _ _) (by omega) _ _ _ _⟩
                        have N9 : Hid (TBox wr.drew (w.heap.size + 1) 0 0 none 0 0) := N8.out
                        have M9 : Hid (LBox wr.drew (w.heap.size + 2) zL) := M8.out
                        have G9 : Hid (LBox wr.drew w3.heap.size ⟨key, host, last + 1, now + ttl⟩) := G8.out
                        have C9 : Hid (TBox wr.drew wa.heap.size (last + 1) now Y b y) := I8.out.box
                        have HS := fun W (h1 : TBox W wa.heap.size (last + 1) now Y b y) (h2 : LBox W w3.heap.size ⟨key, host, last + 1, now + ttl⟩) => And.intro (TBox.cells h1) (LBox.cells h2)
                        go_upto_region 21 with fail
                        clear N8 M8 G8 I8
                        refine wp_region_held_drew (S := fun W => (W.cell? ⟨wa.heap.size, 0, none⟩ = some (.int .i64 (last + 1)) ∧ W.cell? ⟨wa.heap.size, 1, none⟩ = some (.int .i64 now) ∧ W.cell? ⟨wa.heap.size, 2, none⟩ = some (.slice Y b y)) ∧ (W.cell? ⟨w3.heap.size, 0, none⟩ = some (.int .i64 key) ∧ W.cell? ⟨w3.heap.size, 1, none⟩ = some (.int .i64 host) ∧ W.cell? ⟨w3.heap.size, 2, none⟩ = some (.int .i64 (last + 1)) ∧ W.cell? ⟨w3.heap.size, 3, none⟩ = some (.int .i64 (now + ttl))))
                          (by kernel_rfl) (HS _ C9.out G9.out) (fun hHeld => ?_)
                        generalize wr.drew = w8 at *
                        (first | (refine Reg.take 0 (v := ?_) rfl (by kernel_rfl) (by kernel_rfl) (by kernel_rfl) (fun _ _ _ h => h) (Or.inl ⟨by rfl, ?_⟩) (by assumption) ?_; rotate_left; (focus ((intro W hSW); (try dsimp only at hSW); (try go_split_ands); go_simp; (try (with_reducible rfl)); done))) | (refine Reg.take 0 (v := undef) rfl (by kernel_rfl) (by kernel_rfl) (by kernel_rfl) (fun _ _ _ h => h) (Or.inr ⟨by rfl, rfl⟩) (by assumption) ?_))
                        (try simp only [Act.put, List.setIfInBounds_toArray, List.set_cons_zero, List.set_cons_succ])
                        (first | (refine Reg.take 1 (v := ?_) rfl (by kernel_rfl) (by kernel_rfl) (by kernel_rfl) (fun _ _ _ h => h) (Or.inl ⟨by rfl, ?_⟩) (by assumption) ?_; rotate_left; (focus ((intro W hSW); (try dsimp only at hSW); (try go_split_ands); go_simp; (try (with_reducible rfl)); done))) | (refine Reg.take 1 (v := undef) rfl (by kernel_rfl) (by kernel_rfl) (by kernel_rfl) (fun _ _ _ h => h) (Or.inr ⟨by rfl, rfl⟩) (by assumption) ?_))
                        (try simp only [Act.put, List.setIfInBounds_toArray, List.set_cons_zero, List.set_cons_succ])
                        refine Reg.step 2 rfl (by kernel_rfl) (by rfl) (fun K hK => ?_)
                        obtain ⟨z0, z1, z2⟩ := TBox.cells N9.out
                        obtain ⟨f0, f1, f2⟩ := TBox.frozen N9.out
                        have C10 : Hid (TBox _ wa.heap.size (last + 1) now Y b y) := Cells.other3 (g' := w.heap.size + 1) C9.out (by omega) (.int .i64 (last + 1)) (.int .i64 now) (.slice Y b y)
                        have G10 : Hid (LBox _ w3.heap.size ⟨key, host, last + 1, now + ttl⟩) := Cells.other3 (g' := w.heap.size + 1) G9.out (by omega) (.int .i64 (last + 1)) (.int .i64 now) (.slice Y b y)
                        have N10 : Hid (TBox _ (w.heap.size + 1) (last + 1) now Y b y) := Cells.set3 N9.out (.int .i64 (last + 1)) (.int .i64 now) (.slice Y b y)
                        have M10 : Hid (LBox _ (w.heap.size + 2) zL) := Cells.other3 (g' := w.heap.size + 1) M9.out (by omega) (.int .i64 (last + 1)) (.int .i64 now) (.slice Y b y)
                        go_simp
                        clear z0 z1 z2 f0 f1 f2
                        refine hK.out _ _ (HS _ C10.out G10.out) (fun hHeld4 => ?_)
                        clear hK K
                        (try simp only [Act.put, List.setIfInBounds_toArray, List.set_cons_zero, List.set_cons_succ])
                        refine Reg.step 3 rfl (by kernel_rfl) (by rfl) (fun K hK => ?_)
                        obtain ⟨z0, z1, z2, z3⟩ := LBox.cells (x := zL) M10.out
                        obtain ⟨f0, f1, f2, f3⟩ := LBox.frozen (x := zL) M10.out
                        have C11 : Hid (TBox _ wa.heap.size (last + 1) now Y b y) := Cells.other4 (g' := w.heap.size + 2) C10.out (by omega) (.int .i64 key) (.int .i64 host) (.int .i64 (last + 1)) (.int .i64 (now + ttl))
                        have G11 : Hid (LBox _ w3.heap.size ⟨key, host, last + 1, now + ttl⟩) := Cells.other4 (g' := w.heap.size + 2) G10.out (by omega) (.int .i64 key) (.int .i64 host) (.int .i64 (last + 1)) (.int .i64 (now + ttl))
                        have N11 : Hid (TBox _ (w.heap.size + 1) (last + 1) now Y b y) := Cells.other4 (g' := w.heap.size + 2) N10.out (by omega) (.int .i64 key) (.int .i64 host) (.int .i64 (last + 1)) (.int .i64 (now + ttl))
                        have M11 : Hid (LBox _ (w.heap.size + 2) ⟨key, host, last + 1, now + ttl⟩) := Cells.set4 M10.out (.int .i64 key) (.int .i64 host) (.int .i64 (last + 1)) (.int .i64 (now + ttl))
                        go_simp
                        clear z0 z1 z2 z3 f0 f1 f2 f3
                        refine hK.out _ _ (HS _ C11.out G11.out) (fun hHeld5 => ?_)
                        clear hK K
                        (try simp only [Act.put, List.setIfInBounds_toArray, List.set_cons_zero, List.set_cons_succ])
                        (first | (refine Reg.take 4 (v := ?_) rfl (by kernel_rfl) (by kernel_rfl) (by kernel_rfl) (fun _ _ _ h => h) (Or.inl ⟨by rfl, ?_⟩) (by assumption) ?_; rotate_left; (focus ((intro W hSW); (try dsimp only at hSW); (try go_split_ands); go_simp; (try (with_reducible rfl)); done))) | (refine Reg.take 4 (v := undef) rfl (by kernel_rfl) (by kernel_rfl) (by kernel_rfl) (fun _ _ _ h => h) (Or.inr ⟨by rfl, rfl⟩) (by assumption) ?_))
                        (try simp only [Act.put, List.setIfInBounds_toArray, List.set_cons_zero, List.set_cons_succ])
                        refine wpAnyH_done (by kernel_rfl) ?_ _
                        go_wp2_with fail
                        refine bodyPost_ret_by (results_cc1 rfl _ _ (w.heap.size + 1) (w.heap.size + 2) _ _ _ _ _ _ _ _ rfl N11.out Try.underlying24 rfl (by kernel_rfl) rfl M11.out Try.underlying43 rfl (by kernel_rfl)) rfl ?_
                        exact FIN.out _ rfl
              · rw [hh] at HH
                simp only [cond_true] at HH
                generalize getL l key = x0 at *
                go_enter Try.func31, Try.ntmps31
                go_upto_region 1 with fail
                generalize ((w.alloc (.cells #[.int .i64 last, .int .i64 now, .slice A n c] 24)).alloc (.cells #[.int .i64 0, .int .i64 0, .slice none 0 0] 24)).alloc (.cells #[.int .i64 0, .int .i64 0, .int .i64 0, .int .i64 0] 43) = w1 at *
                obtain ⟨m0, m1, m2⟩ := TBox.cells B1.out
                go_wp2_with fail
                refine (HC w1 (HR.out.below L1.out)).out.mono ?_
                rintro e w2 ⟨rfl, hb⟩
                have L2 := Lib.hid (L1.out.trans (hb.mono L1.out.size))
                have B2 := Lib.hid (Cells.below B1.out hb)
                have N2 := Lib.hid (Cells.below N1.out hb)
                have M2 := Lib.hid (Cells.below M1.out hb)
                clear hb m0 m1 m2 B1 N1 M1 L1 HC
                obtain ⟨m0, m1, m2⟩ := TBox.cells B2.out
                go_wp2_with fail
                refine (HH w2 (HR.out.below L2.out)).out.mono ?_
                rintro e w3' ⟨rfl, hb⟩
                have L3 : Hid (Below w.heap.size w (w3'.alloc (.cells #[.int .i64 x0.key, .int .i64 x0.host, .int .i64 x0.epoch, .int .i64 x0.til] 43))) := (L2.out.trans (hb.mono L2.out.size)).alloc (Nat.le_trans L2.out.size hb.size) _
                have B3 : Hid (TBox (w3'.alloc (.cells #[.int .i64 x0.key, .int .i64 x0.host, .int .i64 x0.epoch, .int .i64 x0.til] 43)) w.heap.size last now A n c) := Cells.alloc (Cells.below B2.out hb) _
                have N3 : Hid (TBox (w3'.alloc (.cells #[.int .i64 x0.key, .int .i64 x0.host, .int .i64 x0.epoch, .int .i64 x0.til] 43)) (w.heap.size + 1) 0 0 none 0 0) := Cells.alloc (Cells.below N2.out hb) _
                have M3 : Hid (LBox (w3'.alloc (.cells #[.int .i64 x0.key, .int .i64 x0.host, .int .i64 x0.epoch, .int .i64 x0.til] 43)) (w.heap.size + 2) zL) := Cells.alloc (Cells.below M2.out hb) _
                have H3 : Hid (LBox (w3'.alloc (.cells #[.int .i64 x0.key, .int .i64 x0.host, .int .i64 x0.epoch, .int .i64 x0.til] 43)) w3'.heap.size x0) := Cells.new _ _ _
                clear hb m0 m1 m2
                go_upto_region 4 with fail
                clear L2 B2 N2 M2
                generalize w3'.alloc (.cells #[.int .i64 x0.key, .int .i64 x0.host, .int .i64 x0.epoch, .int .i64 x0.til] 43) = w3 at *
                obtain ⟨z0, z1, z2⟩ := TBox.cells N3.out
                obtain ⟨f0, f1, f2⟩ := TBox.frozen N3.out
                obtain ⟨y0, y1, y2, y3⟩ := LBox.cells (x := zL) M3.out
                obtain ⟨g0, g1, g2, g3⟩ := LBox.frozen (x := zL) M3.out
                go_wp2_with fail
                refine bodyPost_ret_by (results_cc1 rfl _ _ (w.heap.size + 1) (w.heap.size + 2) _ _ _ _ _ _ _ _ rfl (Cells.other4 (Cells.set3 N3.out (.int .i64 0) (.int .i64 0) (.slice none 0 0)) (by omega) (.int .i64 0) (.int .i64 0) (.int .i64 0) (.int .i64 0)) Try.underlying24 rfl (by kernel_rfl) rfl (Cells.set4 (Cells.other3 M3.out (by omega) (.int .i64 0) (.int .i64 0) (.slice none 0 0)) (.int .i64 0) (.int .i64 0) (.int .i64 0) (.int .i64 0)) Try.underlying43 rfl (by kernel_rfl)) rfl ?_
                exact BAD.out 60 _ (below4 (below3 L3.out (by omega) _ _ _) (by omega) _ _ _ _)
            · have hgo : grantOk ⟨last, now, l⟩ key host ttl = false := by rw [HGR.out, hok, q1, q2, q3, q4, q5]; simp
              rw [hgo]
              clear hgo hwl hwt HGR
              go_enter Try.func31, Try.ntmps31
              go_upto_region 1 with fail
              generalize ((w.alloc (.cells #[.int .i64 last, .int .i64 now, .slice A n c] 24)).alloc (.cells #[.int .i64 0, .int .i64 0, .slice none 0 0] 24)).alloc (.cells #[.int .i64 0, .int .i64 0, .int .i64 0, .int .i64 0] 43) = w1 at *
              obtain ⟨m0, m1, m2⟩ := TBox.cells B1.out
              go_wp2_with fail
              refine (HC w1 (HR.out.below L1.out)).out.mono ?_
              rintro e w2 ⟨rfl, hb⟩
              have L2 := Lib.hid (L1.out.trans (hb.mono L1.out.size))
              have B2 := Lib.hid (Cells.below B1.out hb)
              have N2 := Lib.hid (Cells.below N1.out hb)
              have M2 := Lib.hid (Cells.below M1.out hb)
              clear hb m0 m1 m2 B1 N1 M1 L1 HC
              obtain ⟨m0, m1, m2⟩ := TBox.cells B2.out
              obtain ⟨z0, z1, z2⟩ := TBox.cells N2.out
              obtain ⟨f0, f1, f2⟩ := TBox.frozen N2.out
              obtain ⟨y0, y1, y2, y3⟩ := LBox.cells (x := zL) M2.out
              obtain ⟨g0, g1, g2, g3⟩ := LBox.frozen (x := zL) M2.out
              go_wp2_with fail
              refine bodyPost_ret_by (results_cc1 rfl _ _ (w.heap.size + 1) (w.heap.size + 2) _ _ _ _ _ _ _ _ rfl (Cells.other4 (Cells.set3 N2.out (.int .i64 0) (.int .i64 0) (.slice none 0 0)) (by omega) (.int .i64 0) (.int .i64 0) (.int .i64 0) (.int .i64 0)) Try.underlying24 rfl (by kernel_rfl) rfl (Cells.set4 (Cells.other3 M2.out (by omega) (.int .i64 0) (.int .i64 0) (.slice none 0 0)) (.int .i64 0) (.int .i64 0) (.int .i64 0) (.int .i64 0)) Try.underlying43 rfl (by kernel_rfl)) rfl ?_
              exact BAD.out 1 _ (below4 (below3 L2.out (by omega) _ _ _) (by omega) _ _ _ _)
          · have hgo : grantOk ⟨last, now, l⟩ key host ttl = false := by rw [HGR.out, hok, q1, q2, q3, q4]; simp
            rw [hgo]
            clear hgo hwl hwt HGR
            go_enter Try.func31, Try.ntmps31
            go_upto_region 1 with fail
            generalize ((w.alloc (.cells #[.int .i64 last, .int .i64 now, .slice A n c] 24)).alloc (.cells #[.int .i64 0, .int .i64 0, .slice none 0 0] 24)).alloc (.cells #[.int .i64 0, .int .i64 0, .int .i64 0, .int .i64 0] 43) = w1 at *
            obtain ⟨m0, m1, m2⟩ := TBox.cells B1.out
            go_wp2_with fail
            refine (HC w1 (HR.out.below L1.out)).out.mono ?_
            rintro e w2 ⟨rfl, hb⟩
            have L2 := Lib.hid (L1.out.trans (hb.mono L1.out.size))
            have B2 := Lib.hid (Cells.below B1.out hb)
            have N2 := Lib.hid (Cells.below N1.out hb)
            have M2 := Lib.hid (Cells.below M1.out hb)
            clear hb m0 m1 m2 B1 N1 M1 L1 HC
            obtain ⟨m0, m1, m2⟩ := TBox.cells B2.out
            obtain ⟨z0, z1, z2⟩ := TBox.cells N2.out
            obtain ⟨f0, f1, f2⟩ := TBox.frozen N2.out
            obtain ⟨y0, y1, y2, y3⟩ := LBox.cells (x := zL) M2.out
            obtain ⟨g0, g1, g2, g3⟩ := LBox.frozen (x := zL) M2.out
            go_wp2_with fail
            refine bodyPost_ret_by (results_cc1 rfl _ _ (w.heap.size + 1) (w.heap.size + 2) _ _ _ _ _ _ _ _ rfl (Cells.other4 (Cells.set3 N2.out (.int .i64 0) (.int .i64 0) (.slice none 0 0)) (by omega) (.int .i64 0) (.int .i64 0) (.int .i64 0) (.int .i64 0)) Try.underlying24 rfl (by kernel_rfl) rfl (Cells.set4 (Cells.other3 M2.out (by omega) (.int .i64 0) (.int .i64 0) (.slice none 0 0)) (.int .i64 0) (.int .i64 0) (.int .i64 0) (.int .i64 0)) Try.underlying43 rfl (by kernel_rfl)) rfl ?_
            exact BAD.out 1 _ (below4 (below3 L2.out (by omega) _ _ _) (by omega) _ _ _ _)
        · have hgo : grantOk ⟨last, now, l⟩ key host ttl = false := by rw [HGR.out, hok, q1, q2, q3]; simp
          rw [hgo]
          clear hgo hwl hwt HGR
          go_enter Try.func31, Try.ntmps31
          go_upto_region 1 with fail
          generalize ((w.alloc (.cells #[.int .i64 last, .int .i64 now, .slice A n c] 24)).alloc (.cells #[.int .i64 0, .int .i64 0, .slice none 0 0] 24)).alloc (.cells #[.int .i64 0, .int .i64 0, .int .i64 0, .int .i64 0] 43) = w1 at *
          obtain ⟨m0, m1, m2⟩ := TBox.cells B1.out
          go_wp2_with fail
          refine (HC w1 (HR.out.below L1.out)).out.mono ?_
          rintro e w2 ⟨rfl, hb⟩
          have L2 := Lib.hid (L1.out.trans (hb.mono L1.out.size))
          have B2 := Lib.hid (Cells.below B1.out hb)
          have N2 := Lib.hid (Cells.below N1.out hb)
          have M2 := Lib.hid (Cells.below M1.out hb)
          clear hb m0 m1 m2 B1 N1 M1 L1 HC
          obtain ⟨m0, m1, m2⟩ := TBox.cells B2.out
          obtain ⟨z0, z1, z2⟩ := TBox.cells N2.out
          obtain ⟨f0, f1, f2⟩ := TBox.frozen N2.out
          obtain ⟨y0, y1, y2, y3⟩ := LBox.cells (x := zL) M2.out
          obtain ⟨g0, g1, g2, g3⟩ := LBox.frozen (x := zL) M2.out
          go_wp2_with fail
          refine bodyPost_ret_by (results_cc1 rfl _ _ (w.heap.size + 1) (w.heap.size + 2) _ _ _ _ _ _ _ _ rfl (Cells.other4 (Cells.set3 N2.out (.int .i64 0) (.int .i64 0) (.slice none 0 0)) (by omega) (.int .i64 0) (.int .i64 0) (.int .i64 0) (.int .i64 0)) Try.underlying24 rfl (by kernel_rfl) rfl (Cells.set4 (Cells.other3 M2.out (by omega) (.int .i64 0) (.int .i64 0) (.slice none 0 0)) (.int .i64 0) (.int .i64 0) (.int .i64 0) (.int .i64 0)) Try.underlying43 rfl (by kernel_rfl)) rfl ?_
          exact BAD.out 1 _ (below4 (below3 L2.out (by omega) _ _ _) (by omega) _ _ _ _)
      · have hgo : grantOk ⟨last, now, l⟩ key host ttl = false := by rw [HGR.out, hok, q1, q2]; simp
        rw [hgo]
        clear hgo hwl hwt HGR
        go_enter Try.func31, Try.ntmps31
        go_upto_region 1 with fail
        generalize ((w.alloc (.cells #[.int .i64 last, .int .i64 now, .slice A n c] 24)).alloc (.cells #[.int .i64 0, .int .i64 0, .slice none 0 0] 24)).alloc (.cells #[.int .i64 0, .int .i64 0, .int .i64 0, .int .i64 0] 43) = w1 at *
        obtain ⟨m0, m1, m2⟩ := TBox.cells B1.out
        go_wp2_with fail
        refine (HC w1 (HR.out.below L1.out)).out.mono ?_
        rintro e w2 ⟨rfl, hb⟩
        have L2 := Lib.hid (L1.out.trans (hb.mono L1.out.size))
        have B2 := Lib.hid (Cells.below B1.out hb)
        have N2 := Lib.hid (Cells.below N1.out hb)
        have M2 := Lib.hid (Cells.below M1.out hb)
        clear hb m0 m1 m2 B1 N1 M1 L1 HC
        obtain ⟨m0, m1, m2⟩ := TBox.cells B2.out
        obtain ⟨z0, z1, z2⟩ := TBox.cells N2.out
        obtain ⟨f0, f1, f2⟩ := TBox.frozen N2.out
        obtain ⟨y0, y1, y2, y3⟩ := LBox.cells (x := zL) M2.out
        obtain ⟨g0, g1, g2, g3⟩ := LBox.frozen (x := zL) M2.out
        go_wp2_with fail
        refine bodyPost_ret_by (results_cc1 rfl _ _ (w.heap.size + 1) (w.heap.size + 2) _ _ _ _ _ _ _ _ rfl (Cells.other4 (Cells.set3 N2.out (.int .i64 0) (.int .i64 0) (.slice none 0 0)) (by omega) (.int .i64 0) (.int .i64 0) (.int .i64 0) (.int .i64 0)) Try.underlying24 rfl (by kernel_rfl) rfl (Cells.set4 (Cells.other3 M2.out (by omega) (.int .i64 0) (.int .i64 0) (.slice none 0 0)) (.int .i64 0) (.int .i64 0) (.int .i64 0) (.int .i64 0)) Try.underlying43 rfl (by kernel_rfl)) rfl ?_
        exact BAD.out 1 _ (below4 (below3 L2.out (by omega) _ _ _) (by omega) _ _ _ _)
    · have hgo : grantOk ⟨last, now, l⟩ key host ttl = false := by rw [HGR.out, hok, q1]; simp
      rw [hgo]
      clear hgo hwl hwt HGR
      go_enter Try.func31, Try.ntmps31
      go_upto_region 1 with fail
      generalize ((w.alloc (.cells #[.int .i64 last, .int .i64 now, .slice A n c] 24)).alloc (.cells #[.int .i64 0, .int .i64 0, .slice none 0 0] 24)).alloc (.cells #[.int .i64 0, .int .i64 0, .int .i64 0, .int .i64 0] 43) = w1 at *
      obtain ⟨m0, m1, m2⟩ := TBox.cells B1.out
      go_wp2_with fail
      refine (HC w1 (HR.out.below L1.out)).out.mono ?_
      rintro e w2 ⟨rfl, hb⟩
      have L2 := Lib.hid (L1.out.trans (hb.mono L1.out.size))
      have B2 := Lib.hid (Cells.below B1.out hb)
      have N2 := Lib.hid (Cells.below N1.out hb)
      have M2 := Lib.hid (Cells.below M1.out hb)
      clear hb m0 m1 m2 B1 N1 M1 L1 HC
      obtain ⟨m0, m1, m2⟩ := TBox.cells B2.out
      obtain ⟨z0, z1, z2⟩ := TBox.cells N2.out
      obtain ⟨f0, f1, f2⟩ := TBox.frozen N2.out
      obtain ⟨y0, y1, y2, y3⟩ := LBox.cells (x := zL) M2.out
      obtain ⟨g0, g1, g2, g3⟩ := LBox.frozen (x := zL) M2.out
      go_wp2_with fail
      refine bodyPost_ret_by (results_cc1 rfl _ _ (w.heap.size + 1) (w.heap.size + 2) _ _ _ _ _ _ _ _ rfl (Cells.other4 (Cells.set3 N2.out (.int .i64 0) (.int .i64 0) (.slice none 0 0)) (by omega) (.int .i64 0) (.int .i64 0) (.int .i64 0) (.int .i64 0)) Try.underlying24 rfl (by kernel_rfl) rfl (Cells.set4 (Cells.other3 M2.out (by omega) (.int .i64 0) (.int .i64 0) (.slice none 0 0)) (.int .i64 0) (.int .i64 0) (.int .i64 0) (.int .i64 0)) Try.underlying43 rfl (by kernel_rfl)) rfl ?_
      exact BAD.out 1 _ (below4 (below3 L2.out (by omega) _ _ _) (by omega) _ _ _ _)
end Lea
end Go.Proofs.Ytehknenlifdchaa
