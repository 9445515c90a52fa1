/-
  WALKS: what the document's own Tick and Revoke come to. (Written by gen_learefb.py.)
-/
import Derived.Test.YtehknenlifdchaaLeaRefA
namespace Go.Proofs.Ytehknenlifdchaa
open Go.RowKit Mem
namespace Lea

theorem Cells.grown {w w' : World} {g : Nat} {t : TypeId} {cs : Array Value} {row : Option Nat} (h : Cells w g t cs) (hg : w.grownBy w' row) (hne : row ≠ some g) : Cells w' g t cs := (hg.block g (Cells.lt h) (fun e => hne e.symm)).trans h
theorem own_ne {base g : Nat} {w : World} {s : Value} {n : Nat} {xs : List Lv} (h : OwnsL base w s n xs) (hg : g < base) : s.ownBlock ≠ some g := fun e => by have := (h.lt _ e).1; omega
/-- A table that is being made, in block g; its leases are the call's own. -/
structure Out (w2 wr : World) (g : Nat) (last now : Int) (Y : Option Addr) (b y : Nat) (ys : List Lv) : Prop where
  below : Below w2.heap.size w2 wr
  box : TBox wr g last now Y b y
  own : OwnsL (g + 1) wr (.slice Y b y) b ys
  up : w2.heap.size ≤ g
theorem Out.alloc {w2 wr : World} {g : Nat} {last now : Int} {Y : Option Addr} {b y : Nat} {ys : List Lv} (h : Out w2 wr g last now Y b y ys) (o : Obj) : Out w2 (wr.alloc o) g last now Y b y ys :=
  ⟨h.below.alloc h.below.size o, Cells.alloc h.box o, OwnsL.alloc h.own o, h.up⟩
theorem Out.start (w2 : World) (last now : Int) : Out w2 (w2.alloc (.cells #[.int .i64 last, .int .i64 now, .slice none 0 0] 24)) w2.heap.size last now none 0 0 [] :=
  ⟨(Below.refl _ w2).alloc (Nat.le_refl _) _, Cells.new _ _ _, OwnsL.nil _ _, Nat.le_refl _⟩
theorem Out.put {w2 w5 w6 : World} {g : Nat} {last now : Int} {Y Y' : Option Addr} {b y y' : Nat} {ys zs : List Lv} {b' : Nat} (h : Out w2 w5 g last now Y b y ys) (h1 : OwnsL (g + 1) w6 (.slice Y' b' y') b' zs) (h2 : w5.grownBy w6 (Value.slice Y b y).ownBlock) :
    Out w2 (w6.setCell ⟨g, 2, none⟩ (.slice Y' b' y')) g last now Y' b' y' zs := by
  have hu := h.up
  have hs := Cells.lt h.box
  refine ⟨?_, Cells.set_ (Cells.grown h.box h2 (own_ne h.own (by omega))) 2 _, h1.setCell (p := ⟨g, 2, none⟩) (by show g < g + 1; omega) _, hu⟩
  exact (h.below.trans ((below_row h.own h2 (by omega)).mono (by omega))).setCell (p := ⟨g, 2, none⟩) hu _
theorem Out.but {w2 w5 w6 : World} {g q : Nat} {last now : Int} {Y : Option Addr} {b y : Nat} {ys : List Lv} (h : Out w2 w5 g last now Y b y ys) (hb : But q w5 w6) (hq : q < g) : OwnsL (g + 1) w6 (.slice Y b y) b ys := h.own.but hb (by omega)

set_option maxRecDepth 100000 in
set_option maxHeartbeats 12800000 in
theorem refTick_any {last now : Int} {A : Option Addr} {n c : Nat} {l : List Lv} {w : World} (to_ : Int) (h : RowL w A n c l) (hn : n ≤ 1000000) :
    Calls Try.prog 30 #[tv last now A n c, .int .i64 to_] w (GaveTL w (tickP ⟨last, now, l⟩ to_).1 (tickP ⟨last, now, l⟩ to_).2.1 (tickP ⟨last, now, l⟩ to_).2.2) := by
  have HR := Lib.hid h
  have hbig := h.big
  have hlen := Lib.hid h.len
  have HC := fun w (h : RowL w A n c l) => Lib.hid (refCheck_any (last := last) (now := now) h hn)
  unfold errOf at HC
  have L1 : Hid (Below w.heap.size w ((w.alloc (.cells #[.int .i64 last, .int .i64 now, .slice A n c] 24)).alloc (.cells #[.int .i64 0, .int .i64 0, .slice none 0 0] 24))) := ((Below.refl w.heap.size w).alloc (Nat.le_refl _) _).alloc (by simp) _
  have B1 : Hid (TBox ((w.alloc (.cells #[.int .i64 last, .int .i64 now, .slice A n c] 24)).alloc (.cells #[.int .i64 0, .int .i64 0, .slice none 0 0] 24)) w.heap.size last now A n c) := heap_alloc2_old w _ _
  have N1 : Hid (TBox ((w.alloc (.cells #[.int .i64 last, .int .i64 now, .slice A n c] 24)).alloc (.cells #[.int .i64 0, .int .i64 0, .slice none 0 0] 24)) (w.heap.size + 1) 0 0 none 0 0) := heap_alloc2_new w _ _
  clear h
  have BAD : Hid (∀ w2, Below w.heap.size w w2 → GaveTL w zT [] 1 (.returned (.tuple #[tv 0 0 none 0 0, .slice none 0 0, .int .i64 1])) w2) := fun w2 hb => ⟨none, 0, none, 0, rfl, RowS.nil _ _ _, RowS.nil _ _ _, hb⟩
  unfold tickP
  simp only
  rcases hok : okT ⟨last, now, l⟩
  · rw [hok] at HC
    simp only [cond_false] at HC
    go_enter Try.func30, Try.ntmps30
    go_upto_region 1 with fail
    generalize (w.alloc (.cells #[.int .i64 last, .int .i64 now, .slice A n c] 24)).alloc (.cells #[.int .i64 0, .int .i64 0, .slice none 0 0] 24) = w1 at *
    obtain ⟨m0, m1, m2⟩ := TBox.cells B1.out
    go_wp2_with fail
    refine (HC w1 (HR.out.below L1.out)).out.mono ?_
    rintro e w2 ⟨rfl, hb⟩
    have L2 := Lib.hid (L1.out.trans (hb.mono L1.out.size))
    have B2 := Lib.hid (Cells.below B1.out hb)
    have N2 := Lib.hid (Cells.below N1.out hb)
    clear hb m0 m1 m2 B1 N1 L1 HC
    obtain ⟨m0, m1, m2⟩ := TBox.cells B2.out
    obtain ⟨z0, z1, z2⟩ := TBox.cells N2.out
    obtain ⟨f0, f1, f2⟩ := TBox.frozen N2.out
    go_wp2_with fail
    refine bodyPost_ret_by (results_c2 rfl _ _ (w.heap.size + 1) _ _ _ _ rfl (Cells.set3 N2.out (.int .i64 0) (.int .i64 0) (.slice none 0 0)) Try.underlying24 rfl (by kernel_rfl)) rfl ?_
    exact BAD.out _ (below3 L2.out (by omega) _ _ _)
  · rw [hok] at HC
    simp only [cond_true] at HC
    rcases hlt0 : decide (to_ < now)
    · go_enter Try.func30, Try.ntmps30
      go_upto_region 1 with fail
      generalize (w.alloc (.cells #[.int .i64 last, .int .i64 now, .slice A n c] 24)).alloc (.cells #[.int .i64 0, .int .i64 0, .slice none 0 0] 24) = w1 at *
      obtain ⟨m0, m1, m2⟩ := TBox.cells B1.out
      go_wp2_with fail
      refine (HC w1 (HR.out.below L1.out)).out.mono ?_
      rintro e w2 ⟨rfl, hb⟩
      have L2 := Lib.hid (L1.out.trans (hb.mono L1.out.size))
      have B2 := Lib.hid (Cells.below B1.out hb)
      have N2 := Lib.hid (Cells.below N1.out hb)
      clear hb m0 m1 m2 B1 N1 L1 HC
      obtain ⟨m0, m1, m2⟩ := TBox.cells B2.out
      have hlt2 : w.heap.size + 1 < w2.heap.size := Cells.lt N2.out
      have I3 : Hid (Out w2 (w2.alloc (.cells #[.int .i64 last, .int .i64 to_, .slice none 0 0] 24)) w2.heap.size last to_ none 0 0 []) := Out.start w2 last to_
      go_upto_region 4 with fail
      clear m0 m1 m2
      generalize w2.alloc (.cells #[.int .i64 last, .int .i64 to_, .slice none 0 0] 24) = w3 at *
      have B3 := Lib.hid (Cells.below B2.out I3.out.below)
      obtain ⟨m0, m1, m2⟩ := TBox.cells B3.out
      go_wp2_with fail
      clear m0 m1 m2
      go_loopw [8, 10, 28] (fun s _ i wr => ∃ (k : Nat) (X : Option Addr) (a x : Nat) (Y : Option Addr) (b y : Nat), i = .int .i64 k ∧ s = .slice X a x ∧ k ≤ n ∧ a ≤ k ∧ b ≤ k ∧ Hid (Out w2 wr w2.heap.size last to_ Y b y ((l.take k).filter (fun x => !decide (x.til ≤ to_))) ∧ OwnsL (w2.heap.size + 1) wr (.slice X a x) a ((l.take k).filter (fun x => decide (x.til ≤ to_))) ∧ Far (.slice X a x) (.slice Y b y))) (fun _ _ i _ => n - (intOf i).toNat)
      case atStart => exact ⟨0, none, 0, 0, none, 0, 0, rfl, rfl, by omega, by omega, by omega, I3.out, OwnsL.nil _ _, .inl rfl⟩
      case round =>
        obtain ⟨k, X, a, xc, Y, b, y, rfl, rfl, hk, ha, hb, hH⟩ := hrel
        by_cases hlt : k < n
        · skip
          obtain ⟨x, hx⟩ := HR.out.get hlt
          obtain ⟨b0, o0, hA, c0, c1, c2, c3⟩ := RowS.lease_at (HR.out.below (L2.out.trans (hH.out.1.below.mono L2.out.size))) hx
          subst hA
          have htk : Hid (l.take (k + 1) = l.take k ++ [x]) := by show _ = _; rw [List.take_add_one, hx]; rfl
          have hk0 : (0 : Int) ≤ (k : Int) := by omega
          have hkn : (k : Int) < (n : Int) := by omega
          clear hx
          have I4' := Lib.hid (Out.alloc hH.out.1 (.cells #[.int .i64 x.key, .int .i64 x.host, .int .i64 x.epoch, .int .i64 x.til] 43))
          have O4 := Lib.hid (OwnsL.alloc hH.out.2.1 (.cells #[.int .i64 x.key, .int .i64 x.host, .int .i64 x.epoch, .int .i64 x.til] 43))
          have F4 := Lib.hid hH.out.2.2
          have X4 : Hid (LBox (wr.alloc (.cells #[.int .i64 x.key, .int .i64 x.host, .int .i64 x.epoch, .int .i64 x.til] 43)) wr.heap.size x) := Cells.new _ _ _
          go_upto_region 8 with fail
          clear c0 c1 c2 c3
          have I4 := I4'
          clear I4'
          generalize wr.alloc (.cells #[.int .i64 x.key, .int .i64 x.host, .int .i64 x.epoch, .int .i64 x.til] 43) = w4 at *
          obtain ⟨n0, n1, n2, n3⟩ := LBox.cells X4.out
          rcases e : decide (x.til ≤ to_)
          · have HE := Lib.hid e
            obtain ⟨m0, m1, m2⟩ := TBox.cells I4.out.box
            have Q5 : Hid (LBox (w4.alloc (.cells #[.int .i64 x.key, .int .i64 x.host, .int .i64 x.epoch, .int .i64 x.til] 43)) w4.heap.size x) := Cells.new _ _ _
            have I5 := Lib.hid (Out.alloc I4.out (.cells #[.int .i64 x.key, .int .i64 x.host, .int .i64 x.epoch, .int .i64 x.til] 43))
            have hs5 := Cells.lt I5.out.box
            go_wp2_with (at_builtin
                         refine wpList_append_l rfl (.tmp 41) (.tmp 43) rfl rfl (w2.heap.size + 1) (.slice Y b y) b _ rfl I5.out.own _ 1 1 [x] rfl (RowS.one Q5.out) (by omega) (by omega) ?_
                         intro A' c' w' h1 h2 h3
                         have C6 := Lib.hid (Cells.grown I5.out.box h2 (own_ne I5.out.own (by omega)))
                         have I7 := Lib.hid (Out.put I5.out h1 h2)
                         have GRW := Lib.hid h2
                         have FRW : Hid (Far (.slice X a xc) (.slice A' (b + 1) c')) := (Far.step F4.out.symm (OwnsL.alloc O4.out (.cells #[.int .i64 x.key, .int .i64 x.host, .int .i64 x.epoch, .int .i64 x.til] 43)) h3).symm
                         clear h1 h2 h3 m0 m1 m2
                         obtain ⟨m0, m1, m2⟩ := TBox.cells C6.out
                         obtain ⟨f0, f1, f2⟩ := TBox.frozen C6.out)
            have O7 := Lib.hid ((O4.out.alloc (.cells #[.int .i64 x.key, .int .i64 x.host, .int .i64 x.epoch, .int .i64 x.til] 43)).kept GRW.out F4.out)
            have F7 := Lib.hid FRW.out
            go_roundw
            case rel => exact ⟨k + 1, X, a, xc, A', b + 1, c', by go_num, rfl, by omega, by omega, by omega, by rw [htk.out, List.filter_append]; simpa [HE.out] using I7.out, by rw [htk.out, List.filter_append]; simpa [HE.out] using O7.out.setCell (p := ⟨w2.heap.size, 2, none⟩) (by show w2.heap.size < w2.heap.size + 1; omega) (.slice A' (b + 1) c'), F7.out⟩
            case measure => simp [intOf]; omega
          · have HE := Lib.hid e
            have Q5 : Hid (LBox (w4.alloc (.cells #[.int .i64 x.key, .int .i64 x.host, .int .i64 x.epoch, .int .i64 x.til] 43)) w4.heap.size x) := Cells.new _ _ _
            have I5 := Lib.hid (Out.alloc I4.out (.cells #[.int .i64 x.key, .int .i64 x.host, .int .i64 x.epoch, .int .i64 x.til] 43))
            have O5 := Lib.hid (O4.out.alloc (.cells #[.int .i64 x.key, .int .i64 x.host, .int .i64 x.epoch, .int .i64 x.til] 43))
            have hs5 := Cells.lt I5.out.box
            go_wp2_with (at_builtin
                         refine wpList_append_l rfl (.tmp 36) (.tmp 38) rfl rfl (w2.heap.size + 1) (.slice X a xc) a _ rfl O5.out _ 1 1 [x] rfl (RowS.one Q5.out) (by omega) (by omega) ?_
                         intro A' c' w' h1 h2 h3
                         have O7 := Lib.hid h1
                         have F7 : Hid (Far (.slice A' (a + 1) c') (.slice Y b y)) := Far.step F4.out I5.out.own h3
                         have I7 : Hid (Out w2 w' w2.heap.size last to_ Y b y ((l.take k).filter (fun x => !decide (x.til ≤ to_)))) := ⟨I5.out.below.trans ((below_row O5.out h2 (by omega)).mono (by omega)), Cells.grown I5.out.box h2 (own_ne O5.out (by omega)), I5.out.own.kept h2 F4.out.symm, Nat.le_refl _⟩
                         clear h1 h2 h3)
            go_roundw
            case rel => exact ⟨k + 1, A', a + 1, c', Y, b, y, by go_num, rfl, by omega, by omega, by omega, by rw [htk.out, List.filter_append]; simpa [HE.out] using I7.out, by rw [htk.out, List.filter_append]; simpa [HE.out] using O7.out, F7.out⟩
            case measure => simp [intOf]; omega
        · have hkn : l.take k = l := List.take_of_length_le (by have := hlen.out; omega)
          have HK := Lib.hid hkn
          clear hkn
          have N3 := Lib.hid (Cells.below N2.out hH.out.1.below)
          have FIN : Hid (∀ w9, But (w.heap.size + 1) wr w9 → GaveTL w ⟨last, to_, l.filter (fun x => !decide (x.til ≤ to_))⟩ (l.filter (fun x => decide (x.til ≤ to_))) 0 (.returned (.tuple #[tv last to_ Y b y, .slice X a xc, .int .i64 0])) w9) := by
            show ∀ _, _
            intro w9 hB
            have h := hH.out
            rw [HK.out] at h
            have o1 := h.1.but hB (by omega)
            have o2 := h.2.1.but hB (by omega)
            have e1 := o1.2
            have e2 := o2.2
            have r1 := o1.row (by omega)
            have r2 := o2.row (by omega)
            subst e1 e2
            exact ⟨Y, y, X, xc, rfl, r1, r2, (L2.out.trans (h.1.below.mono L2.out.size)).trans (hB.below (Nat.le_trans L2.out.size h.1.below.size) (by omega))⟩
          obtain ⟨m0, m1, m2⟩ := TBox.cells hH.out.1.box
          obtain ⟨z0, z1, z2⟩ := TBox.cells N3.out
          obtain ⟨f0, f1, f2⟩ := TBox.frozen N3.out
          go_wp2_with fail
          refine bodyPost_ret_by (results_c2 rfl _ _ (w.heap.size + 1) _ _ _ _ rfl (Cells.set3 N3.out (.int .i64 last) (.int .i64 to_) (.slice Y b y)) Try.underlying24 rfl (by kernel_rfl)) rfl ?_
          exact FIN.out _ (But.set3 _ _ _ _ _)
    · go_enter Try.func30, Try.ntmps30
      go_upto_region 1 with fail
      generalize (w.alloc (.cells #[.int .i64 last, .int .i64 now, .slice A n c] 24)).alloc (.cells #[.int .i64 0, .int .i64 0, .slice none 0 0] 24) = w1 at *
      obtain ⟨m0, m1, m2⟩ := TBox.cells B1.out
      go_wp2_with fail
      refine (HC w1 (HR.out.below L1.out)).out.mono ?_
      rintro e w2 ⟨rfl, hb⟩
      have L2 := Lib.hid (L1.out.trans (hb.mono L1.out.size))
      have B2 := Lib.hid (Cells.below B1.out hb)
      have N2 := Lib.hid (Cells.below N1.out hb)
      clear hb m0 m1 m2 B1 N1 L1 HC
      obtain ⟨m0, m1, m2⟩ := TBox.cells B2.out
      obtain ⟨z0, z1, z2⟩ := TBox.cells N2.out
      obtain ⟨f0, f1, f2⟩ := TBox.frozen N2.out
      go_wp2_with fail
      refine bodyPost_ret_by (results_c2 rfl _ _ (w.heap.size + 1) _ _ _ _ rfl (Cells.set3 N2.out (.int .i64 0) (.int .i64 0) (.slice none 0 0)) Try.underlying24 rfl (by kernel_rfl)) rfl ?_
      exact BAD.out _ (below3 L2.out (by omega) _ _ _)

set_option maxRecDepth 100000 in
set_option maxHeartbeats 12800000 in
theorem refRevoke_any {last now : Int} {A : Option Addr} {n c : Nat} {l : List Lv} {w : World} (key : Int) (h : RowL w A n c l) (hn : n ≤ 1000000) :
    Calls Try.prog 33 #[tv last now A n c, .int .i64 key] w (GaveT w (revokeP ⟨last, now, l⟩ key).1 [.int .i64 (revokeP ⟨last, now, l⟩ key).2]) := by
  have HR := Lib.hid h
  have hbig := h.big
  have hlen := Lib.hid h.len
  have HC := fun w (h : RowL w A n c l) => Lib.hid (refCheck_any (last := last) (now := now) h hn)
  have HH := fun w (h : RowL w A n c l) => Lib.hid (refHolder_any (last := last) (now := now) key h hn)
  unfold errOf at HC
  unfold holdP at HH
  have L1 : Hid (Below w.heap.size w ((w.alloc (.cells #[.int .i64 last, .int .i64 now, .slice A n c] 24)).alloc (.cells #[.int .i64 0, .int .i64 0, .slice none 0 0] 24))) := ((Below.refl w.heap.size w).alloc (Nat.le_refl _) _).alloc (by simp) _
  have B1 : Hid (TBox ((w.alloc (.cells #[.int .i64 last, .int .i64 now, .slice A n c] 24)).alloc (.cells #[.int .i64 0, .int .i64 0, .slice none 0 0] 24)) w.heap.size last now A n c) := heap_alloc2_old w _ _
  have N1 : Hid (TBox ((w.alloc (.cells #[.int .i64 last, .int .i64 now, .slice A n c] 24)).alloc (.cells #[.int .i64 0, .int .i64 0, .slice none 0 0] 24)) (w.heap.size + 1) 0 0 none 0 0) := heap_alloc2_new w _ _
  clear h
  have BAD : Hid (∀ (er : Int) w2, Below w.heap.size w w2 → GaveT w zT [.int .i64 er] (.returned (.tuple #[tv 0 0 none 0 0, .int .i64 er])) w2) := fun er w2 hb => ⟨none, 0, rfl, RowS.nil _ _ _, hb⟩
  unfold revokeP
  simp only at HH ⊢
  rcases hok : okT ⟨last, now, l⟩
  · rw [hok] at HC
    simp only [cond_false] at HC
    go_enter Try.func33, Try.ntmps33
    go_upto_region 1 with fail
    generalize (w.alloc (.cells #[.int .i64 last, .int .i64 now, .slice A n c] 24)).alloc (.cells #[.int .i64 0, .int .i64 0, .slice none 0 0] 24) = w1 at *
    obtain ⟨m0, m1, m2⟩ := TBox.cells B1.out
    go_wp2_with fail
    refine (HC w1 (HR.out.below L1.out)).out.mono ?_
    rintro e w2 ⟨rfl, hb⟩
    have L2 := Lib.hid (L1.out.trans (hb.mono L1.out.size))
    have B2 := Lib.hid (Cells.below B1.out hb)
    have N2 := Lib.hid (Cells.below N1.out hb)
    clear hb m0 m1 m2 B1 N1 L1 HC
    obtain ⟨m0, m1, m2⟩ := TBox.cells B2.out
    obtain ⟨z0, z1, z2⟩ := TBox.cells N2.out
    obtain ⟨f0, f1, f2⟩ := TBox.frozen N2.out
    go_wp2_with fail
    refine bodyPost_ret_by (results_c1 rfl _ _ (w.heap.size + 1) _ _ _ _ rfl (Cells.set3 N2.out (.int .i64 0) (.int .i64 0) (.slice none 0 0)) Try.underlying24 rfl (by kernel_rfl)) rfl ?_
    exact BAD.out 1 _ (below3 L2.out (by omega) _ _ _)
  · rw [hok] at HC HH
    simp only [cond_true, Bool.true_and] at HC HH
    rcases hh : heldB l key
    · rw [hh] at HH
      simp only [cond_false, zL] at HH
      go_enter Try.func33, Try.ntmps33
      go_upto_region 1 with fail
      generalize (w.alloc (.cells #[.int .i64 last, .int .i64 now, .slice A n c] 24)).alloc (.cells #[.int .i64 0, .int .i64 0, .slice none 0 0] 24) = w1 at *
      obtain ⟨m0, m1, m2⟩ := TBox.cells B1.out
      go_wp2_with fail
      refine (HC w1 (HR.out.below L1.out)).out.mono ?_
      rintro e w2 ⟨rfl, hb⟩
      have L2 := Lib.hid (L1.out.trans (hb.mono L1.out.size))
      have B2 := Lib.hid (Cells.below B1.out hb)
      have N2 := Lib.hid (Cells.below N1.out hb)
      clear hb m0 m1 m2 B1 N1 L1 HC
      obtain ⟨m0, m1, m2⟩ := TBox.cells B2.out
      go_wp2_with fail
      refine (HH w2 (HR.out.below L2.out)).out.mono ?_
      rintro e w3' ⟨rfl, hb⟩
      have L3 : Hid (Below w.heap.size w (w3'.alloc (.cells #[.int .i64 0, .int .i64 0, .int .i64 0, .int .i64 0] 43))) := (L2.out.trans (hb.mono L2.out.size)).alloc (Nat.le_trans L2.out.size hb.size) _
      have B3 : Hid (TBox (w3'.alloc (.cells #[.int .i64 0, .int .i64 0, .int .i64 0, .int .i64 0] 43)) w.heap.size last now A n c) := Cells.alloc (Cells.below B2.out hb) _
      have N3 : Hid (TBox (w3'.alloc (.cells #[.int .i64 0, .int .i64 0, .int .i64 0, .int .i64 0] 43)) (w.heap.size + 1) 0 0 none 0 0) := Cells.alloc (Cells.below N2.out hb) _
      have H3 : Hid (LBox (w3'.alloc (.cells #[.int .i64 0, .int .i64 0, .int .i64 0, .int .i64 0] 43)) w3'.heap.size zL) := Cells.new _ _ _
      clear hb m0 m1 m2
      go_upto_region 4 with fail
      clear L2 B2 N2
      generalize w3'.alloc (.cells #[.int .i64 0, .int .i64 0, .int .i64 0, .int .i64 0] 43) = w3 at *
      obtain ⟨z0, z1, z2⟩ := TBox.cells N3.out
      obtain ⟨f0, f1, f2⟩ := TBox.frozen N3.out
      go_wp2_with fail
      refine bodyPost_ret_by (results_c1 rfl _ _ (w.heap.size + 1) _ _ _ _ rfl (Cells.set3 N3.out (.int .i64 0) (.int .i64 0) (.slice none 0 0)) Try.underlying24 rfl (by kernel_rfl)) rfl ?_
      exact BAD.out 4 _ (below3 L3.out (by omega) _ _ _)
    · rw [hh] at HH
      simp only [cond_true] at HH
      generalize getL l key = x0 at *
      go_enter Try.func33, Try.ntmps33
      go_upto_region 1 with fail
      generalize (w.alloc (.cells #[.int .i64 last, .int .i64 now, .slice A n c] 24)).alloc (.cells #[.int .i64 0, .int .i64 0, .slice none 0 0] 24) = w1 at *
      obtain ⟨m0, m1, m2⟩ := TBox.cells B1.out
      go_wp2_with fail
      refine (HC w1 (HR.out.below L1.out)).out.mono ?_
      rintro e w2 ⟨rfl, hb⟩
      have L2 := Lib.hid (L1.out.trans (hb.mono L1.out.size))
      have B2 := Lib.hid (Cells.below B1.out hb)
      have N2 := Lib.hid (Cells.below N1.out hb)
      clear hb m0 m1 m2 B1 N1 L1 HC
      obtain ⟨m0, m1, m2⟩ := TBox.cells B2.out
      go_wp2_with fail
      refine (HH w2 (HR.out.below L2.out)).out.mono ?_
      rintro e w3' ⟨rfl, hb⟩
      have L3 : Hid (Below w.heap.size w (w3'.alloc (.cells #[.int .i64 x0.key, .int .i64 x0.host, .int .i64 x0.epoch, .int .i64 x0.til] 43))) := (L2.out.trans (hb.mono L2.out.size)).alloc (Nat.le_trans L2.out.size hb.size) _
      have B3 : Hid (TBox (w3'.alloc (.cells #[.int .i64 x0.key, .int .i64 x0.host, .int .i64 x0.epoch, .int .i64 x0.til] 43)) w.heap.size last now A n c) := Cells.alloc (Cells.below B2.out hb) _
      have N3 : Hid (TBox (w3'.alloc (.cells #[.int .i64 x0.key, .int .i64 x0.host, .int .i64 x0.epoch, .int .i64 x0.til] 43)) (w.heap.size + 1) 0 0 none 0 0) := Cells.alloc (Cells.below N2.out hb) _
      have H3 : Hid (LBox (w3'.alloc (.cells #[.int .i64 x0.key, .int .i64 x0.host, .int .i64 x0.epoch, .int .i64 x0.til] 43)) w3'.heap.size x0) := Cells.new _ _ _
      clear hb m0 m1 m2
      go_upto_region 4 with fail
      clear L2 B2 N2
      generalize w3'.alloc (.cells #[.int .i64 x0.key, .int .i64 x0.host, .int .i64 x0.epoch, .int .i64 x0.til] 43) = w3 at *
      have hlt2 : w.heap.size + 1 < w3.heap.size := Cells.lt N3.out
      have I3 : Hid (Out w3 (w3.alloc (.cells #[.int .i64 last, .int .i64 now, .slice none 0 0] 24)) w3.heap.size last now none 0 0 []) := Out.start w3 last now
      obtain ⟨m0, m1, m2⟩ := TBox.cells B3.out
      go_upto_region 7 with fail
      clear m0 m1 m2
      have B4 := Lib.hid (Cells.below B3.out I3.out.below)
      generalize w3.alloc (.cells #[.int .i64 last, .int .i64 now, .slice none 0 0] 24) = w5 at *
      obtain ⟨m0, m1, m2⟩ := TBox.cells B4.out
      go_wp2_with fail
      clear m0 m1 m2
      go_loopw [10, 32] (fun _ i wr => ∃ (k : Nat) (Y : Option Addr) (b y : Nat), i = .int .i64 k ∧ k ≤ n ∧ b ≤ k ∧ Hid (Out w3 wr w3.heap.size last now Y b y ((l.take k).filter (fun x => !(x.key == key))))) (fun _ i _ => n - (intOf i).toNat)
      case atStart => exact ⟨0, none, 0, 0, rfl, by omega, by omega, I3.out⟩
      case round =>
        obtain ⟨k, Y, b, y, rfl, hk, hb, hH⟩ := hrel
        by_cases hlt : k < n
        · skip
          obtain ⟨x, hx⟩ := HR.out.get hlt
          obtain ⟨b0, o0, hA, c0, c1, c2, c3⟩ := RowS.lease_at (HR.out.below (L3.out.trans (hH.out.below.mono L3.out.size))) hx
          subst hA
          have htk : Hid (l.take (k + 1) = l.take k ++ [x]) := by show _ = _; rw [List.take_add_one, hx]; rfl
          have hk0 : (0 : Int) ≤ (k : Int) := by omega
          have hkn : (k : Int) < (n : Int) := by omega
          clear hx
          have I4 := Lib.hid (Out.alloc hH.out (.cells #[.int .i64 x.key, .int .i64 x.host, .int .i64 x.epoch, .int .i64 x.til] 43))
          have X4 : Hid (LBox (wr.alloc (.cells #[.int .i64 x.key, .int .i64 x.host, .int .i64 x.epoch, .int .i64 x.til] 43)) wr.heap.size x) := Cells.new _ _ _
          go_upto_region 10 with fail
          clear c0 c1 c2 c3
          generalize wr.alloc (.cells #[.int .i64 x.key, .int .i64 x.host, .int .i64 x.epoch, .int .i64 x.til] 43) = w4 at *
          obtain ⟨n0, n1, n2, n3⟩ := LBox.cells X4.out
          rcases e : (x.key == key)
          · have HE := Lib.hid e
            have hne : (x.key != key) = true := by unfold bne; rw [e]; rfl
            obtain ⟨m0, m1, m2⟩ := TBox.cells I4.out.box
            have Q5 : Hid (LBox (w4.alloc (.cells #[.int .i64 x.key, .int .i64 x.host, .int .i64 x.epoch, .int .i64 x.til] 43)) w4.heap.size x) := Cells.new _ _ _
            have I5 := Lib.hid (Out.alloc I4.out (.cells #[.int .i64 x.key, .int .i64 x.host, .int .i64 x.epoch, .int .i64 x.til] 43))
            have hs5 := Cells.lt I5.out.box
            go_wp2_with (at_builtin
                         refine wpList_append_l rfl (.tmp 41) (.tmp 43) rfl rfl (w3.heap.size + 1) (.slice Y b y) b _ rfl I5.out.own _ 1 1 [x] rfl (RowS.one Q5.out) (by omega) (by omega) ?_
                         intro A' c' w' h1 h2 h3
                         have C6 := Lib.hid (Cells.grown I5.out.box h2 (own_ne I5.out.own (by omega)))
                         have I7 := Lib.hid (Out.put I5.out h1 h2)
                         clear h1 h2 h3 m0 m1 m2
                         obtain ⟨m0, m1, m2⟩ := TBox.cells C6.out
                         obtain ⟨f0, f1, f2⟩ := TBox.frozen C6.out)
            go_roundw
            case rel => exact ⟨k + 1, A', b + 1, c', by go_num, by omega, by omega, Lib.hid (by rw [htk.out, List.filter_append]; simpa [HE.out] using I7.out)⟩
            case measure => simp [intOf]; omega
          · have HE := Lib.hid e
            have hne : (x.key != key) = false := by unfold bne; rw [e]; rfl
            go_wp2_with fail
            go_roundw
            case rel => exact ⟨k + 1, Y, b, y, by go_num, by omega, by omega, Lib.hid (by rw [htk.out, List.filter_append]; simpa [HE.out] using I4.out)⟩
            case measure => simp [intOf]; omega
        · have hkn : l.take k = l := List.take_of_length_le (by have := hlen.out; omega)
          have HK := Lib.hid hkn
          clear hkn
          have N5 := Lib.hid (Cells.below N3.out hH.out.below)
          have FIN : Hid (∀ w9, But (w.heap.size + 1) wr w9 → GaveT w ⟨last, now, butK l key⟩ [.int .i64 0] (.returned (.tuple #[tv last now Y b y, .int .i64 0])) w9) := by
            show ∀ _, _
            intro w9 hB
            have h := hH.out
            rw [HK.out] at h
            have o1 : OwnsL (w3.heap.size + 1) w9 (.slice Y b y) b (butK l key) := h.but hB (by omega)
            have e1 := o1.2
            have r1 := o1.row (by omega)
            subst e1
            exact ⟨Y, y, rfl, r1, (L3.out.trans (h.below.mono L3.out.size)).trans (hB.below (Nat.le_trans L3.out.size h.below.size) (by omega))⟩
          obtain ⟨m0, m1, m2⟩ := TBox.cells hH.out.box
          obtain ⟨z0, z1, z2⟩ := TBox.cells N5.out
          obtain ⟨f0, f1, f2⟩ := TBox.frozen N5.out
          go_wp2_with fail
          refine bodyPost_ret_by (results_c1 rfl _ _ (w.heap.size + 1) _ _ _ _ rfl (Cells.set3 N5.out (.int .i64 last) (.int .i64 now) (.slice Y b y)) Try.underlying24 rfl (by kernel_rfl)) rfl ?_
          exact FIN.out _ (But.set3 _ _ _ _ _)
end Lea
end Go.Proofs.Ytehknenlifdchaa
