/-
  SEVERAL TEXTS IN ONE FILE: LeaGrant, CooAct.
-/
import Derived.Test.YtmflngclncidjaaGreatJ09
import Derived.Test.YtmflngclncidjaaGreatJ08
/-
  A WALK: Grant.
-/
namespace Go.Proofs.YtmflngclncidjaaGreat
open Go.RowKit Mem
namespace Lea

/-- A table, a lease, an error, as a call gave them. -/
def GaveG (w : World) (t : Tv) (x : Lv) (er : Int) (en : Ending) (w' : World) : Prop :=
  ∃ A c, en = .returned (.tuple #[tv t.last t.now A t.l.length c, lv x, .int .i64 er]) ∧ RowL w' A t.l.length c t.l ∧ Below w.heap.size w w'


def OwnedG (w : World) (t : Tv) (x : Lv) (er : Int) (en : Ending) (w' : World) : Prop :=
  ∃ A c, en = .returned (.tuple #[tv t.last t.now A t.l.length c, lv x, .int .i64 er]) ∧ RowL w' A t.l.length c t.l ∧ OwnsL w.heap.size w' (.slice A t.l.length c) t.l.length t.l ∧ Below w.heap.size w w'
theorem OwnedG.gave {w : World} {t : Tv} {x : Lv} {er : Int} {en : Ending} {w' : World} (h : OwnedG w t x er en w') : GaveG w t x er en w' := by
  obtain ⟨A, c, h1, h2, -, h4⟩ := h
  exact ⟨A, c, h1, h2, h4⟩

set_option maxRecDepth 100000 in
set_option maxHeartbeats 12800000 in
theorem grant_own {last now : Int} {A : Option Addr} {n c : Nat} {l : List Lv} {w : World} (key host ttl : Int) (h : RowL w A n c l) (hn : n ≤ 900000)
    (hwl : grantOk ⟨last, now, l⟩ key host ttl = true → IntKind.i64.wrap (last + 1) = last + 1) (hwt : grantOk ⟨last, now, l⟩ key host ttl = true → IntKind.i64.wrap (now + ttl) = now + ttl) :
    Calls Tryz.prog 81 #[tv last now A n c, .int .i64 key, .int .i64 host, .int .i64 ttl] w (OwnedG w (grantP ⟨last, now, l⟩ key host ttl).1 (grantP ⟨last, now, l⟩ key host ttl).2.1 (grantP ⟨last, now, l⟩ key host ttl).2.2) := by
  have HR := Lib.hid h
  have hbig := h.big
  have hlen := Lib.hid h.len
  have HC := fun w (h : RowL w A n c l) => Lib.hid (check_any (last := last) (now := now) h (by omega))
  have HH0 := fun w => Lib.hid (host_any host w)
  have HT := fun w => Lib.hid (ttl_any ttl w)
  have L1 : Hid (Below w.heap.size w (((w.alloc (.cells #[.int .i64 last, .int .i64 now, .slice A n c] 27)).alloc (.cells #[.int .i64 0, .int .i64 0, .slice none 0 0] 27)).alloc (.cells #[.int .i64 0, .int .i64 0, .int .i64 0, .int .i64 0] 65))) := (((Below.refl w.heap.size w).alloc (Nat.le_refl _) _).alloc (by simp) _).alloc (by simp; omega) _
  have B1 : Hid (TBox (((w.alloc (.cells #[.int .i64 last, .int .i64 now, .slice A n c] 27)).alloc (.cells #[.int .i64 0, .int .i64 0, .slice none 0 0] 27)).alloc (.cells #[.int .i64 0, .int .i64 0, .int .i64 0, .int .i64 0] 65)) w.heap.size last now A n c) := Cells.alloc (Cells.alloc (Cells.new w _ _) _) _
  have N1 : Hid (TBox (((w.alloc (.cells #[.int .i64 last, .int .i64 now, .slice A n c] 27)).alloc (.cells #[.int .i64 0, .int .i64 0, .slice none 0 0] 27)).alloc (.cells #[.int .i64 0, .int .i64 0, .int .i64 0, .int .i64 0] 65)) (w.heap.size + 1) 0 0 none 0 0) := Cells.alloc (by have := Cells.new (w.alloc (.cells #[.int .i64 last, .int .i64 now, .slice A n c] 27)) #[.int .i64 0, .int .i64 0, .slice none 0 0] 27; simpa using this) _
  have M1 : Hid (LBox (((w.alloc (.cells #[.int .i64 last, .int .i64 now, .slice A n c] 27)).alloc (.cells #[.int .i64 0, .int .i64 0, .slice none 0 0] 27)).alloc (.cells #[.int .i64 0, .int .i64 0, .int .i64 0, .int .i64 0] 65)) (w.heap.size + 2) zL) := by
    have := Cells.new ((w.alloc (.cells #[.int .i64 last, .int .i64 now, .slice A n c] 27)).alloc (.cells #[.int .i64 0, .int .i64 0, .slice none 0 0] 27)) #[.int .i64 0, .int .i64 0, .int .i64 0, .int .i64 0] 65
    exact (by simpa using this : Cells _ (w.heap.size + 1 + 1) _ _)
  clear h
  have BAD : Hid (∀ (er : Int) w2, Below w.heap.size w w2 → OwnedG w zT zL er (.returned (.tuple #[tv 0 0 none 0 0, lv zL, .int .i64 er])) w2) := fun er w2 hb => ⟨none, 0, rfl, RowS.nil _ _ _, OwnsL.nil _ _, hb⟩
  unfold grantP
  rcases hok : okT ⟨last, now, l⟩
  · rw [hok] at HC
    have hgo : grantOk ⟨last, now, l⟩ key host ttl = false := by unfold grantOk; rw [hok]; simp
    rw [hgo]
    clear hgo hwl hwt
    go_enter Tryz.func81, Tryz.ntmps81
    go_upto_region 1 with fail
    generalize ((w.alloc (.cells #[.int .i64 last, .int .i64 now, .slice A n c] 27)).alloc (.cells #[.int .i64 0, .int .i64 0, .slice none 0 0] 27)).alloc (.cells #[.int .i64 0, .int .i64 0, .int .i64 0, .int .i64 0] 65) = w1 at *
    obtain ⟨m0, m1, m2⟩ := TBox.cells B1.out
    go_wp2_with fail
    refine (HC w1 (HR.out.below L1.out)).out.mono ?_
    rintro e w2 ⟨rfl, hb⟩
    have L2 := Lib.hid (L1.out.trans (hb.mono L1.out.size))
    have N2 := Lib.hid (Cells.below N1.out hb)
    have M2 := Lib.hid (Cells.below M1.out hb)
    have B2 := Lib.hid (Cells.below B1.out hb)
    clear hb m0 m1 m2 B1 N1 M1 L1 HC
    obtain ⟨m0, m1, m2⟩ := TBox.cells B2.out
    obtain ⟨z0, z1, z2⟩ := TBox.cells N2.out
    obtain ⟨f0, f1, f2⟩ := TBox.frozen N2.out
    obtain ⟨y0, y1, y2, y3⟩ := LBox.cells (x := zL) M2.out
    obtain ⟨g0, g1, g2, g3⟩ := LBox.frozen (x := zL) M2.out
    go_wp2_with fail
    refine bodyPost_ret_by (results_cc1 rfl _ _ (w.heap.size + 1) (w.heap.size + 2) _ _ _ _ _ _ _ _ rfl (Cells.other4 (Cells.set3 N2.out (.int .i64 0) (.int .i64 0) (.slice none 0 0)) (by omega) (.int .i64 0) (.int .i64 0) (.int .i64 0) (.int .i64 0)) Tryz.underlying27 rfl (by kernel_rfl) rfl (Cells.set4 (Cells.other3 M2.out (by omega) (.int .i64 0) (.int .i64 0) (.slice none 0 0)) (.int .i64 0) (.int .i64 0) (.int .i64 0) (.int .i64 0)) Tryz.underlying65 rfl (by kernel_rfl)) rfl ?_
    exact BAD.out 1 _ (below4 (below3 L2.out (by omega) _ _ _) (by omega) _ _ _ _)
  · rw [hok] at HC
    rcases hke : decide (key < 0)
    · rcases hho : hostB host
      · rw [hho] at HH0
        have hgo : grantOk ⟨last, now, l⟩ key host ttl = false := by unfold grantOk; rw [hho]; simp
        rw [hgo]
        clear hgo hwl hwt
        go_enter Tryz.func81, Tryz.ntmps81
        go_upto_region 1 with fail
        generalize ((w.alloc (.cells #[.int .i64 last, .int .i64 now, .slice A n c] 27)).alloc (.cells #[.int .i64 0, .int .i64 0, .slice none 0 0] 27)).alloc (.cells #[.int .i64 0, .int .i64 0, .int .i64 0, .int .i64 0] 65) = w1 at *
        obtain ⟨m0, m1, m2⟩ := TBox.cells B1.out
        go_wp2_with fail
        refine (HC w1 (HR.out.below L1.out)).out.mono ?_
        rintro e w2 ⟨rfl, hb⟩
        have L2 := Lib.hid (L1.out.trans (hb.mono L1.out.size))
        have N2 := Lib.hid (Cells.below N1.out hb)
        have M2 := Lib.hid (Cells.below M1.out hb)
        have B2 := Lib.hid (Cells.below B1.out hb)
        clear hb m0 m1 m2 B1 N1 M1 L1 HC
        obtain ⟨m0, m1, m2⟩ := TBox.cells B2.out
        go_wp2_with fail
        refine (HH0 w2).out.mono ?_
        rintro e w2' ⟨rfl, rfl⟩
        obtain ⟨z0, z1, z2⟩ := TBox.cells N2.out
        obtain ⟨f0, f1, f2⟩ := TBox.frozen N2.out
        obtain ⟨y0, y1, y2, y3⟩ := LBox.cells (x := zL) M2.out
        obtain ⟨g0, g1, g2, g3⟩ := LBox.frozen (x := zL) M2.out
        go_wp2_with fail
        refine bodyPost_ret_by (results_cc1 rfl _ _ (w.heap.size + 1) (w.heap.size + 2) _ _ _ _ _ _ _ _ rfl (Cells.other4 (Cells.set3 N2.out (.int .i64 0) (.int .i64 0) (.slice none 0 0)) (by omega) (.int .i64 0) (.int .i64 0) (.int .i64 0) (.int .i64 0)) Tryz.underlying27 rfl (by kernel_rfl) rfl (Cells.set4 (Cells.other3 M2.out (by omega) (.int .i64 0) (.int .i64 0) (.slice none 0 0)) (.int .i64 0) (.int .i64 0) (.int .i64 0) (.int .i64 0)) Tryz.underlying65 rfl (by kernel_rfl)) rfl ?_
        exact BAD.out 1 _ (below4 (below3 L2.out (by omega) _ _ _) (by omega) _ _ _ _)
      · rw [hho] at HH0
        rcases hto : ttlB ttl
        · rw [hto] at HT
          have hgo : grantOk ⟨last, now, l⟩ key host ttl = false := by unfold grantOk; rw [hto]; simp
          rw [hgo]
          clear hgo hwl hwt
          go_enter Tryz.func81, Tryz.ntmps81
          go_upto_region 1 with fail
          generalize ((w.alloc (.cells #[.int .i64 last, .int .i64 now, .slice A n c] 27)).alloc (.cells #[.int .i64 0, .int .i64 0, .slice none 0 0] 27)).alloc (.cells #[.int .i64 0, .int .i64 0, .int .i64 0, .int .i64 0] 65) = w1 at *
          obtain ⟨m0, m1, m2⟩ := TBox.cells B1.out
          go_wp2_with fail
          refine (HC w1 (HR.out.below L1.out)).out.mono ?_
          rintro e w2 ⟨rfl, hb⟩
          have L2 := Lib.hid (L1.out.trans (hb.mono L1.out.size))
          have N2 := Lib.hid (Cells.below N1.out hb)
          have M2 := Lib.hid (Cells.below M1.out hb)
          have B2 := Lib.hid (Cells.below B1.out hb)
          clear hb m0 m1 m2 B1 N1 M1 L1 HC
          obtain ⟨m0, m1, m2⟩ := TBox.cells B2.out
          go_wp2_with fail
          refine (HH0 w2).out.mono ?_
          rintro e w2' ⟨rfl, rfl⟩
          go_wp2_with fail
          refine (HT w2').out.mono ?_
          rintro e w2'' ⟨rfl, rfl⟩
          obtain ⟨z0, z1, z2⟩ := TBox.cells N2.out
          obtain ⟨f0, f1, f2⟩ := TBox.frozen N2.out
          obtain ⟨y0, y1, y2, y3⟩ := LBox.cells (x := zL) M2.out
          obtain ⟨g0, g1, g2, g3⟩ := LBox.frozen (x := zL) M2.out
          go_wp2_with fail
          refine bodyPost_ret_by (results_cc1 rfl _ _ (w.heap.size + 1) (w.heap.size + 2) _ _ _ _ _ _ _ _ rfl (Cells.other4 (Cells.set3 N2.out (.int .i64 0) (.int .i64 0) (.slice none 0 0)) (by omega) (.int .i64 0) (.int .i64 0) (.int .i64 0) (.int .i64 0)) Tryz.underlying27 rfl (by kernel_rfl) rfl (Cells.set4 (Cells.other3 M2.out (by omega) (.int .i64 0) (.int .i64 0) (.slice none 0 0)) (.int .i64 0) (.int .i64 0) (.int .i64 0) (.int .i64 0)) Tryz.underlying65 rfl (by kernel_rfl)) rfl ?_
          exact BAD.out 1 _ (below4 (below3 L2.out (by omega) _ _ _) (by omega) _ _ _ _)
        · rw [hto] at HT
          have hgo : grantOk ⟨last, now, l⟩ key host ttl = true := by unfold grantOk; rw [hok, hke, hho, hto]; rfl
          rw [hgo]
          have HWL := Lib.hid (hwl hgo)
          have HWT := Lib.hid (hwt hgo)
          clear hgo hwl hwt
          have hri := okT_rises hok
          have HF := fun w (h : RowL w A n c l) => Lib.hid (find_any (key := key) h hri)
          have HRI := Lib.hid hri
          clear hri
          rcases hh : heldB l key
          · rw [hh] at HF
            go_enter Tryz.func81, Tryz.ntmps81
            go_upto_region 1 with fail
            generalize ((w.alloc (.cells #[.int .i64 last, .int .i64 now, .slice A n c] 27)).alloc (.cells #[.int .i64 0, .int .i64 0, .slice none 0 0] 27)).alloc (.cells #[.int .i64 0, .int .i64 0, .int .i64 0, .int .i64 0] 65) = w1 at *
            obtain ⟨m0, m1, m2⟩ := TBox.cells B1.out
            go_wp2_with fail
            refine (HC w1 (HR.out.below L1.out)).out.mono ?_
            rintro e w2 ⟨rfl, hb⟩
            have L2 := Lib.hid (L1.out.trans (hb.mono L1.out.size))
            have N2 := Lib.hid (Cells.below N1.out hb)
            have M2 := Lib.hid (Cells.below M1.out hb)
            have B2 := Lib.hid (Cells.below B1.out hb)
            clear hb m0 m1 m2 B1 N1 M1 L1 HC
            obtain ⟨m0, m1, m2⟩ := TBox.cells B2.out
            go_wp2_with fail
            refine (HH0 w2).out.mono ?_
            rintro e w2' ⟨rfl, rfl⟩
            go_wp2_with fail
            refine (HT w2').out.mono ?_
            rintro e w2'' ⟨rfl, rfl⟩
            go_wp2_with fail
            refine (HF w2'' (HR.out.below L2.out)).out.mono ?_
            rintro e w3 ⟨⟨k, rfl, hpl⟩, hb⟩
            have L3 := Lib.hid (L2.out.trans (hb.mono L2.out.size))
            have N3 := Lib.hid (Cells.below N2.out hb)
            have M3 := Lib.hid (Cells.below M2.out hb)
            have B3 := Lib.hid (Cells.below B2.out hb)
            have HAB := Lib.hid (place_above hpl hh)
            have HBE := Lib.hid (place_below hpl)
            have hkl : k ≤ n := by have := hpl.le; have := hlen.out; omega
            clear hb hpl m0 m1 m2 B2 N2 M2 L2 HF HT HH0
            obtain ⟨m0, m1, m2⟩ := TBox.cells B3.out
            have hw1 := HWL.out
            have hw2 := HWT.out
            have L4 : Hid (Below w.heap.size w (w3.alloc (.cells #[.int .i64 key, .int .i64 host, .int .i64 (last + 1), .int .i64 (now + ttl)] 65))) := L3.out.alloc L3.out.size _
            have N4 : Hid (TBox (w3.alloc (.cells #[.int .i64 key, .int .i64 host, .int .i64 (last + 1), .int .i64 (now + ttl)] 65)) (w.heap.size + 1) 0 0 none 0 0) := Cells.alloc N3.out _
            have M4 : Hid (LBox (w3.alloc (.cells #[.int .i64 key, .int .i64 host, .int .i64 (last + 1), .int .i64 (now + ttl)] 65)) (w.heap.size + 2) zL) := Cells.alloc M3.out _
            have B4 : Hid (TBox (w3.alloc (.cells #[.int .i64 key, .int .i64 host, .int .i64 (last + 1), .int .i64 (now + ttl)] 65)) w.heap.size last now A n c) := Cells.alloc B3.out _
            have G4 : Hid (LBox (w3.alloc (.cells #[.int .i64 key, .int .i64 host, .int .i64 (last + 1), .int .i64 (now + ttl)] 65)) w3.heap.size ⟨key, host, last + 1, now + ttl⟩) := Cells.new _ _ _
            go_upto_region 7 with fail
            have hlt : w.heap.size + 2 < w3.heap.size := Cells.lt M3.out
            clear m0 m1 m2 B3 N3 M3 L3
            generalize w3.alloc (.cells #[.int .i64 key, .int .i64 host, .int .i64 (last + 1), .int .i64 (now + ttl)] 65) = w4 at *
            have L5 : Hid (Below w.heap.size w w4.drew) := L4.out.drew
            have N5 : Hid (TBox w4.drew (w.heap.size + 1) 0 0 none 0 0) := N4.out
            have M5 : Hid (LBox w4.drew (w.heap.size + 2) zL) := M4.out
            have B5 : Hid (TBox w4.drew w.heap.size last now A n c) := B4.out
            have G5 : Hid (LBox w4.drew w3.heap.size ⟨key, host, last + 1, now + ttl⟩) := G4.out
            have hlt4 : w3.heap.size < w4.drew.heap.size := Cells.lt G5.out
            clear L4 N4 M4 B4 G4
            have HCL := fun W (hW : Below w4.drew.heap.size w4.drew W) => Lib.hid (clone_any (HR.out.below (L5.out.trans (hW.mono L5.out.size))) (by omega))
            have HS := fun W (h1 : TBox W w.heap.size last now A n c) (h2 : LBox W w3.heap.size ⟨key, host, last + 1, now + ttl⟩) => And.intro (TBox.cells h1).2.1 (And.intro (TBox.cells h1).2.2 (LBox.cells h2))
            have FIN : Hid (∀ base W Y dd, w4.drew.heap.size ≤ base → OwnsL base W (.slice Y (n + 1) dd) (n + 1) (insL l k ⟨key, host, last + 1, now + ttl⟩) → Below w4.drew.heap.size w4.drew W → OwnedG w ⟨last + 1, now, putL l key ⟨key, host, last + 1, now + ttl⟩⟩ ⟨key, host, last + 1, now + ttl⟩ 0 (.returned (.tuple #[tv (last + 1) now Y (n + 1) dd, lv ⟨key, host, last + 1, now + ttl⟩, .int .i64 0])) ((((((((W.setCell ⟨w.heap.size + 1, 0, none⟩ (.int .i64 (last + 1))).setCell ⟨w.heap.size + 1, 1, none⟩ (.int .i64 now)).setCell ⟨w.heap.size + 1, 2, none⟩ (.slice Y (n + 1) dd)).setCell ⟨w.heap.size + 2, 0, none⟩ (.int .i64 key)).setCell ⟨w.heap.size + 2, 1, none⟩ (.int .i64 host)).setCell ⟨w.heap.size + 2, 2, none⟩ (.int .i64 (last + 1))).setCell ⟨w.heap.size + 2, 3, none⟩ (.int .i64 (now + ttl))))) := by
              show ∀ _, _
              intro base W Y dd hb hO hW
              have h1 := (hO.but (But.set3 W (w.heap.size + 1) (.int .i64 (last + 1)) (.int .i64 now) (.slice Y (n + 1) dd)) (by omega)).but (But.set4 _ (w.heap.size + 2) (.int .i64 key) (.int .i64 host) (.int .i64 (last + 1)) (.int .i64 (now + ttl))) (by omega)
              have h2 : insL l k ⟨key, host, last + 1, now + ttl⟩ = putL l key ⟨key, host, last + 1, now + ttl⟩ := by unfold insL putL; rw [HAB.out, HBE.out]
              rw [h2] at h1
              have h3 := h1.2
              have h4 := h1.row (by omega)
              refine ⟨Y, dd, ?_, ?_, by rw [show (putL l key ⟨key, host, last + 1, now + ttl⟩).length = n + 1 from h3]; exact h1.mono (Nat.le_trans L5.out.size hb), below4 (below3 (L5.out.trans (hW.mono L5.out.size)) (by omega) _ _ _) (by omega) _ _ _ _⟩
              · show _ = Ending.returned (.tuple #[tv (last + 1) now Y (putL l key _).length dd, _, _])
                rw [h3]
              · show RowL _ Y (putL l key _).length dd _
                rw [h3]; exact h4
            refine wp_region_held_drew (S := fun W => W.cell? ⟨w.heap.size, 1, none⟩ = some (.int .i64 now) ∧ W.cell? ⟨w.heap.size, 2, none⟩ = some (.slice A n c) ∧ (W.cell? ⟨w3.heap.size, 0, none⟩ = some (.int .i64 key) ∧ W.cell? ⟨w3.heap.size, 1, none⟩ = some (.int .i64 host) ∧ W.cell? ⟨w3.heap.size, 2, none⟩ = some (.int .i64 (last + 1)) ∧ W.cell? ⟨w3.heap.size, 3, none⟩ = some (.int .i64 (now + ttl))))
              (by kernel_rfl) (HS _ B5.out G5.out) (fun hHeld => ?_)
            (first | (refine Reg.take 0 (v := ?_) rfl (by kernel_rfl) (by kernel_rfl) (by kernel_rfl) (fun _ _ _ h => h) (Or.inl ⟨by rfl, ?_⟩) (by assumption) ?_; rotate_left; (focus ((intro W hSW); (try dsimp only at hSW); (try go_split_ands); go_simp; (try (with_reducible rfl)); done))) | (refine Reg.take 0 (v := undef) rfl (by kernel_rfl) (by kernel_rfl) (by kernel_rfl) (fun _ _ _ h => h) (Or.inr ⟨by rfl, rfl⟩) (by assumption) ?_))
            (try simp only [Act.put, List.setIfInBounds_toArray, List.set_cons_zero, List.set_cons_succ])
            (first | (refine Reg.take 1 (v := ?_) rfl (by kernel_rfl) (by kernel_rfl) (by kernel_rfl) (fun _ _ _ h => h) (Or.inl ⟨by rfl, ?_⟩) (by assumption) ?_; rotate_left; (focus ((intro W hSW); (try dsimp only at hSW); (try go_split_ands); go_simp; (try (with_reducible rfl)); done))) | (refine Reg.take 1 (v := undef) rfl (by kernel_rfl) (by kernel_rfl) (by kernel_rfl) (fun _ _ _ h => h) (Or.inr ⟨by rfl, rfl⟩) (by assumption) ?_))
            (try simp only [Act.put, List.setIfInBounds_toArray, List.set_cons_zero, List.set_cons_succ])
            (first | (refine Reg.take 2 (v := ?_) rfl (by kernel_rfl) (by kernel_rfl) (by kernel_rfl) (fun _ _ _ h => h) (Or.inl ⟨by rfl, ?_⟩) (by assumption) ?_; rotate_left; (focus ((intro W hSW); (try dsimp only at hSW); (try go_split_ands); go_simp; (try (with_reducible rfl)); done))) | (refine Reg.take 2 (v := undef) rfl (by kernel_rfl) (by kernel_rfl) (by kernel_rfl) (fun _ _ _ h => h) (Or.inr ⟨by rfl, rfl⟩) (by assumption) ?_))
            (try simp only [Act.put, List.setIfInBounds_toArray, List.set_cons_zero, List.set_cons_succ])
            (first | (refine Reg.take 3 (v := ?_) rfl (by kernel_rfl) (by kernel_rfl) (by kernel_rfl) (fun _ _ _ h => h) (Or.inl ⟨by rfl, ?_⟩) (by assumption) ?_; rotate_left; (focus ((intro W hSW); (try dsimp only at hSW); (try go_split_ands); go_simp; (try (with_reducible rfl)); done))) | (refine Reg.take 3 (v := undef) rfl (by kernel_rfl) (by kernel_rfl) (by kernel_rfl) (fun _ _ _ h => h) (Or.inr ⟨by rfl, rfl⟩) (by assumption) ?_))
            (try simp only [Act.put, List.setIfInBounds_toArray, List.set_cons_zero, List.set_cons_succ])
            (first | (refine Reg.take 4 (v := ?_) rfl (by kernel_rfl) (by kernel_rfl) (by kernel_rfl) (fun _ _ _ h => h) (Or.inl ⟨by rfl, ?_⟩) (by assumption) ?_; rotate_left; (focus ((intro W hSW); (try dsimp only at hSW); (try go_split_ands); go_simp; (try (with_reducible rfl)); done))) | (refine Reg.take 4 (v := undef) rfl (by kernel_rfl) (by kernel_rfl) (by kernel_rfl) (fun _ _ _ h => h) (Or.inr ⟨by rfl, rfl⟩) (by assumption) ?_))
            (try simp only [Act.put, List.setIfInBounds_toArray, List.set_cons_zero, List.set_cons_succ])
            (first | (refine Reg.take 5 (v := ?_) rfl (by kernel_rfl) (by kernel_rfl) (by kernel_rfl) (fun _ _ _ h => h) (Or.inl ⟨by rfl, ?_⟩) (by assumption) ?_; rotate_left; (focus ((intro W hSW); (try dsimp only at hSW); (try go_split_ands); go_simp; (try (with_reducible rfl)); done))) | (refine Reg.take 5 (v := undef) rfl (by kernel_rfl) (by kernel_rfl) (by kernel_rfl) (fun _ _ _ h => h) (Or.inr ⟨by rfl, rfl⟩) (by assumption) ?_))
            (try simp only [Act.put, List.setIfInBounds_toArray, List.set_cons_zero, List.set_cons_succ])
            (first | (refine Reg.take 7 (v := ?_) rfl (by kernel_rfl) (by kernel_rfl) (by kernel_rfl) (fun _ _ _ h => h) (Or.inl ⟨by rfl, ?_⟩) (by assumption) ?_; rotate_left; (focus ((intro W hSW); (try dsimp only at hSW); (try go_split_ands); go_simp; (try (with_reducible rfl)); done))) | (refine Reg.take 7 (v := undef) rfl (by kernel_rfl) (by kernel_rfl) (by kernel_rfl) (fun _ _ _ h => h) (Or.inr ⟨by rfl, rfl⟩) (by assumption) ?_))
            (try simp only [Act.put, List.setIfInBounds_toArray, List.set_cons_zero, List.set_cons_succ])
            (first | (refine Reg.take 8 (v := ?_) rfl (by kernel_rfl) (by kernel_rfl) (by kernel_rfl) (fun _ _ _ h => h) (Or.inl ⟨by rfl, ?_⟩) (by assumption) ?_; rotate_left; (focus ((intro W hSW); (try dsimp only at hSW); (try go_split_ands); go_simp; (try (with_reducible rfl)); done))) | (refine Reg.take 8 (v := undef) rfl (by kernel_rfl) (by kernel_rfl) (by kernel_rfl) (fun _ _ _ h => h) (Or.inr ⟨by rfl, rfl⟩) (by assumption) ?_))
            (try simp only [Act.put, List.setIfInBounds_toArray, List.set_cons_zero, List.set_cons_succ])
            (first | (refine Reg.take 12 (v := ?_) rfl (by kernel_rfl) (by kernel_rfl) (by kernel_rfl) (fun _ _ _ h => h) (Or.inl ⟨by rfl, ?_⟩) (by assumption) ?_; rotate_left; (focus ((intro W hSW); (try dsimp only at hSW); (try go_split_ands); go_simp; (try (with_reducible rfl)); done))) | (refine Reg.take 12 (v := undef) rfl (by kernel_rfl) (by kernel_rfl) (by kernel_rfl) (fun _ _ _ h => h) (Or.inr ⟨by rfl, rfl⟩) (by assumption) ?_))
            (try simp only [Act.put, List.setIfInBounds_toArray, List.set_cons_zero, List.set_cons_succ])
            refine Reg.step2 6 9 rfl rfl (by kernel_rfl) (by rfl) (by rfl) (fun K hK => ?_) (fun K hK => ?_)
            · go_simp
              refine (HCL w4.drew (Below.refl _ _)).out.mono ?_
              rintro e w6 ⟨⟨X, d, rfl, hX⟩, hb6⟩
              have B6 := Lib.hid (Cells.below B5.out hb6)
              have N6 := Lib.hid (Cells.below N5.out hb6)
              have M6 := Lib.hid (Cells.below M5.out hb6)
              have G6 := Lib.hid (Cells.below G5.out hb6)
              have A6 := Lib.hid hb6
              have X6 := Lib.hid hX
              have hsz6 := hb6.size
              clear hb6 hX
              refine hK.out _ _ (HS _ B6.out G6.out) (fun hHeld2 => ?_)
              clear hK K
              (try simp only [Act.put, List.setIfInBounds_toArray, List.set_cons_zero, List.set_cons_succ])
              refine Reg.step 9 rfl (by kernel_rfl) (by rfl) (fun K hK => ?_)
              have B7 : Hid (TBox (w6.alloc (.cells #[.int .i64 key, .int .i64 host, .int .i64 (last + 1), .int .i64 (now + ttl)] 65)) w.heap.size last now A n c) := Cells.alloc B6.out _
              have N7 : Hid (TBox (w6.alloc (.cells #[.int .i64 key, .int .i64 host, .int .i64 (last + 1), .int .i64 (now + ttl)] 65)) (w.heap.size + 1) 0 0 none 0 0) := Cells.alloc N6.out _
              have M7 : Hid (LBox (w6.alloc (.cells #[.int .i64 key, .int .i64 host, .int .i64 (last + 1), .int .i64 (now + ttl)] 65)) (w.heap.size + 2) zL) := Cells.alloc M6.out _
              have G7 : Hid (LBox (w6.alloc (.cells #[.int .i64 key, .int .i64 host, .int .i64 (last + 1), .int .i64 (now + ttl)] 65)) w3.heap.size ⟨key, host, last + 1, now + ttl⟩) := Cells.alloc G6.out _
              have A7 : Hid (Below w4.drew.heap.size w4.drew (w6.alloc (.cells #[.int .i64 key, .int .i64 host, .int .i64 (last + 1), .int .i64 (now + ttl)] 65))) := A6.out.alloc A6.out.size _
              have X7 := Lib.hid (OwnsL.alloc X6.out (.cells #[.int .i64 key, .int .i64 host, .int .i64 (last + 1), .int .i64 (now + ttl)] 65))
              have Q7 : Hid (LBox (w6.alloc (.cells #[.int .i64 key, .int .i64 host, .int .i64 (last + 1), .int .i64 (now + ttl)] 65)) w6.heap.size ⟨key, host, last + 1, now + ttl⟩) := Cells.new _ _ _
              go_simp
              refine hK.out _ _ (HS _ B7.out G7.out) (fun hHeld2 => ?_)
              clear hK K
              (try simp only [Act.put, List.setIfInBounds_toArray, List.set_cons_zero, List.set_cons_succ])
              have HIN := Lib.hid (insert_any X7.out hkl Q7.out (fun k hk => by have := (X6.out.lt k hk).2; omega) A7.out.size (by omega))
              generalize w6.alloc (.cells #[.int .i64 key, .int .i64 host, .int .i64 (last + 1), .int .i64 (now + ttl)] 65) = w7 at *
              refine Reg.step 10 rfl (by kernel_rfl) (by rfl) (fun K hK => ?_)
              go_simp
              refine HIN.out.mono ?_
              rintro e w8 ⟨⟨Y, dd, rfl, h8⟩, hb8⟩
              have B8 := Lib.hid (Cells.low B7.out (by omega) hb8)
              have N8 := Lib.hid (Cells.low N7.out (by omega) hb8)
              have M8 := Lib.hid (Cells.low M7.out (by omega) hb8)
              have G8 := Lib.hid (Cells.low G7.out (by omega) hb8)
              have A8 := Lib.hid (A7.out.trans (hb8.mono (Nat.le_refl _)))
              have O8 := Lib.hid h8
              clear hb8 h8
              refine hK.out _ _ (HS _ B8.out G8.out) (fun hHeld3 => ?_)
              clear hK K
              (try simp only [Act.put, List.setIfInBounds_toArray, List.set_cons_zero, List.set_cons_succ])
              (first | (refine Reg.take 11 (v := ?_) rfl (by kernel_rfl) (by kernel_rfl) (by kernel_rfl) (fun _ _ _ h => h) (Or.inl ⟨by rfl, ?_⟩) (by assumption) ?_; rotate_left; (focus ((intro W hSW); (try dsimp only at hSW); (try go_split_ands); go_simp; (try (with_reducible rfl)); done))) | (refine Reg.take 11 (v := undef) rfl (by kernel_rfl) (by kernel_rfl) (by kernel_rfl) (fun _ _ _ h => h) (Or.inr ⟨by rfl, rfl⟩) (by assumption) ?_))
              (try simp only [Act.put, List.setIfInBounds_toArray, List.set_cons_zero, List.set_cons_succ])
              refine Reg.step 13 rfl (by kernel_rfl) (by rfl) (fun K hK => ?_)
              obtain ⟨z0, z1, z2⟩ := TBox.cells N8.out
              obtain ⟨f0, f1, f2⟩ := TBox.frozen N8.out
              have B9 : Hid (TBox _ w.heap.size last now A n c) := Cells.other3 (g' := w.heap.size + 1) B8.out (by omega) (.int .i64 (last + 1)) (.int .i64 now) (.slice Y (n + 1) dd)
              have G9 : Hid (LBox _ w3.heap.size ⟨key, host, last + 1, now + ttl⟩) := Cells.other3 (g' := w.heap.size + 1) G8.out (by omega) (.int .i64 (last + 1)) (.int .i64 now) (.slice Y (n + 1) dd)
              have N9 : Hid (TBox _ (w.heap.size + 1) (last + 1) now Y (n + 1) dd) := Cells.set3 N8.out (.int .i64 (last + 1)) (.int .i64 now) (.slice Y (n + 1) dd)
              have M9 : Hid (LBox _ (w.heap.size + 2) zL) := Cells.other3 (g' := w.heap.size + 1) M8.out (by omega) (.int .i64 (last + 1)) (.int .i64 now) (.slice Y (n + 1) dd)
              go_simp
              clear z0 z1 z2 f0 f1 f2
              refine hK.out _ _ (HS _ B9.out G9.out) (fun hHeld4 => ?_)
              clear hK K
              (try simp only [Act.put, List.setIfInBounds_toArray, List.set_cons_zero, List.set_cons_succ])
              refine Reg.step 14 rfl (by kernel_rfl) (by rfl) (fun K hK => ?_)
              obtain ⟨z0, z1, z2, z3⟩ := LBox.cells (x := zL) M9.out
              obtain ⟨f0, f1, f2, f3⟩ := LBox.frozen (x := zL) M9.out
              have B10 : Hid (TBox _ w.heap.size last now A n c) := Cells.other4 (g' := w.heap.size + 2) B9.out (by omega) (.int .i64 key) (.int .i64 host) (.int .i64 (last + 1)) (.int .i64 (now + ttl))
              have G10 : Hid (LBox _ w3.heap.size ⟨key, host, last + 1, now + ttl⟩) := Cells.other4 (g' := w.heap.size + 2) G9.out (by omega) (.int .i64 key) (.int .i64 host) (.int .i64 (last + 1)) (.int .i64 (now + ttl))
              have N10 : Hid (TBox _ (w.heap.size + 1) (last + 1) now Y (n + 1) dd) := Cells.other4 (g' := w.heap.size + 2) N9.out (by omega) (.int .i64 key) (.int .i64 host) (.int .i64 (last + 1)) (.int .i64 (now + ttl))
              have M10 : Hid (LBox _ (w.heap.size + 2) ⟨key, host, last + 1, now + ttl⟩) := Cells.set4 M9.out (.int .i64 key) (.int .i64 host) (.int .i64 (last + 1)) (.int .i64 (now + ttl))
              go_simp
              clear z0 z1 z2 z3 f0 f1 f2 f3
              refine hK.out _ _ (HS _ B10.out G10.out) (fun hHeld5 => ?_)
              clear hK K
              (try simp only [Act.put, List.setIfInBounds_toArray, List.set_cons_zero, List.set_cons_succ])
              (first | (refine Reg.take 15 (v := ?_) rfl (by kernel_rfl) (by kernel_rfl) (by kernel_rfl) (fun _ _ _ h => h) (Or.inl ⟨by rfl, ?_⟩) (by assumption) ?_; rotate_left; (focus ((intro W hSW); (try dsimp only at hSW); (try go_split_ands); go_simp; (try (with_reducible rfl)); done))) | (refine Reg.take 15 (v := undef) rfl (by kernel_rfl) (by kernel_rfl) (by kernel_rfl) (fun _ _ _ h => h) (Or.inr ⟨by rfl, rfl⟩) (by assumption) ?_))
              (try simp only [Act.put, List.setIfInBounds_toArray, List.set_cons_zero, List.set_cons_succ])
              refine wpAnyH_done (by kernel_rfl) ?_ _
              go_wp2_with fail
              refine bodyPost_ret_by (results_cc1 rfl _ _ (w.heap.size + 1) (w.heap.size + 2) _ _ _ _ _ _ _ _ rfl N10.out Tryz.underlying27 rfl (by kernel_rfl) rfl M10.out Tryz.underlying65 rfl (by kernel_rfl)) rfl ?_
              exact FIN.out _ _ Y dd (by exact Nat.le_refl _) O8.out A8.out
            · have B6 : Hid (TBox ((w4.alloc (.cells #[.int .i64 key, .int .i64 host, .int .i64 (last + 1), .int .i64 (now + ttl)] 65)).drew) w.heap.size last now A n c) := Cells.alloc B5.out _
              have N6 : Hid (TBox ((w4.alloc (.cells #[.int .i64 key, .int .i64 host, .int .i64 (last + 1), .int .i64 (now + ttl)] 65)).drew) (w.heap.size + 1) 0 0 none 0 0) := Cells.alloc N5.out _
              have M6 : Hid (LBox ((w4.alloc (.cells #[.int .i64 key, .int .i64 host, .int .i64 (last + 1), .int .i64 (now + ttl)] 65)).drew) (w.heap.size + 2) zL) := Cells.alloc M5.out _
              have G6 : Hid (LBox ((w4.alloc (.cells #[.int .i64 key, .int .i64 host, .int .i64 (last + 1), .int .i64 (now + ttl)] 65)).drew) w3.heap.size ⟨key, host, last + 1, now + ttl⟩) := Cells.alloc G5.out _
              have A6 : Hid (Below w4.drew.heap.size w4.drew ((w4.alloc (.cells #[.int .i64 key, .int .i64 host, .int .i64 (last + 1), .int .i64 (now + ttl)] 65)).drew)) := ((Below.refl w4.drew.heap.size w4.drew).alloc (Nat.le_refl _) (.cells #[.int .i64 key, .int .i64 host, .int .i64 (last + 1), .int .i64 (now + ttl)] 65))
              have Q6 : Hid (LBox ((w4.alloc (.cells #[.int .i64 key, .int .i64 host, .int .i64 (last + 1), .int .i64 (now + ttl)] 65)).drew) w4.drew.heap.size ⟨key, host, last + 1, now + ttl⟩) := Cells.new w4.drew _ _
              go_simp
              refine hK.out _ _ (HS _ B6.out G6.out) (fun hHeld2 => ?_)
              clear hK K
              (try simp only [Act.put, List.setIfInBounds_toArray, List.set_cons_zero, List.set_cons_succ])
              have HCX := Lib.hid (HCL _ A6.out).out
              have hsz6 := A6.out.size
              have hszq := Cells.lt Q6.out
              generalize (w4.alloc (.cells #[.int .i64 key, .int .i64 host, .int .i64 (last + 1), .int .i64 (now + ttl)] 65)).drew = w6 at *
              refine Reg.step 6 rfl (by kernel_rfl) (by rfl) (fun K hK => ?_)
              go_simp
              refine HCX.out.mono ?_
              rintro e w7 ⟨⟨X, d, rfl, hX⟩, hb7⟩
              have B7 := Lib.hid (Cells.below B6.out hb7)
              have N7 := Lib.hid (Cells.below N6.out hb7)
              have M7 := Lib.hid (Cells.below M6.out hb7)
              have G7 := Lib.hid (Cells.below G6.out hb7)
              have Q7 := Lib.hid (Cells.below Q6.out hb7)
              have A7 := Lib.hid (A6.out.trans (hb7.mono A6.out.size))
              have X7 := Lib.hid hX
              have hsz7 := hb7.size
              clear hb7 hX
              refine hK.out _ _ (HS _ B7.out G7.out) (fun hHeld2 => ?_)
              clear hK K
              (try simp only [Act.put, List.setIfInBounds_toArray, List.set_cons_zero, List.set_cons_succ])
              have HIN := Lib.hid (insert_any X7.out hkl Q7.out (fun k hk => by have := (X7.out.lt k hk).1; omega) hsz7 (by omega))
              refine Reg.step 10 rfl (by kernel_rfl) (by rfl) (fun K hK => ?_)
              go_simp
              refine HIN.out.mono ?_
              rintro e w8 ⟨⟨Y, dd, rfl, h8⟩, hb8⟩
              have B8 := Lib.hid (Cells.low B7.out (by omega) hb8)
              have N8 := Lib.hid (Cells.low N7.out (by omega) hb8)
              have M8 := Lib.hid (Cells.low M7.out (by omega) hb8)
              have G8 := Lib.hid (Cells.low G7.out (by omega) hb8)
              have A8 := Lib.hid (A7.out.trans (hb8.mono hsz6))
              have O8 := Lib.hid h8
              clear hb8 h8
              refine hK.out _ _ (HS _ B8.out G8.out) (fun hHeld3 => ?_)
              clear hK K
              (try simp only [Act.put, List.setIfInBounds_toArray, List.set_cons_zero, List.set_cons_succ])
              (first | (refine Reg.take 11 (v := ?_) rfl (by kernel_rfl) (by kernel_rfl) (by kernel_rfl) (fun _ _ _ h => h) (Or.inl ⟨by rfl, ?_⟩) (by assumption) ?_; rotate_left; (focus ((intro W hSW); (try dsimp only at hSW); (try go_split_ands); go_simp; (try (with_reducible rfl)); done))) | (refine Reg.take 11 (v := undef) rfl (by kernel_rfl) (by kernel_rfl) (by kernel_rfl) (fun _ _ _ h => h) (Or.inr ⟨by rfl, rfl⟩) (by assumption) ?_))
              (try simp only [Act.put, List.setIfInBounds_toArray, List.set_cons_zero, List.set_cons_succ])
              refine Reg.step 13 rfl (by kernel_rfl) (by rfl) (fun K hK => ?_)
              obtain ⟨z0, z1, z2⟩ := TBox.cells N8.out
              obtain ⟨f0, f1, f2⟩ := TBox.frozen N8.out
              have B9 : Hid (TBox _ w.heap.size last now A n c) := Cells.other3 (g' := w.heap.size + 1) B8.out (by omega) (.int .i64 (last + 1)) (.int .i64 now) (.slice Y (n + 1) dd)
              have G9 : Hid (LBox _ w3.heap.size ⟨key, host, last + 1, now + ttl⟩) := Cells.other3 (g' := w.heap.size + 1) G8.out (by omega) (.int .i64 (last + 1)) (.int .i64 now) (.slice Y (n + 1) dd)
              have N9 : Hid (TBox _ (w.heap.size + 1) (last + 1) now Y (n + 1) dd) := Cells.set3 N8.out (.int .i64 (last + 1)) (.int .i64 now) (.slice Y (n + 1) dd)
              have M9 : Hid (LBox _ (w.heap.size + 2) zL) := Cells.other3 (g' := w.heap.size + 1) M8.out (by omega) (.int .i64 (last + 1)) (.int .i64 now) (.slice Y (n + 1) dd)
              go_simp
              clear z0 z1 z2 f0 f1 f2
              refine hK.out _ _ (HS _ B9.out G9.out) (fun hHeld4 => ?_)
              clear hK K
              (try simp only [Act.put, List.setIfInBounds_toArray, List.set_cons_zero, List.set_cons_succ])
              refine Reg.step 14 rfl (by kernel_rfl) (by rfl) (fun K hK => ?_)
              obtain ⟨z0, z1, z2, z3⟩ := LBox.cells (x := zL) M9.out
              obtain ⟨f0, f1, f2, f3⟩ := LBox.frozen (x := zL) M9.out
              have B10 : Hid (TBox _ w.heap.size last now A n c) := Cells.other4 (g' := w.heap.size + 2) B9.out (by omega) (.int .i64 key) (.int .i64 host) (.int .i64 (last + 1)) (.int .i64 (now + ttl))
              have G10 : Hid (LBox _ w3.heap.size ⟨key, host, last + 1, now + ttl⟩) := Cells.other4 (g' := w.heap.size + 2) G9.out (by omega) (.int .i64 key) (.int .i64 host) (.int .i64 (last + 1)) (.int .i64 (now + ttl))
              have N10 : Hid (TBox _ (w.heap.size + 1) (last + 1) now Y (n + 1) dd) := Cells.other4 (g' := w.heap.size + 2) N9.out (by omega) (.int .i64 key) (.int .i64 host) (.int .i64 (last + 1)) (.int .i64 (now + ttl))
              have M10 : Hid (LBox _ (w.heap.size + 2) ⟨key, host, last + 1, now + ttl⟩) := Cells.set4 M9.out (.int .i64 key) (.int .i64 host) (.int .i64 (last + 1)) (.int .i64 (now + ttl))
              go_simp
              clear z0 z1 z2 z3 f0 f1 f2 f3
              refine hK.out _ _ (HS _ B10.out G10.out) (fun hHeld5 => ?_)
              clear hK K
              (try simp only [Act.put, List.setIfInBounds_toArray, List.set_cons_zero, List.set_cons_succ])
              (first | (refine Reg.take 15 (v := ?_) rfl (by kernel_rfl) (by kernel_rfl) (by kernel_rfl) (fun _ _ _ h => h) (Or.inl ⟨by rfl, ?_⟩) (by assumption) ?_; rotate_left; (focus ((intro W hSW); (try dsimp only at hSW); (try go_split_ands); go_simp; (try (with_reducible rfl)); done))) | (refine Reg.take 15 (v := undef) rfl (by kernel_rfl) (by kernel_rfl) (by kernel_rfl) (fun _ _ _ h => h) (Or.inr ⟨by rfl, rfl⟩) (by assumption) ?_))
              (try simp only [Act.put, List.setIfInBounds_toArray, List.set_cons_zero, List.set_cons_succ])
              refine wpAnyH_done (by kernel_rfl) ?_ _
              go_wp2_with fail
              refine bodyPost_ret_by (results_cc1 rfl _ _ (w.heap.size + 1) (w.heap.size + 2) _ _ _ _ _ _ _ _ rfl N10.out Tryz.underlying27 rfl (by kernel_rfl) rfl M10.out Tryz.underlying65 rfl (by kernel_rfl)) rfl ?_
              exact FIN.out _ _ Y dd (by exact hsz6) O8.out A8.out
          · rw [hh] at HF
            go_enter Tryz.func81, Tryz.ntmps81
            go_upto_region 1 with fail
            generalize ((w.alloc (.cells #[.int .i64 last, .int .i64 now, .slice A n c] 27)).alloc (.cells #[.int .i64 0, .int .i64 0, .slice none 0 0] 27)).alloc (.cells #[.int .i64 0, .int .i64 0, .int .i64 0, .int .i64 0] 65) = w1 at *
            obtain ⟨m0, m1, m2⟩ := TBox.cells B1.out
            go_wp2_with fail
            refine (HC w1 (HR.out.below L1.out)).out.mono ?_
            rintro e w2 ⟨rfl, hb⟩
            have L2 := Lib.hid (L1.out.trans (hb.mono L1.out.size))
            have N2 := Lib.hid (Cells.below N1.out hb)
            have M2 := Lib.hid (Cells.below M1.out hb)
            have B2 := Lib.hid (Cells.below B1.out hb)
            clear hb m0 m1 m2 B1 N1 M1 L1 HC
            obtain ⟨m0, m1, m2⟩ := TBox.cells B2.out
            go_wp2_with fail
            refine (HH0 w2).out.mono ?_
            rintro e w2' ⟨rfl, rfl⟩
            go_wp2_with fail
            refine (HT w2').out.mono ?_
            rintro e w2'' ⟨rfl, rfl⟩
            go_wp2_with fail
            refine (HF w2'' (HR.out.below L2.out)).out.mono ?_
            rintro e w3 ⟨⟨k, rfl, hpl⟩, hb⟩
            have L3 := Lib.hid (L2.out.trans (hb.mono L2.out.size))
            have N3 := Lib.hid (Cells.below N2.out hb)
            have M3 := Lib.hid (Cells.below M2.out hb)
            have B3 := Lib.hid (Cells.below B2.out hb)
            clear hb hpl m0 m1 m2
            obtain ⟨z0, z1, z2⟩ := TBox.cells N3.out
            obtain ⟨f0, f1, f2⟩ := TBox.frozen N3.out
            obtain ⟨y0, y1, y2, y3⟩ := LBox.cells (x := zL) M3.out
            obtain ⟨g0, g1, g2, g3⟩ := LBox.frozen (x := zL) M3.out
            go_wp2_with fail
            refine bodyPost_ret_by (results_cc1 rfl _ _ (w.heap.size + 1) (w.heap.size + 2) _ _ _ _ _ _ _ _ rfl (Cells.other4 (Cells.set3 N3.out (.int .i64 0) (.int .i64 0) (.slice none 0 0)) (by omega) (.int .i64 0) (.int .i64 0) (.int .i64 0) (.int .i64 0)) Tryz.underlying27 rfl (by kernel_rfl) rfl (Cells.set4 (Cells.other3 M3.out (by omega) (.int .i64 0) (.int .i64 0) (.slice none 0 0)) (.int .i64 0) (.int .i64 0) (.int .i64 0) (.int .i64 0)) Tryz.underlying65 rfl (by kernel_rfl)) rfl ?_
            exact BAD.out 60 _ (below4 (below3 L3.out (by omega) _ _ _) (by omega) _ _ _ _)
    · have hgo : grantOk ⟨last, now, l⟩ key host ttl = false := by unfold grantOk; rw [hke]; simp
      rw [hgo]
      clear hgo hwl hwt
      go_enter Tryz.func81, Tryz.ntmps81
      go_upto_region 1 with fail
      generalize ((w.alloc (.cells #[.int .i64 last, .int .i64 now, .slice A n c] 27)).alloc (.cells #[.int .i64 0, .int .i64 0, .slice none 0 0] 27)).alloc (.cells #[.int .i64 0, .int .i64 0, .int .i64 0, .int .i64 0] 65) = w1 at *
      obtain ⟨m0, m1, m2⟩ := TBox.cells B1.out
      go_wp2_with fail
      refine (HC w1 (HR.out.below L1.out)).out.mono ?_
      rintro e w2 ⟨rfl, hb⟩
      have L2 := Lib.hid (L1.out.trans (hb.mono L1.out.size))
      have N2 := Lib.hid (Cells.below N1.out hb)
      have M2 := Lib.hid (Cells.below M1.out hb)
      have B2 := Lib.hid (Cells.below B1.out hb)
      clear hb m0 m1 m2 B1 N1 M1 L1 HC
      obtain ⟨m0, m1, m2⟩ := TBox.cells B2.out
      obtain ⟨z0, z1, z2⟩ := TBox.cells N2.out
      obtain ⟨f0, f1, f2⟩ := TBox.frozen N2.out
      obtain ⟨y0, y1, y2, y3⟩ := LBox.cells (x := zL) M2.out
      obtain ⟨g0, g1, g2, g3⟩ := LBox.frozen (x := zL) M2.out
      go_wp2_with fail
      refine bodyPost_ret_by (results_cc1 rfl _ _ (w.heap.size + 1) (w.heap.size + 2) _ _ _ _ _ _ _ _ rfl (Cells.other4 (Cells.set3 N2.out (.int .i64 0) (.int .i64 0) (.slice none 0 0)) (by omega) (.int .i64 0) (.int .i64 0) (.int .i64 0) (.int .i64 0)) Tryz.underlying27 rfl (by kernel_rfl) rfl (Cells.set4 (Cells.other3 M2.out (by omega) (.int .i64 0) (.int .i64 0) (.slice none 0 0)) (.int .i64 0) (.int .i64 0) (.int .i64 0) (.int .i64 0)) Tryz.underlying65 rfl (by kernel_rfl)) rfl ?_
      exact BAD.out 1 _ (below4 (below3 L2.out (by omega) _ _ _) (by omega) _ _ _ _)
theorem grant_any {last now : Int} {A : Option Addr} {n c : Nat} {l : List Lv} {w : World} (key host ttl : Int) (h : RowL w A n c l) (hn : n ≤ 900000)
    (hwl : grantOk ⟨last, now, l⟩ key host ttl = true → IntKind.i64.wrap (last + 1) = last + 1) (hwt : grantOk ⟨last, now, l⟩ key host ttl = true → IntKind.i64.wrap (now + ttl) = now + ttl) :
    Calls Tryz.prog 81 #[tv last now A n c, .int .i64 key, .int .i64 host, .int .i64 ttl] w (GaveG w (grantP ⟨last, now, l⟩ key host ttl).1 (grantP ⟨last, now, l⟩ key host ttl).2.1 (grantP ⟨last, now, l⟩ key host ttl).2.2) := by
  exact (grant_own key host ttl h hn hwl hwt).mono fun _ _ h => h.gave
end Lea
end Go.Proofs.YtmflngclncidjaaGreat
/-
  WHAT ACTS HAVE IN COMMON: how they begin and end; nextEpoch; sums that fit.
-/
namespace Go.Proofs.YtmflngclncidjaaGreat
open Go.RowKit Mem
namespace Coo
open Lea (Cells But OneBox Lv Tv)
open Spa (Sp)

theorem cells_ne {w : World} {p p' : Nat} {t t' : TypeId} {cs cs' : Array Value} (h : Cells w p t cs) (h' : Cells w p' t' cs') (ht : t ≠ t') : p ≠ p' := by
  intro e
  subst e
  unfold Cells at h h'
  rw [h] at h'
  injection h' with h'
  injection h' with _ h'
  exact ht h'
theorem Move.tail {base g p : Nat} {a b a' b' : Option Nat} {w w' w'' : World} (h : Move base g a b a' b' w w') (hb : But p w' w'') (hp : w.heap.size ≤ p) (h0 : base ≤ w.heap.size) : Move base g a b a' b' w w'' :=
  ⟨h.below.trans (hb.below (Nat.le_trans h0 h.size) (Nat.le_trans h0 hp)), fun k hk ho => by
    obtain ⟨h1, h2⟩ := h.keep k hk ho
    exact ⟨(hb.block (Nat.lt_of_lt_of_le hk h.size) (by omega)).trans h1, h2⟩⟩
theorem RowF.away {w w' : World} {p : Nat} {B : Option Addr} {n d : Nat} {l : List Fv} (h : RowF w B n d l) (hb : But p w w') (hp : ∀ k o, B = some ⟨k, o, none⟩ → k ≠ p) : RowF w' B n d l := RowS.keepBut h (fun q o e _ => hp q o e) hb
theorem acted_end {base g : Nat} {x x' : Cx} {w w9 : World} {r : Cv × An} {p : Nat} (hp : w.heap.size ≤ p) (h0 : base ≤ w.heap.size) (hx : x'.p = r.1) (hd : Desk base w9 g x') {e0 ep0 : Int} {B0 : Option Addr} {n0 d0 : Nat} (hn : ABox w9 p e0 ep0 B0 n0 d0)
    (hm : Move base g (oL x) (oW x) (oL x') (oW x') w w9) {B : Option Addr} {n d : Nat} (hr : RowF w9 B n d r.2.todo) (hB : ∀ k o, B = some ⟨k, o, none⟩ → w.heap.size ≤ k ∧ k ≠ p ∧ Off g (oL x') (oW x') k) {e ep : Int} (he : e = r.2.e) (hep : ep = r.2.epoch) :
    Acted base g x w r (.returned (anv e ep B n d)) (((w9.setCell ⟨p, 0, none⟩ (.int .i64 e)).setCell ⟨p, 1, none⟩ (.int .i64 ep)).setCell ⟨p, 2, none⟩ (.slice B n d)) := by
  subst he hep
  have hb := Lea.But.set3 w9 p (.int .i64 r.2.e) (.int .i64 r.2.epoch) (.slice B n d)
  exact ⟨x', B, n, d, rfl, hx, hd.but hn hb (by decide) (by decide) (by decide) (by decide), RowF.away hr hb (fun k o e => (hB k o e).2.1), fun k o e => ⟨(hB k o e).1, (hB k o e).2.2⟩, hm.tail hb hp h0⟩
theorem acted_bad {base g : Nat} {x : Cx} {w w9 : World} {p : Nat} (hp : w.heap.size ≤ p) (h0 : base ≤ w.heap.size) (hd : Desk base w9 g x) {e0 ep0 : Int} {B0 : Option Addr} {n0 d0 : Nat} (hn : ABox w9 p e0 ep0 B0 n0 d0)
    (hb : Below w.heap.size w w9) (e : Int) :
    Acted base g x w (bad x.p e) (.returned (anv e 0 none 0 0)) (((w9.setCell ⟨p, 0, none⟩ (.int .i64 e)).setCell ⟨p, 1, none⟩ (.int .i64 0)).setCell ⟨p, 2, none⟩ (.slice none 0 0)) :=
  acted_end hp h0 rfl hd hn (Move.of_below hb h0) (RowS.nil _ _ _) (fun k o e => by cases e) rfl rfl
/-- An event and an answer in blocks of their own. -/
theorem two_new (w : World) (e : Ev) :
    Hid (Below w.heap.size w ((w.alloc (.cells #[.int .i64 e.d, .int .i64 e.host, .int .i64 e.zone, .int .i64 e.epoch, .int .i64 e.fr, .int .i64 e.to, .int .i64 e.now, .int .i64 e.key] 36)).alloc (.cells #[.int .i64 0, .int .i64 0, .slice none 0 0] 39))) ∧
    Hid (EBox ((w.alloc (.cells #[.int .i64 e.d, .int .i64 e.host, .int .i64 e.zone, .int .i64 e.epoch, .int .i64 e.fr, .int .i64 e.to, .int .i64 e.now, .int .i64 e.key] 36)).alloc (.cells #[.int .i64 0, .int .i64 0, .slice none 0 0] 39)) w.heap.size e) ∧
    Hid (ABox ((w.alloc (.cells #[.int .i64 e.d, .int .i64 e.host, .int .i64 e.zone, .int .i64 e.epoch, .int .i64 e.fr, .int .i64 e.to, .int .i64 e.now, .int .i64 e.key] 36)).alloc (.cells #[.int .i64 0, .int .i64 0, .slice none 0 0] 39)) (w.heap.size + 1) 0 0 none 0 0) :=
  ⟨((Below.refl w.heap.size w).alloc (Nat.le_refl _) _).alloc (by simp) _, heap_alloc2_old w _ _, heap_alloc2_new w _ _⟩
/-! ### Sums that fit -/
theorem wrap_last {c : Cv} (h : Inv c) {N : Nat} (hb : Bd c N) (hN : N ≤ 100000) : IntKind.i64.wrap (c.t.last + 1) = c.t.last + 1 := by
  have := last0 h
  have := hb.last
  rw [IntKind.wrap_i64]; omega
theorem wrap_ttl {c : Cv} (h : Inv c) {N : Nat} (hb : Bd c N) : IntKind.i64.wrap (c.t.now + c.ttl) = c.t.now + c.ttl := by
  have := now0 h
  have := hb.now
  have := h.ttl1
  have := h.ttl2
  rw [IntKind.wrap_i64]; omega
theorem ttl_ok {c : Cv} (h : Inv c) : Lea.ttlB c.ttl = true := by
  have := h.ttl1
  have := h.ttl2
  unfold Lea.ttlB
  simp only [Bool.and_eq_true, decide_eq_true_eq]
  omega
theorem grantC_eq {c : Cv} (h : Inv c) {key host : Int} (hk : 0 ≤ key) (hh : hostB host = true) :
    grantC c key host = bif (Lea.grantP ⟨c.t.last, c.t.now, c.t.l⟩ key host c.ttl).2.2 != 0 then bad c (Lea.grantP ⟨c.t.last, c.t.now, c.t.l⟩ key host c.ttl).2.2 else (setT c (Lea.grantP ⟨c.t.last, c.t.now, c.t.l⟩ key host c.ttl).1, ⟨0, (Lea.grantP ⟨c.t.last, c.t.now, c.t.l⟩ key host c.ttl).2.1.epoch, []⟩) := by
  have hg : Lea.grantOk ⟨c.t.last, c.t.now, c.t.l⟩ key host c.ttl = true := by
    unfold Lea.grantOk
    rw [show Lea.okT ⟨c.t.last, c.t.now, c.t.l⟩ = true from h.tok, ttl_ok h, show Lea.hostB host = true from hh, decide_eq_false (by omega : ¬ key < 0)]
    rfl
  unfold Lea.grantP grantC
  rw [hg]
  rcases Lea.heldB c.t.l key <;> rfl

set_option maxRecDepth 100000 in
set_option maxHeartbeats 1600000 in
theorem nextEpoch_any {g : Nat} {x : Cx} {w : World} (h : KBox w g x) (hw : IntKind.i64.wrap (x.p.t.last + 1) = x.p.t.last + 1) :
    Calls Tryz.prog 63 #[.pointer (some ⟨g, 0, none⟩)] w fun e w' => e = .returned (.int .i64 (x.p.t.last + 1)) ∧ w' = w.setCell ⟨g, 0, none⟩ (.int .i64 (x.p.t.last + 1)) := by
  have K1 : Hid (Cells (w.setCell ⟨g, 0, none⟩ (.int .i64 (x.p.t.last + 1))) g 86 _) := Lea.Cells.set_ h 0 (.int .i64 (x.p.t.last + 1))
  have n0 : (w.setCell ⟨g, 0, none⟩ (.int .i64 (x.p.t.last + 1))).cell? ⟨g, 0, none⟩ = some (.int .i64 (x.p.t.last + 1)) := Lea.Cells.cell K1.out 0
  obtain ⟨m0, m1, m2, m3, m4, m5, m6⟩ := seven h
  have f0 := (seven_frozen h).1
  clear h K1
  go_enter Tryz.func63, Tryz.ntmps63
  go_upto_region 2 with fail
  generalize hw1 : w.setCell ⟨g, 0, none⟩ (.int .i64 (x.p.t.last + 1)) = w1 at *
  clear m0 m1 m2 m3 m4 m5 m6 f0
  go_wp2_with fail
  go_ret
  exact ⟨rfl, hw1.symm⟩
end Coo
end Go.Proofs.YtmflngclncidjaaGreat
