/-
  A WALK OVER THE LAW'S OWN step.
-/
import Derived.Test.YtfcehlipbdngbaaZonStep
namespace Go.Proofs.Ytfcehlipbdngbaa
open Go.RowKit Mem
namespace Zon

/-- A zone and an error, as a call gave them: its bytes can be read. -/
def GaveR (w : World) (z : Zn) (er : Int) (en : Ending) (w' : World) : Prop :=
  ∃ D c, en = .returned (.tuple #[zv z D c, .int .i64 er]) ∧ Row cb w' D z.data.length c z.data ∧ Below w.heap.size w w'

/-- The blocks of the zone that came in, of what is to be done, of the zone that goes out. -/
theorem three_new (w : World) (z : Zn) (D : Option Addr) (c : Nat) (o : Ov) :
    Hid (Below w.heap.size w (((w.alloc (.cells #[.int .i64 z.st, .int .i64 z.fc, .slice D z.data.length c] 24)).alloc (.cells #[.int .i64 o.d, .slice o.B o.b.length o.c, .int .i64 o.n, .int .i64 o.off] 38)).alloc (.cells #[.int .i64 0, .int .i64 0, .slice none 0 0] 24))) ∧ Hid (Box (((w.alloc (.cells #[.int .i64 z.st, .int .i64 z.fc, .slice D z.data.length c] 24)).alloc (.cells #[.int .i64 o.d, .slice o.B o.b.length o.c, .int .i64 o.n, .int .i64 o.off] 38)).alloc (.cells #[.int .i64 0, .int .i64 0, .slice none 0 0] 24)) w.heap.size z D c) ∧ Hid (Cells (((w.alloc (.cells #[.int .i64 z.st, .int .i64 z.fc, .slice D z.data.length c] 24)).alloc (.cells #[.int .i64 o.d, .slice o.B o.b.length o.c, .int .i64 o.n, .int .i64 o.off] 38)).alloc (.cells #[.int .i64 0, .int .i64 0, .slice none 0 0] 24)) (w.heap.size + 1) 38 #[.int .i64 o.d, .slice o.B o.b.length o.c, .int .i64 o.n, .int .i64 o.off]) ∧ Hid (Box (((w.alloc (.cells #[.int .i64 z.st, .int .i64 z.fc, .slice D z.data.length c] 24)).alloc (.cells #[.int .i64 o.d, .slice o.B o.b.length o.c, .int .i64 o.n, .int .i64 o.off] 38)).alloc (.cells #[.int .i64 0, .int .i64 0, .slice none 0 0] 24)) (w.heap.size + 1 + 1) nilZ none 0) := by
  have h1 : Cells (w.alloc (.cells #[.int .i64 z.st, .int .i64 z.fc, .slice D z.data.length c] 24)) w.heap.size _ _ := Cells.new w _ _
  have h2 : Cells ((w.alloc (.cells #[.int .i64 z.st, .int .i64 z.fc, .slice D z.data.length c] 24)).alloc (.cells #[.int .i64 o.d, .slice o.B o.b.length o.c, .int .i64 o.n, .int .i64 o.off] 38)) (w.heap.size + 1) _ _ := heap_alloc2_new w _ _
  have h3 := Cells.new ((w.alloc (.cells #[.int .i64 z.st, .int .i64 z.fc, .slice D z.data.length c] 24)).alloc (.cells #[.int .i64 o.d, .slice o.B o.b.length o.c, .int .i64 o.n, .int .i64 o.off] 38)) #[.int .i64 0, .int .i64 0, .slice none 0 0] 24
  rw [World.size_alloc, World.size_alloc] at h3
  refine ⟨(((Below.refl w.heap.size w).alloc (Nat.le_refl _) _).alloc (by simp) _).alloc (by simp; omega) _, ?_, ?_, h3⟩
  · exact Cells.below (Cells.below h1 ((Below.refl _ _).alloc (Nat.le_refl _) _)) ((Below.refl _ _).alloc (Nat.le_refl _) _)
  · exact Cells.below h2 ((Below.refl _ _).alloc (Nat.le_refl _) _)

set_option maxRecDepth 100000 in
set_option maxHeartbeats 6400000 in
theorem step_any {z : Zn} {D : Option Addr} {c : Nat} {most : Int} {o : Ov} {w : World} (h1 : Row cb w D z.data.length c z.data) (h2 : Row cb w o.B o.b.length o.c o.b) (hoff : o.off ≤ 9223372036854775807) (hzl : z.data.length ≤ 70000) (hbl : o.b.length ≤ 70000) :
    Calls Try.prog 19 #[zv z D c, .int .i64 most, ov o] w (GaveR w (stepZ z most o) (stepE z most o)) := by
  obtain ⟨L1, A1, O1, N1⟩ := three_new w z D c o
  have H1 := Lib.hid h1
  have H2 := Lib.hid h2
  have HLT : Hid (w.heap.size + 1 + 1 < (((w.alloc (.cells #[.int .i64 z.st, .int .i64 z.fc, .slice D z.data.length c] 24)).alloc (.cells #[.int .i64 o.d, .slice o.B o.b.length o.c, .int .i64 o.n, .int .i64 o.off] 38)).alloc (.cells #[.int .i64 0, .int .i64 0, .slice none 0 0] 24)).heap.size) := N1.out.lt
  unfold stepZ stepE ov
  rcases e0 : (o.d == 0)
  · rcases e1 : (o.d == 1)
    · rcases e2 : (o.d == 2)
      · rcases e3 : (o.d == 3)
        · rcases e4 : (o.d == 4)
          · rcases e5 : (o.d == 5)
            · have HC := fun w (h1 : Row cb w D z.data.length c z.data) => Lib.hid (read_any (w := w) o.off o.n hoff h1)
              generalize errOf (readB z o.off o.n) = er at *
              unfold GaveE zv at *
              go_enter Try.func19, Try.ntmps19
              go_upto_region 1 with fail
              generalize ((w.alloc (.cells #[.int .i64 z.st, .int .i64 z.fc, .slice D z.data.length c] 24)).alloc (.cells #[.int .i64 o.d, .slice o.B o.b.length o.c, .int .i64 o.n, .int .i64 o.off] 38)).alloc (.cells #[.int .i64 0, .int .i64 0, .slice none 0 0] 24) = w1 at *
              obtain ⟨a0, a1, a2⟩ := A1.out.cells
              have o0 := O1.out.cell 0
              have o1 := O1.out.cell 1
              have o2 := O1.out.cell 2
              have o3 := O1.out.cell 3
              simp at o0 o1 o2 o3
              go_wp2_with fail
              refine (HC w1 (H1.out.below L1.out)).out.mono ?_
              rintro e w2 ⟨X, k, q, rfl, -, hb⟩
              have N9 := Lib.hid (N1.out.below hb)
              have A9 := Lib.hid (A1.out.below hb)
              have L9 := Lib.hid (L1.out.trans (hb.mono L1.out.size))
              clear hb a0 a1 a2 o0 o1 o2 o3
              obtain ⟨a0, a1, a2⟩ := A9.out.cells
              obtain ⟨f0, f1, f2⟩ := N9.out.frozen
              obtain ⟨n0, n1, n2⟩ := N9.out.cells
              go_wp2_with fail
              refine bodyPost_ret_by (results_zone_tmp rfl _ _ (w.heap.size + 1 + 1) _ _ _ _ rfl (Box.store N9.out z D c) Try.underlying24 rfl (by kernel_rfl)) rfl ?_
              have L10 := below3 (g := w.heap.size + 1 + 1) L9.out (by omega) (.int .i64 z.st) (.int .i64 z.fc) (.slice D z.data.length c)
              exact ⟨D, c, rfl, H1.out.below L10, L10⟩
            · have HC := fun w (h1 : Row cb w D z.data.length c z.data) (h2 : Row cb w o.B o.b.length o.c o.b) => Lib.hid (reset_any z D c w)
              have HN : Hid (((⟨0, z.fc, []⟩ : Zn)).data.length ≤ 140737488351232) := by show 0 ≤ _; omega
              generalize (⟨0, z.fc, []⟩ : Zn) = v at *
              unfold GaveZ zv at *
              go_enter Try.func19, Try.ntmps19
              go_upto_region 1 with fail
              generalize ((w.alloc (.cells #[.int .i64 z.st, .int .i64 z.fc, .slice D z.data.length c] 24)).alloc (.cells #[.int .i64 o.d, .slice o.B o.b.length o.c, .int .i64 o.n, .int .i64 o.off] 38)).alloc (.cells #[.int .i64 0, .int .i64 0, .slice none 0 0] 24) = w1 at *
              obtain ⟨a0, a1, a2⟩ := A1.out.cells
              have o0 := O1.out.cell 0
              have o1 := O1.out.cell 1
              have o2 := O1.out.cell 2
              have o3 := O1.out.cell 3
              simp at o0 o1 o2 o3
              go_wp2_with fail
              refine (HC w1 (H1.out.below L1.out) (H2.out.below L1.out)).out.mono ?_
              rintro e w2 ⟨X, q, rfl, hX, hb⟩
              unfold zv at *
              have N9 := Lib.hid (N1.out.below hb)
              have L9 := Lib.hid (L1.out.trans (hb.mono L1.out.size))
              have O9 := Lib.hid hX
              clear hX hb a0 a1 a2 o0 o1 o2 o3
              obtain ⟨f0, f1, f2⟩ := N9.out.frozen
              obtain ⟨n0, n1, n2⟩ := N9.out.cells
              go_wp2_with fail
              refine bodyPost_ret_by (results_zone_tmp rfl _ _ (w.heap.size + 1 + 1) _ _ _ _ rfl (Box.store N9.out v X q) Try.underlying24 rfl (by kernel_rfl)) rfl ?_
              exact ⟨X, q, rfl, (gave_row (Owns.other3 (g := w.heap.size + 1 + 1) O9.out HLT.out _ _ _) HN.out).1, below3 L9.out (by omega) _ _ _⟩
          · have HC := fun w (h1 : Row cb w D z.data.length c z.data) (h2 : Row cb w o.B o.b.length o.c o.b) => Lib.hid (finish_any (w := w) h1)
            have HN : Hid ((inZ z 4).data.length ≤ 140737488351232) := by show z.data.length ≤ _; omega
            generalize inZ z 4 = v at *
            unfold GaveZ zv at *
            go_enter Try.func19, Try.ntmps19
            go_upto_region 1 with fail
            generalize ((w.alloc (.cells #[.int .i64 z.st, .int .i64 z.fc, .slice D z.data.length c] 24)).alloc (.cells #[.int .i64 o.d, .slice o.B o.b.length o.c, .int .i64 o.n, .int .i64 o.off] 38)).alloc (.cells #[.int .i64 0, .int .i64 0, .slice none 0 0] 24) = w1 at *
            obtain ⟨a0, a1, a2⟩ := A1.out.cells
            have o0 := O1.out.cell 0
            have o1 := O1.out.cell 1
            have o2 := O1.out.cell 2
            have o3 := O1.out.cell 3
            simp at o0 o1 o2 o3
            go_wp2_with fail
            refine (HC w1 (H1.out.below L1.out) (H2.out.below L1.out)).out.mono ?_
            rintro e w2 ⟨X, q, rfl, hX, hb⟩
            unfold zv at *
            have N9 := Lib.hid (N1.out.below hb)
            have L9 := Lib.hid (L1.out.trans (hb.mono L1.out.size))
            have O9 := Lib.hid hX
            clear hX hb a0 a1 a2 o0 o1 o2 o3
            obtain ⟨f0, f1, f2⟩ := N9.out.frozen
            obtain ⟨n0, n1, n2⟩ := N9.out.cells
            go_wp2_with fail
            refine bodyPost_ret_by (results_zone_tmp rfl _ _ (w.heap.size + 1 + 1) _ _ _ _ rfl (Box.store N9.out v X q) Try.underlying24 rfl (by kernel_rfl)) rfl ?_
            exact ⟨X, q, rfl, (gave_row (Owns.other3 (g := w.heap.size + 1 + 1) O9.out HLT.out _ _ _) HN.out).1, below3 L9.out (by omega) _ _ _⟩
        · have HC := fun w (h1 : Row cb w D z.data.length c z.data) (h2 : Row cb w o.B o.b.length o.c o.b) => Lib.hid (close_any (w := w) h1)
          have HN : Hid ((closeZ z).data.length ≤ 140737488351232) := by show _ ≤ _; unfold closeZ inZ nilZ; cases (z.st == 0 || z.st == 4) <;> cases (z.data.length == 0) <;> simp <;> omega
          generalize closeZ z = v at *
          generalize closeErr z = er at *
          unfold GaveZ zv at *
          go_enter Try.func19, Try.ntmps19
          go_upto_region 1 with fail
          generalize ((w.alloc (.cells #[.int .i64 z.st, .int .i64 z.fc, .slice D z.data.length c] 24)).alloc (.cells #[.int .i64 o.d, .slice o.B o.b.length o.c, .int .i64 o.n, .int .i64 o.off] 38)).alloc (.cells #[.int .i64 0, .int .i64 0, .slice none 0 0] 24) = w1 at *
          obtain ⟨a0, a1, a2⟩ := A1.out.cells
          have o0 := O1.out.cell 0
          have o1 := O1.out.cell 1
          have o2 := O1.out.cell 2
          have o3 := O1.out.cell 3
          simp at o0 o1 o2 o3
          go_wp2_with fail
          refine (HC w1 (H1.out.below L1.out) (H2.out.below L1.out)).out.mono ?_
          rintro e w2 ⟨X, q, rfl, hX, hb⟩
          unfold zv at *
          have N9 := Lib.hid (N1.out.below hb)
          have L9 := Lib.hid (L1.out.trans (hb.mono L1.out.size))
          have O9 := Lib.hid hX
          clear hX hb a0 a1 a2 o0 o1 o2 o3
          obtain ⟨f0, f1, f2⟩ := N9.out.frozen
          obtain ⟨n0, n1, n2⟩ := N9.out.cells
          go_wp2_with fail
          refine bodyPost_ret_by (results_zone_tmp rfl _ _ (w.heap.size + 1 + 1) _ _ _ _ rfl (Box.store N9.out v X q) Try.underlying24 rfl (by kernel_rfl)) rfl ?_
          exact ⟨X, q, rfl, (gave_row (Owns.other3 (g := w.heap.size + 1 + 1) O9.out HLT.out _ _ _) HN.out).1, below3 L9.out (by omega) _ _ _⟩
      · have HC := fun w (h1 : Row cb w D z.data.length c z.data) (h2 : Row cb w o.B o.b.length o.c o.b) => Lib.hid (open_any (w := w) most h1)
        have HN : Hid ((openZ z most).data.length ≤ 140737488351232) := by show _ ≤ _; unfold openZ inZ nilZ; cases (openErr z most == 0) <;> simp; omega
        generalize openZ z most = v at *
        generalize openErr z most = er at *
        unfold GaveZ zv at *
        go_enter Try.func19, Try.ntmps19
        go_upto_region 1 with fail
        generalize ((w.alloc (.cells #[.int .i64 z.st, .int .i64 z.fc, .slice D z.data.length c] 24)).alloc (.cells #[.int .i64 o.d, .slice o.B o.b.length o.c, .int .i64 o.n, .int .i64 o.off] 38)).alloc (.cells #[.int .i64 0, .int .i64 0, .slice none 0 0] 24) = w1 at *
        obtain ⟨a0, a1, a2⟩ := A1.out.cells
        have o0 := O1.out.cell 0
        have o1 := O1.out.cell 1
        have o2 := O1.out.cell 2
        have o3 := O1.out.cell 3
        simp at o0 o1 o2 o3
        go_wp2_with fail
        refine (HC w1 (H1.out.below L1.out) (H2.out.below L1.out)).out.mono ?_
        rintro e w2 ⟨X, q, rfl, hX, hb⟩
        unfold zv at *
        have N9 := Lib.hid (N1.out.below hb)
        have L9 := Lib.hid (L1.out.trans (hb.mono L1.out.size))
        have O9 := Lib.hid hX
        clear hX hb a0 a1 a2 o0 o1 o2 o3
        obtain ⟨f0, f1, f2⟩ := N9.out.frozen
        obtain ⟨n0, n1, n2⟩ := N9.out.cells
        go_wp2_with fail
        refine bodyPost_ret_by (results_zone_tmp rfl _ _ (w.heap.size + 1 + 1) _ _ _ _ rfl (Box.store N9.out v X q) Try.underlying24 rfl (by kernel_rfl)) rfl ?_
        exact ⟨X, q, rfl, (gave_row (Owns.other3 (g := w.heap.size + 1 + 1) O9.out HLT.out _ _ _) HN.out).1, below3 L9.out (by omega) _ _ _⟩
    · have HC := fun w (h1 : Row cb w D z.data.length c z.data) (h2 : Row cb w o.B o.b.length o.c o.b) => Lib.hid (torn_any (most := most) (keep := o.n) h1 h2)
      have HN : Hid ((tornZ z most o.b o.n).data.length ≤ 140737488351232) := Nat.le_trans (tornZ_len z most o.b o.n) (by omega)
      generalize tornZ z most o.b o.n = v at *
      generalize tornErr z most o.b o.n = er at *
      unfold GaveZ zv at *
      go_enter Try.func19, Try.ntmps19
      go_upto_region 1 with fail
      generalize ((w.alloc (.cells #[.int .i64 z.st, .int .i64 z.fc, .slice D z.data.length c] 24)).alloc (.cells #[.int .i64 o.d, .slice o.B o.b.length o.c, .int .i64 o.n, .int .i64 o.off] 38)).alloc (.cells #[.int .i64 0, .int .i64 0, .slice none 0 0] 24) = w1 at *
      obtain ⟨a0, a1, a2⟩ := A1.out.cells
      have o0 := O1.out.cell 0
      have o1 := O1.out.cell 1
      have o2 := O1.out.cell 2
      have o3 := O1.out.cell 3
      simp at o0 o1 o2 o3
      go_wp2_with fail
      refine (HC w1 (H1.out.below L1.out) (H2.out.below L1.out)).out.mono ?_
      rintro e w2 ⟨X, q, rfl, hX, hb⟩
      unfold zv at *
      have N9 := Lib.hid (N1.out.below hb)
      have L9 := Lib.hid (L1.out.trans (hb.mono L1.out.size))
      have O9 := Lib.hid hX
      clear hX hb a0 a1 a2 o0 o1 o2 o3
      obtain ⟨f0, f1, f2⟩ := N9.out.frozen
      obtain ⟨n0, n1, n2⟩ := N9.out.cells
      go_wp2_with fail
      refine bodyPost_ret_by (results_zone_tmp rfl _ _ (w.heap.size + 1 + 1) _ _ _ _ rfl (Box.store N9.out v X q) Try.underlying24 rfl (by kernel_rfl)) rfl ?_
      exact ⟨X, q, rfl, (gave_row (Owns.other3 (g := w.heap.size + 1 + 1) O9.out HLT.out _ _ _) HN.out).1, below3 L9.out (by omega) _ _ _⟩
  · have HC := fun w (h1 : Row cb w D z.data.length c z.data) (h2 : Row cb w o.B o.b.length o.c o.b) => Lib.hid (append_any (most := most) h1 h2)
    have HN : Hid ((appRes z most o.b).data.length ≤ 140737488351232) := Nat.le_trans (appRes_len z most o.b) (by omega)
    generalize appRes z most o.b = v at *
    generalize appErr z most o.b.length = er at *
    unfold GaveZ zv at *
    go_enter Try.func19, Try.ntmps19
    go_upto_region 1 with fail
    generalize ((w.alloc (.cells #[.int .i64 z.st, .int .i64 z.fc, .slice D z.data.length c] 24)).alloc (.cells #[.int .i64 o.d, .slice o.B o.b.length o.c, .int .i64 o.n, .int .i64 o.off] 38)).alloc (.cells #[.int .i64 0, .int .i64 0, .slice none 0 0] 24) = w1 at *
    obtain ⟨a0, a1, a2⟩ := A1.out.cells
    have o0 := O1.out.cell 0
    have o1 := O1.out.cell 1
    have o2 := O1.out.cell 2
    have o3 := O1.out.cell 3
    simp at o0 o1 o2 o3
    go_wp2_with fail
    refine (HC w1 (H1.out.below L1.out) (H2.out.below L1.out)).out.mono ?_
    rintro e w2 ⟨X, q, rfl, hX, hb⟩
    unfold zv at *
    have b1 : Below w2.heap.size w2 (w2.alloc (.cells #[.int .i64 v.st, .int .i64 v.fc, .slice X v.data.length q] 24)) := (Below.refl _ w2).alloc (Nat.le_refl _) _
    have b2 := hb.trans (b1.mono hb.size)
    have N9 := Lib.hid (N1.out.below b2)
    have L9 := Lib.hid (L1.out.trans (b2.mono L1.out.size))
    have V9 : Hid (Box (w2.alloc (.cells #[.int .i64 v.st, .int .i64 v.fc, .slice X v.data.length q] 24)) w2.heap.size v X q) := Box.new w2 v X q
    have O9 := Lib.hid (hX.below b1)
    clear hX hb b1 b2 a0 a1 a2 o0 o1 o2 o3
    go_upto_region 4 with fail
    generalize w2.alloc (.cells #[.int .i64 v.st, .int .i64 v.fc, .slice X v.data.length q] 24) = w3 at *
    generalize w2.heap.size = g at *
    obtain ⟨v0, v1, v2⟩ := V9.out.cells
    obtain ⟨f0, f1, f2⟩ := N9.out.frozen
    obtain ⟨n0, n1, n2⟩ := N9.out.cells
    go_wp2_with fail
    refine bodyPost_ret_by (results_zone_tmp rfl _ _ (w.heap.size + 1 + 1) _ _ _ _ rfl (Box.store N9.out v X q) Try.underlying24 rfl (by kernel_rfl)) rfl ?_
    exact ⟨X, q, rfl, (gave_row (Owns.other3 (g := w.heap.size + 1 + 1) O9.out HLT.out _ _ _) HN.out).1, below3 L9.out (by omega) _ _ _⟩
end Zon
end Go.Proofs.Ytfcehlipbdngbaa
