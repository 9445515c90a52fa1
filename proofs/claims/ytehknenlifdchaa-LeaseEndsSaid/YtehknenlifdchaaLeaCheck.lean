/-
  WALKS: whether a table may be: lease's own test.
-/
import Derived.Test.YtehknenlifdchaaLeaMay
import Derived.Test.YtehknenlifdchaaLeaDiff
import Derived.Test.YtehknenlifdchaaLeaPart
namespace Go.Proofs.Ytehknenlifdchaa
open Go.RowKit Mem
namespace Lea

set_option maxRecDepth 100000 in
set_option maxHeartbeats 3200000 in
theorem check_any {last now : Int} {A : Option Addr} {n c : Nat} {l : List Lv} {w : World} (h : RowL w A n c l) (hn : n ≤ 1000000) :
    Calls Try.prog 16 #[tv last now A n c] w fun e w' => e = .returned (.int .i64 (errOf (okT ⟨last, now, l⟩))) ∧ Below w.heap.size w w' := by
  have HR := Lib.hid h
  have hbig := h.big
  have HKR := fun w (h : RowL w A n c l) => Lib.hid (rise_any h)
  have HED := fun w (h : RowL w A n c l) => Lib.hid (differ_any h hn)
  have L1 : Hid (Below w.heap.size w (w.alloc (.cells #[.int .i64 last, .int .i64 now, .slice A n c] 24))) := (Below.refl w.heap.size w).alloc (Nat.le_refl _) _
  have B1 : Hid (TBox (w.alloc (.cells #[.int .i64 last, .int .i64 now, .slice A n c] 24)) w.heap.size last now A n c) := Cells.new w _ _
  clear h
  unfold okT
  simp only
  rcases e1 : decide (last < 0)
  · rcases e2 : decide (now < 0)
    · rcases e3 : risesB l
      · rw [e3] at HKR
        go_enter Try.func16, Try.ntmps16
        go_upto_region 1 with fail
        generalize w.alloc (.cells #[.int .i64 last, .int .i64 now, .slice A n c] 24) = w1 at *
        obtain ⟨m0, m1, m2⟩ := TBox.cells B1.out
        go_wp2_with fail
        refine (HKR w1 (HR.out.below L1.out)).out.mono ?_
        rintro e w2 ⟨rfl, hb⟩
        have L2 := Lib.hid (L1.out.trans (hb.mono L1.out.size))
        clear hb
        go_wp2_with fail
        go_ret
        exact ⟨rfl, L2.out⟩
      · rw [e3] at HKR
        rcases e4 : differB l
        · rw [e4] at HED
          go_enter Try.func16, Try.ntmps16
          go_upto_region 1 with fail
          generalize w.alloc (.cells #[.int .i64 last, .int .i64 now, .slice A n c] 24) = w1 at *
          obtain ⟨m0, m1, m2⟩ := TBox.cells B1.out
          go_wp2_with fail
          refine (HKR w1 (HR.out.below L1.out)).out.mono ?_
          rintro e w2 ⟨rfl, hb⟩
          have L2 := Lib.hid (L1.out.trans (hb.mono L1.out.size))
          have B2 := Lib.hid (Cells.below B1.out hb)
          clear hb m0 m1 m2 B1 L1 HKR
          obtain ⟨m0, m1, m2⟩ := TBox.cells B2.out
          go_wp2_with fail
          refine (HED w2 (HR.out.below L2.out)).out.mono ?_
          rintro e w3 ⟨rfl, hb⟩
          have L3 := Lib.hid (L2.out.trans (hb.mono L2.out.size))
          clear hb
          go_wp2_with fail
          go_ret
          exact ⟨rfl, L3.out⟩
        · rw [e4] at HED
          rcases e5 : l.all (mayB last now)
          · have HA : l.any (fun x => !mayB last now x) = true := by rw [List.any_eq_not_all_not, Bool.not_eq_true']; simpa using e5
            have HCF := fun w g (h : RowL w A n c l) (hg : TBox w g last now A n c) => Lib.hid (contains_any h 37 #[.pointer (some ⟨g, 0, none⟩)] (enters_of Try.func37 (by kernel_rfl) rfl) (fun x => !mayB last now x) (fun W x hW => check1_any last now A n c g x W (Cells.below hg hW)))
            rw [HA] at HCF
            clear HA e5
            go_enter Try.func16, Try.ntmps16
            go_upto_region 1 with fail
            generalize w.alloc (.cells #[.int .i64 last, .int .i64 now, .slice A n c] 24) = w1 at *
            obtain ⟨m0, m1, m2⟩ := TBox.cells B1.out
            go_wp2_with fail
            refine (HKR w1 (HR.out.below L1.out)).out.mono ?_
            rintro e w2 ⟨rfl, hb⟩
            have L2 := Lib.hid (L1.out.trans (hb.mono L1.out.size))
            have B2 := Lib.hid (Cells.below B1.out hb)
            clear hb m0 m1 m2 B1 L1 HKR
            obtain ⟨m0, m1, m2⟩ := TBox.cells B2.out
            go_wp2_with fail
            refine (HED w2 (HR.out.below L2.out)).out.mono ?_
            rintro e w3 ⟨rfl, hb⟩
            have L3 := Lib.hid (L2.out.trans (hb.mono L2.out.size))
            have B3 := Lib.hid (Cells.below B2.out hb)
            clear hb m0 m1 m2 B2 L2 HED
            obtain ⟨m0, m1, m2⟩ := TBox.cells B3.out
            go_wp2_with fail
            refine (HCF w3 w.heap.size (HR.out.below L3.out) B3.out).out.mono ?_
            rintro e w4 ⟨rfl, hb⟩
            have L4 := Lib.hid (L3.out.trans (hb.mono L3.out.size))
            clear hb
            go_wp2_with fail
            go_ret
            exact ⟨rfl, L4.out⟩
          · have HA : l.any (fun x => !mayB last now x) = false := by rw [List.any_eq_not_all_not, Bool.not_eq_false']; simpa using e5
            have HCF := fun w g (h : RowL w A n c l) (hg : TBox w g last now A n c) => Lib.hid (contains_any h 37 #[.pointer (some ⟨g, 0, none⟩)] (enters_of Try.func37 (by kernel_rfl) rfl) (fun x => !mayB last now x) (fun W x hW => check1_any last now A n c g x W (Cells.below hg hW)))
            rw [HA] at HCF
            clear HA e5
            go_enter Try.func16, Try.ntmps16
            go_upto_region 1 with fail
            generalize w.alloc (.cells #[.int .i64 last, .int .i64 now, .slice A n c] 24) = w1 at *
            obtain ⟨m0, m1, m2⟩ := TBox.cells B1.out
            go_wp2_with fail
            refine (HKR w1 (HR.out.below L1.out)).out.mono ?_
            rintro e w2 ⟨rfl, hb⟩
            have L2 := Lib.hid (L1.out.trans (hb.mono L1.out.size))
            have B2 := Lib.hid (Cells.below B1.out hb)
            clear hb m0 m1 m2 B1 L1 HKR
            obtain ⟨m0, m1, m2⟩ := TBox.cells B2.out
            go_wp2_with fail
            refine (HED w2 (HR.out.below L2.out)).out.mono ?_
            rintro e w3 ⟨rfl, hb⟩
            have L3 := Lib.hid (L2.out.trans (hb.mono L2.out.size))
            have B3 := Lib.hid (Cells.below B2.out hb)
            clear hb m0 m1 m2 B2 L2 HED
            obtain ⟨m0, m1, m2⟩ := TBox.cells B3.out
            go_wp2_with fail
            refine (HCF w3 w.heap.size (HR.out.below L3.out) B3.out).out.mono ?_
            rintro e w4 ⟨rfl, hb⟩
            have L4 := Lib.hid (L3.out.trans (hb.mono L3.out.size))
            clear hb
            go_wp2_with fail
            go_ret
            exact ⟨rfl, L4.out⟩
    · go_enter Try.func16, Try.ntmps16
      go_upto_region 1 with fail
      generalize w.alloc (.cells #[.int .i64 last, .int .i64 now, .slice A n c] 24) = w1 at *
      obtain ⟨m0, m1, m2⟩ := TBox.cells B1.out
      go_wp2_with fail
      go_ret
      exact ⟨rfl, L1.out⟩
  · go_enter Try.func16, Try.ntmps16
    go_upto_region 1 with fail
    generalize w.alloc (.cells #[.int .i64 last, .int .i64 now, .slice A n c] 24) = w1 at *
    obtain ⟨m0, m1, m2⟩ := TBox.cells B1.out
    go_wp2_with fail
    go_ret
    exact ⟨rfl, L1.out⟩
end Lea
end Go.Proofs.Ytehknenlifdchaa
