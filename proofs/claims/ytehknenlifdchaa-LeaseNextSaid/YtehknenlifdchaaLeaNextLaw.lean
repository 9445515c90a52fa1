/-
  THE STATEMENT LeaseNext: nothing is over ahead of the time that is told next, and something is at that time. For every input. (Written by gen_lealaws.py.)
-/
import Derived.Test.YtehknenlifdchaaLeaLive
import Derived.Test.YtehknenlifdchaaLeaFacts
import Derived.Test.YtehknenlifdchaaLeaBody
import Derived.BigQuiet
namespace Go.Proofs.Ytehknenlifdchaa
open Go.ChangeShapes Go.WideShapes Go.ChangeAt Go.RowKit Mem
namespace Lea

set_option maxRecDepth 100000 in
set_option maxHeartbeats 25600000 in
theorem leaseNext_walk {last now : Int} {A : Option Addr} {n c : Nat} {l : List Lv} {w : World} (htl : ∀ x ∈ l, x.til ≤ 9223372036854775807) (h : RowL w A n c l) :
    Calls Try.prog 7 #[tv last now A n c] w fun e w' => e = .returned (.bool true) ∧ Below w.heap.size w w' := by
  have HR := Lib.hid h
  have hbig := h.big
  have hlen := Lib.hid h.len
  have HF := fun w => Lib.hid (few_any (last := last) (now := now) (A := A) (n := n) (c := c) (B := none) (m := 0) (d := 0) w hbig (by omega))
  have HC := fun w (h : RowL w A n c l) (hn : n ≤ 1000000) => Lib.hid (refCheck_any (last := last) (now := now) h hn)
  have L1 : Hid (Below w.heap.size w (w.alloc (.cells #[.int .i64 last, .int .i64 now, .slice A n c] 24))) := (Below.refl w.heap.size w).alloc (Nat.le_refl _) _
  have B1 : Hid (TBox (w.alloc (.cells #[.int .i64 last, .int .i64 now, .slice A n c] 24)) w.heap.size last now A n c) := Cells.new w _ _
  clear h
  go_enter Try.func7, Try.ntmps7
  go_upto_region 1 with fail
  generalize w.alloc (.cells #[.int .i64 last, .int .i64 now, .slice A n c] 24) = w1 at *
  go_wp2_with fail
  refine (live_any w1).mono ?_
  rintro e w2 ⟨rfl, hb⟩
  have L2 := Lib.hid (L1.out.trans (hb.mono L1.out.size))
  have B2 := Lib.hid (Cells.below B1.out hb)
  clear hb L1 B1
  obtain ⟨m0, m1, m2⟩ := TBox.cells B2.out
  rcases hf : fewB n 0 last now
  · have hF := HF w2
    rw [hf] at hF
    go_wp2_with fail
    refine hF.out.mono ?_
    rintro e w3 ⟨rfl, hb⟩
    have L3 := Lib.hid (L2.out.trans (hb.mono L2.out.size))
    clear hb
    go_wp2_with fail
    go_ret
    exact ⟨rfl, L3.out⟩
  have hF := HF w2
  rw [hf] at hF
  obtain ⟨hbd, hn, hm, hla, hno⟩ := few_bd hlen.out hf
  have HBD := Lib.hid hbd
  clear hbd hf hla hno
  go_wp2_with fail
  refine hF.out.mono ?_
  rintro e w3 ⟨rfl, hb⟩
  have L3 := Lib.hid (L2.out.trans (hb.mono L2.out.size))
  have B3 := Lib.hid (Cells.below B2.out hb)
  clear hb L2 B2 m0 m1 m2 HF hF 
  obtain ⟨m0, m1, m2⟩ := TBox.cells B3.out

  have hC := HC w3 (HR.out.below L3.out) (by omega)
  rcases hok : okT ⟨last, now, l⟩
  · rw [hok] at hC
    unfold errOf at hC
    simp only [cond_false] at hC
    clear hok
    go_wp2_with fail
    refine hC.out.mono ?_
    rintro e w4 ⟨rfl, hb⟩
    have L4 := Lib.hid (L3.out.trans (hb.mono L3.out.size))
    clear hb
    go_wp2_with fail
    go_ret
    exact ⟨rfl, L4.out⟩
  rw [hok] at hC
  have HOK := Lib.hid hok
  unfold errOf at hC
  simp only [cond_true] at hC
  clear hok
  go_wp2_with fail
  refine hC.out.mono ?_
  rintro e w4 ⟨rfl, hb⟩
  have L4 := Lib.hid (L3.out.trans (hb.mono L3.out.size))
  have B4 := Lib.hid (Cells.below B3.out hb)
  clear hb L3 B3 m0 m1 m2 HC hC 
  obtain ⟨m0, m1, m2⟩ := TBox.cells B4.out

  obtain rfl : n = l.length := hlen.out.symm
  have hcap := HR.out.cap
  have HN := fun w (h : RowL w A l.length c l) => Lib.hid (next_any (last := last) (now := now) (keys := []) h (by omega) (Row.nil ci w) (by omega))
  have hnx : nextP ⟨last, now, l⟩ [] = leastU l := by rw [next_all, HOK.out]; rfl
  rw [hnx] at HN
  clear hnx
  rcases Nat.eq_zero_or_pos l.length with h0 | h0
  · have hl0 : l = [] := List.eq_nil_of_length_eq_zero h0
    subst hl0
    have hz : leastU [] = 0 := rfl
    rw [hz] at HN
    simp only [List.length_nil] at *
    go_wp2_with fail
    refine (HN w4 (HR.out.below L4.out)).out.mono ?_
    rintro e w5 ⟨rfl, hb⟩
    have L5 := Lib.hid (L4.out.trans (hb.mono L4.out.size))
    have B5 := Lib.hid (Cells.below B4.out hb)
    clear hb m0 m1 m2
    obtain ⟨m0, m1, m2⟩ := TBox.cells B5.out
    go_wp2_with fail
    go_ret
    exact ⟨rfl, L5.out⟩
  have hne : l ≠ [] := fun e => by rw [e] at h0; simp at h0
  obtain ⟨hlt, ht1⟩ := next_tick1 HOK.out hne
  obtain ⟨l1, l2, ht2, hl1, hl12, htil⟩ := next_tick2 HOK.out hne
  simp only at hlt ht1 ht2 hl12 htil
  have hmx : leastU l ≤ 9223372036854775807 := by
    obtain ⟨x, hx, e⟩ := leastU_mem hne
    rw [e]; exact htl x hx
  have hnow : 0 ≤ now := (okT_iff.1 HOK.out).2.1
  have HO : ∀ (k : Nat) w, RowL w A l.length c l → Hid (Calls Try.prog 19 #[tv last now A l.length c, .int .i64 (k : Int)] w fun e w' => ∃ B d q, e = .returned (.slice B q d) ∧ upTo l ((k : Int) + 1) = upTo l (k : Int) + q ∧ Below w.heap.size w w') := by
    intro k w h
    refine (of_any (last := last) (now := now) (k : Int) h (by omega)).mono ?_
    rintro e w' ⟨B, d, rfl, -, hb⟩
    refine ⟨B, d, _, rfl, ?_, hb⟩
    unfold ofP
    rw [HOK.out]
    exact upTo_next l _
  have HT1 : ∀ w, RowL w A l.length c l → Hid (Calls Try.prog 26 #[tv last now A l.length c, .int .i64 (leastU l - 1)] w fun e w' => ∃ A1 c1 B1 d1, e = .returned (.tuple #[tv last (leastU l - 1) A1 l.length c1, .slice B1 0 d1, .int .i64 0]) ∧ Below w.heap.size w w') := by
    intro w h
    have h9 := tick_any (last := last) (now := now) (leastU l - 1) h (by omega)
    rw [ht1] at h9
    refine h9.mono ?_
    rintro e w' ⟨A1, c1, B1, d1, rfl, -, -, hb⟩
    exact ⟨A1, c1, B1, d1, rfl, hb⟩
  have HT2 : ∀ w, RowL w A l.length c l → Hid (Calls Try.prog 26 #[tv last now A l.length c, .int .i64 (leastU l)] w fun e w' => ∃ A2 c2 B2 d2, e = .returned (.tuple #[tv last (leastU l) A2 l2.length c2, .slice B2 l1.length d2, .int .i64 0]) ∧ RowL w' B2 l1.length d2 l1 ∧ Below w.heap.size w w') := by
    intro w h
    have h9 := tick_any (last := last) (now := now) (leastU l) h (by omega)
    rw [ht2] at h9
    refine h9.mono ?_
    rintro e w' ⟨A2, c2, B2, d2, rfl, -, h1, hb⟩
    exact ⟨A2, c2, B2, d2, rfl, h1, hb⟩
  have hup0 : upTo l 0 = 0 := upTo_zero (fun x hx => (mayB_iff.1 (okT_may HOK.out hx)).2.1.1)
  have hup8 : upTo l 8 = l.length := upTo_end (fun x hx => (mayB_iff.1 (okT_may HOK.out hx)).2.1.2)
  have hupl : ∀ k, upTo l k ≤ l.length := fun k => List.length_filter_le _ _
  have HT0 := Lib.hid htil
  have HL12 := Lib.hid hl12
  have HU0 := Lib.hid hup0
  have HU8 := Lib.hid hup8
  have HUL := Lib.hid hupl
  have hz1 : ((l.length : Int) == 0) = false := by simpa using hne
  have hz2 : ((l1.length : Int) == 0) = false := by simpa using hl1
  have hw1 : IntKind.i64.wrap (leastU l - 1) = leastU l - 1 := by rw [IntKind.wrap_i64]; omega
  have hw2 : IntKind.i64.wrap ((l2.length : Int) + (l1.length : Int)) = (l.length : Int) := by rw [IntKind.wrap_i64]; omega
  have hle : decide (leastU l ≤ now) = false := decide_eq_false (by omega)
  have hl1n : l1.length ≤ 100 := by omega
  clear ht1 ht2 hl1 htil hl12 hmx hup0 hup8 hupl hne hlt htl
  go_wp2_with fail
  refine (HN w4 (HR.out.below L4.out)).out.mono ?_
  rintro e w5 ⟨rfl, hb⟩
  have L5 := Lib.hid (L4.out.trans (hb.mono L4.out.size))
  have B5 := Lib.hid (Cells.below B4.out hb)
  clear hb m0 m1 m2 L4 B4 HN
  obtain ⟨m0, m1, m2⟩ := TBox.cells B5.out
  go_wp2_with fail
  refine (HT1 w5 (HR.out.below L5.out)).out.mono ?_
  rintro e w6 ⟨A1, c1, B1, d1, rfl, hb⟩
  have L6 : Hid (Below w.heap.size w (w6.alloc (.cells #[.int .i64 last, .int .i64 (leastU l - 1), .slice A1 l.length c1] 24))) := (L5.out.trans (hb.mono L5.out.size)).alloc (by have := hb.size; have := L5.out.size; omega) _
  have B6 : Hid (TBox (w6.alloc (.cells #[.int .i64 last, .int .i64 (leastU l - 1), .slice A1 l.length c1] 24)) w.heap.size last now A l.length c) := Cells.alloc (Cells.below B5.out hb) _
  have U6 : Hid (TBox (w6.alloc (.cells #[.int .i64 last, .int .i64 (leastU l - 1), .slice A1 l.length c1] 24)) w6.heap.size last (leastU l - 1) A1 l.length c1) := Cells.new _ _ _
  clear hb L5 B5 m0 m1 m2 HT1
  go_upto_region 10 with fail
  generalize w6.alloc (.cells #[.int .i64 last, .int .i64 (leastU l - 1), .slice A1 l.length c1] 24) = w7 at *
  generalize w6.heap.size = gu at *
  obtain ⟨m0, m1, m2⟩ := TBox.cells B6.out
  go_wp2_with fail
  refine (HT2 w7 (HR.out.below L6.out)).out.mono ?_
  rintro e w8 ⟨A2, c2, B2, d2, rfl, hB, hb⟩
  have L8 : Hid (Below w.heap.size w (w8.alloc (.cells #[.int .i64 last, .int .i64 (leastU l), .slice A2 l2.length c2] 24))) := (L6.out.trans (hb.mono L6.out.size)).alloc (by have := hb.size; have := L6.out.size; omega) _
  have B8 : Hid (TBox (w8.alloc (.cells #[.int .i64 last, .int .i64 (leastU l), .slice A2 l2.length c2] 24)) w.heap.size last now A l.length c) := Cells.alloc (Cells.below B6.out hb) _
  have U8 : Hid (TBox (w8.alloc (.cells #[.int .i64 last, .int .i64 (leastU l), .slice A2 l2.length c2] 24)) gu last (leastU l - 1) A1 l.length c1) := Cells.alloc (Cells.below U6.out hb) _
  have V8 : Hid (TBox (w8.alloc (.cells #[.int .i64 last, .int .i64 (leastU l), .slice A2 l2.length c2] 24)) w8.heap.size last (leastU l) A2 l2.length c2) := Cells.new _ _ _
  have R8 : Hid (RowL (w8.alloc (.cells #[.int .i64 last, .int .i64 (leastU l), .slice A2 l2.length c2] 24)) B2 l1.length d2 l1) := RowS.alloc hB _
  clear hb hB L6 B6 U6 m0 m1 m2 HT2
  go_upto_region 11 with fail
  generalize w8.alloc (.cells #[.int .i64 last, .int .i64 (leastU l), .slice A2 l2.length c2] 24) = w9 at *
  generalize w8.heap.size = gv at *
  obtain ⟨m0, m1, m2⟩ := TBox.cells B8.out
  obtain ⟨u0, u1, u2⟩ := TBox.cells U8.out
  obtain ⟨v0, v1, v2⟩ := TBox.cells V8.out
  go_wp2_with fail
  clear m0 m1 m2 u0 u1 u2 v0 v1 v2 U8 V8 hw1 hw2 hle
  go_loopw [94] (fun i wr => ∃ (k : Nat), i = .int .i64 k ∧ k ≤ l1.length ∧ Hid (Below w9.heap.size w9 wr)) (fun i _ => l1.length - (intOf i).toNat)
  case atStart => exact ⟨0, rfl, by omega, Below.refl _ _⟩
  case round =>
    obtain ⟨k, rfl, hk, hI⟩ := hrel
    by_cases hlt : k < l1.length
    · obtain ⟨x, hx⟩ := RowS.get R8.out hlt
      obtain ⟨b, o, hA, c0, c1', c2', c3⟩ := RowS.lease_at (RowS.below R8.out hI.out) hx
      subst hA
      have hk0 : (0 : Int) ≤ (k : Int) := by omega
      have hkn : (k : Int) < (l1.length : Int) := by omega
      have HXT := Lib.hid (HT0.out x (List.mem_of_getElem? hx))
      have I2 : Hid (Below w9.heap.size w9 (wr.alloc (.cells #[.int .i64 x.key, .int .i64 x.host, .int .i64 x.epoch, .int .i64 x.til] 43))) := hI.out.alloc hI.out.size _
      have X2 : Hid (LBox (wr.alloc (.cells #[.int .i64 x.key, .int .i64 x.host, .int .i64 x.epoch, .int .i64 x.til] 43)) wr.heap.size x) := Cells.new _ _ _
      clear hx
      go_upto_region 16 with fail
      clear c0 c1' c2' c3
      generalize (wr.alloc (.cells #[.int .i64 x.key, .int .i64 x.host, .int .i64 x.epoch, .int .i64 x.til] 43)) = wx at *
      generalize wr.heap.size = gx at *
      obtain ⟨x0, x1, x2, x3⟩ := LBox.cells X2.out
      rw [HXT.out] at x3
      go_wp2_with fail
      go_roundw
      case rel => exact ⟨k + 1, by go_num, by omega, I2.out⟩
      case measure => simp [intOf]; omega
    · go_wp2_with fail
      go_loopw [13, 103] (fun s i wr => ∃ (k : Nat), i = .int .i64 k ∧ k ≤ 8 ∧ s = .int .i64 (upTo l (k : Int)) ∧ Hid (Below w9.heap.size w9 wr)) (fun _ i _ => 8 - (intOf i).toNat)
      case atStart => exact ⟨0, rfl, by omega, by rw [show ((0 : Nat) : Int) = 0 from rfl, HU0.out]; rfl, hI.out⟩
      case round =>
        obtain ⟨j, rfl, hj, rfl, hJ⟩ := hrel
        have BJ := Lib.hid (Cells.below B8.out hJ.out)
        obtain ⟨m0, m1, m2⟩ := TBox.cells BJ.out
        have LJ := Lib.hid (L8.out.trans (hJ.out.mono L8.out.size))
        by_cases hlt8 : j < 8
        · have hj8 : (j : Int) < 8 := by omega
          go_wp2_with fail
          refine (HO j _ (HR.out.below LJ.out)).out.mono ?_
          rintro e wq ⟨B, d, q, rfl, hq, hb⟩
          have J2 := Lib.hid (hJ.out.trans (hb.mono hJ.out.size))
          have hwq : IntKind.i64.wrap ((upTo l (j : Int) : Int) + (q : Int)) = (upTo l ((j : Int) + 1) : Int) := by
            have := HUL.out ((j : Int) + 1)
            rw [IntKind.wrap_i64]; omega
          clear hb hq m0 m1 m2
          go_wp2_with fail
          go_roundw
          case rel => exact ⟨j + 1, by go_num, by omega, by rw [show ((j + 1 : Nat) : Int) = (j : Int) + 1 by omega], J2.out⟩
          case measure => simp [intOf]; omega
        · obtain rfl : j = 8 := by omega
          have h8 : upTo l ((8 : Nat) : Int) = l.length := HU8.out
          rw [h8]
          go_wp2_with fail
          go_ret
          exact ⟨rfl, LJ.out⟩
end Lea
end Go.Proofs.Ytehknenlifdchaa
