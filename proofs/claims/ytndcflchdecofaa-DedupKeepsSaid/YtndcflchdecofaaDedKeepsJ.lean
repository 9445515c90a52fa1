/-
  SEVERAL TEXTS IN ONE FILE: DedFew, DedSame, DedKeeps, DedKeepsRow.
-/
import Derived.Test.YtndcflchdecofaaDedMem
import Derived.Test.YtndcflchdecofaaNetSame
import Derived.Test.YtndcflchdecofaaDedLaw
import Derived.Test.YtndcflchdecofaaDedArgs
import Derived.Test.YtndcflchdecofaaDedRef
/-
  A WALK: whether a list is small enough to be played.
-/
namespace Go.Proofs.Ytndcflchdecofaa
open Go.RowKit Mem Box
namespace Ded

/-- What few finds of one. -/
def fewS (x : Sx) : Prop := x.b ≤ 1152921504606846976 ∧ ∀ d ∈ x.l, d.id ≤ 1152921504606846976
set_option maxRecDepth 100000 in
set_option maxHeartbeats 12800000 in
theorem few_any {A : Option Addr} {n c : Nat} {l : List Sx} {w : World} (h : ListAt w A n c l) :
    Calls Try.prog 13 #[.slice A n c] w fun e w' => (∃ b, e = .returned (.bool b) ∧ (b = true → n ≤ 100 ∧ ∀ x ∈ l, fewS x)) ∧ Below w.heap.size w w' := by
  have H := Lib.hid h
  have HL := Lib.hid h.row.len
  have HBIG := h.row.big
  clear h
  go_enter Try.func13, Try.ntmps13
  go_wp2
  go_loopw [4, 6, 9] (fun _ _ i wr => ∃ k : Nat, i = .int .i64 k ∧ k ≤ n ∧ Hid (Below w.heap.size w wr) ∧ Hid (∀ j x, j < k → l[j]? = some x → fewS x)) (fun _ _ i _ => n - (intOf i).toNat)
  case atStart => exact ⟨0, rfl, by omega, Lib.hid (Below.refl _ _), Lib.hid (fun j x hj => absurd hj (Nat.not_lt_zero _))⟩
  case round =>
    obtain ⟨k, rfl, hk, L1, S1⟩ := hrel
    by_cases hlt : k < n
    · obtain ⟨x, hx, hxx⟩ := H.out.get hlt
      obtain ⟨b, o, hA, -, hc⟩ := H.out.cells hx
      obtain ⟨c0, c1, c2⟩ := hc _ L1.out
      have HX := Lib.hid hx
      have HXX := Lib.hid hxx
      have hk0 : (0 : Int) ≤ (k : Int) := by omega
      have hkn : (k : Int) < (n : Int) := by omega
      subst hA
      clear hx hxx hc
      go_upto_region 4 with fail
      have b2 : Below wr.heap.size wr (wr.alloc (.cells #[.int .i64 x.f, .int .i64 x.b, .slice x.A x.n x.c] 51)) := (Below.refl _ wr).alloc (Nat.le_refl _) _
      have L2 := Lib.hid (L1.out.trans (b2.mono L1.out.size))
      have X2 : Hid (SBox (wr.alloc (.cells #[.int .i64 x.f, .int .i64 x.b, .slice x.A x.n x.c] 51)) wr.heap.size x) := Cells.new _ _ _
      clear b2 c0 c1 c2 L1
      generalize wr.alloc (.cells #[.int .i64 x.f, .int .i64 x.b, .slice x.A x.n x.c] 51) = w2 at *
      generalize wr.heap.size = p2 at *
      obtain ⟨m0, m1, m2⟩ := SBox.cells X2.out
      rcases e1 : decide ((x.n : Int) > 20)
      · rcases e2 : decide (x.b > 1152921504606846976)
        · have HXB : Hid (x.b ≤ 1152921504606846976) := by show _ ≤ _; have := of_decide_eq_false e2; omega
          have hn20 : x.n ≤ 20 := by have := of_decide_eq_false e1; omega
          have HXL := Lib.hid (SaidAt.row HXX.out).len
          go_wp2_with fail
          clear m0 m1 m2
          go_loopw [6, 25] (fun _ i wr => ∃ j : Nat, i = .int .i64 j ∧ j ≤ x.n ∧ Hid (Below w.heap.size w wr) ∧ Hid (∀ i d, i < j → x.l[i]? = some d → d.id ≤ 1152921504606846976)) (fun _ i _ => x.n - (intOf i).toNat)
          case atStart => exact ⟨0, rfl, by omega, L2, Lib.hid (fun i d hi => absurd hi (Nat.not_lt_zero _))⟩
          case round =>
            obtain ⟨j, rfl, hj, L3, S3⟩ := hrel
            by_cases hlt2 : j < x.n
            · obtain ⟨y, hy, hyy⟩ := SaidAt.get HXX.out hlt2
              obtain ⟨b3, o3, hA3, -, hc3⟩ := SaidAt.cells HXX.out hy
              obtain ⟨d0, d1, d2, d3, d4, d5, d6⟩ := hc3 _ L3.out
              have HY := Lib.hid hy
              have hb1 := hyy.ints.big
              have hb2 := hyy.text.big
              have hj0 : (0 : Int) ≤ (j : Int) := by omega
              have hjn : (j : Int) < (x.n : Int) := by omega
              rw [hA3]
              clear hy hyy hc3
              go_upto_region 9 with fail
              have b4 : Below wr.heap.size wr (wr.alloc (.cells #[.int .i64 y.id, .int .i64 y.m.k, .int .i64 y.m.f, .int .i64 y.m.t, .int .i64 y.m.i, .slice y.m.A y.m.n y.m.c, .slice y.m.B y.m.m y.m.d] 56)) := (Below.refl _ wr).alloc (Nat.le_refl _) _
              have L4 := Lib.hid (L3.out.trans (b4.mono L3.out.size))
              have X4 : Hid (DBox (wr.alloc (.cells #[.int .i64 y.id, .int .i64 y.m.k, .int .i64 y.m.f, .int .i64 y.m.t, .int .i64 y.m.i, .slice y.m.A y.m.n y.m.c, .slice y.m.B y.m.m y.m.d] 56)) wr.heap.size y) := Cells.new _ _ _
              clear b4 d0 d1 d2 d3 d4 d5 d6 L3
              generalize wr.alloc (.cells #[.int .i64 y.id, .int .i64 y.m.k, .int .i64 y.m.f, .int .i64 y.m.t, .int .i64 y.m.i, .slice y.m.A y.m.n y.m.c, .slice y.m.B y.m.m y.m.d] 56) = w4 at *
              generalize wr.heap.size = p4 at *
              obtain ⟨q0, q1, q2, q3, q4, q5, q6⟩ := DBox.cells X4.out
              have hw1 : IntKind.i64.wrap ((y.m.n : Int) + (y.m.m : Int)) = (y.m.n : Int) + (y.m.m : Int) := by rw [IntKind.wrap_i64]; omega
              rcases e3 : decide (y.id > 1152921504606846976)
              · rcases e4 : decide ((y.m.n : Int) + (y.m.m : Int) > 1000)
                · have HYI : Hid (y.id ≤ 1152921504606846976) := by show _ ≤ _; have := of_decide_eq_false e3; omega
                  go_wp2_with fail
                  go_roundw
                  case rel =>
                    refine ⟨j + 1, by go_num, by omega, L4, Lib.hid (fun i d hi hd => ?_)⟩
                    by_cases h1 : i = j
                    · subst h1
                      have := HY.out.symm.trans hd
                      injection this with this
                      subst this
                      exact HYI.out
                    · exact S3.out i d (by omega) hd
                  case measure => simp [intOf]; omega
                · go_wp2_with fail
                  go_ret
                  exact ⟨⟨false, rfl, by simp⟩, L4.out⟩
              · go_wp2_with fail
                go_ret
                exact ⟨⟨false, rfl, by simp⟩, L4.out⟩
            · have HS : Hid (fewS x) := ⟨HXB.out, fun d hd => by
                obtain ⟨i, hi⟩ := List.mem_iff_getElem?.1 hd
                exact S3.out i d (by have := (List.getElem?_eq_some_iff.1 hi).1; have := HXL.out; omega) hi⟩
              go_wp2_with fail
              go_roundw
              case rel =>
                refine ⟨k + 1, by go_num, by omega, L3, Lib.hid (fun i y hi hy => ?_)⟩
                by_cases h1 : i = k
                · subst h1
                  have := HX.out.symm.trans hy
                  injection this with this
                  subst this
                  exact HS.out
                · exact S1.out i y (by omega) hy
              case measure => simp [intOf]; omega
        · go_wp2_with fail
          go_ret
          exact ⟨⟨false, rfl, by simp⟩, L2.out⟩
      · go_wp2_with fail
        go_ret
        exact ⟨⟨false, rfl, by simp⟩, L2.out⟩
    · have HS : Hid (∀ x ∈ l, fewS x) := fun x hx => by
        obtain ⟨i, hi⟩ := List.mem_iff_getElem?.1 hx
        exact S1.out i x (by have := (List.getElem?_eq_some_iff.1 hi).1; have := HL.out; omega) hi
      go_wp2_with fail
      go_ret
      exact ⟨⟨decide ((n : Int) ≤ 100), rfl, fun h => ⟨by have := of_decide_eq_true h; omega, HS.out⟩⟩, L1.out⟩
end Ded
end Go.Proofs.Ytndcflchdecofaa
/-
  WALKS: whether all is the same (dedup.Same).
-/
namespace Go.Proofs.Ytndcflchdecofaa
open Go.RowKit Mem Box
namespace Ded
open Net (Mp Mx MAt mxv)
set_option maxRecDepth 100000 in
set_option maxHeartbeats 1600000 in
theorem equalI_any {A B : Option Addr} {n c m d : Nat} {l l' : List Int} {w : World} (h1 : Row ci w A n c l) (h2 : Row ci w B m d l') :
    Calls Try.prog 54 #[.slice A n c, .slice B m d] w fun e w' => e = .returned (.bool (decide (l = l'))) ∧ Below w.heap.size w w' := by
  have H1 := Lib.hid h1
  have H2 := Lib.hid h2
  have hb := h1.big
  have L1 := Lib.hid h1.len
  have L2 := Lib.hid h2.len
  clear h1 h2
  by_cases hnm : n = m
  · subst hnm
    go_enter Try.func54, Try.ntmps54
    go_wp2
    go_loopw [5, 13] (fun _ i wr => ∃ k : Nat, i = .int .i64 k ∧ k ≤ n ∧ Hid (Below w.heap.size w wr ∧ l.take k = l'.take k)) (fun _ i _ => n - (intOf i).toNat)
    case atStart => exact ⟨0, rfl, by omega, Below.refl _ _, rfl⟩
    case round =>
      obtain ⟨k, rfl, hk, hB⟩ := hrel
      by_cases hlt : k < n
      · obtain ⟨z, hz⟩ := H1.out.get hlt
        obtain ⟨y, hy⟩ := H2.out.get hlt
        obtain ⟨b1, o1, rfl, hc1⟩ := (H1.out.below hB.out.1).cell hz
        obtain ⟨b2, o2, rfl, hc2⟩ := (H2.out.below hB.out.1).cell hy
        have hc1' : wr.cell? ⟨b1, o1 + k, none⟩ = some (.int .i64 z) := hc1
        have hc2' : wr.cell? ⟨b2, o2 + k, none⟩ = some (.int .i64 y) := hc2
        have HZ := Lib.hid hz
        have HY := Lib.hid hy
        have hk0 : (0 : Int) ≤ (k : Int) := by omega
        have hk1 : (k : Int) < (n : Int) := by omega
        clear hc1 hc2 hz hy
        rcases e : (z != y)
        · have HE : Hid (z = y) := by show z = y; simpa using e
          go_wp2
          go_quiet (fail)
          go_wp2
          go_roundw
          case rel => exact ⟨k + 1, by go_num, by omega, hB.out.1.trans ((Net.below_drewq _ _).mono hB.out.1.size), by rw [Net.take_next HZ.out HY.out hB.out.2]; exact HE.out⟩
          case measure => simp [intOf]; omega
        · have HE : Hid (¬ z = y) := by show ¬ z = y; simpa using e
          go_wp2
          go_quiet (fail)
          go_wp2
          go_ret
          exact ⟨by rw [decide_eq_false (Net.ne_at HZ.out HY.out HE.out)]; rfl, hB.out.1.trans ((Net.below_drewq _ _).mono hB.out.1.size)⟩
      · have HF : Hid (l = l') := by
          have h3 := hB.out.2
          rw [List.take_of_length_le (by have := L1.out; omega), List.take_of_length_le (by have := L2.out; omega)] at h3
          exact h3
        go_wp2
        go_ret
        exact ⟨by rw [decide_eq_true HF.out]; rfl, hB.out.1⟩
  · have hne : ((n : Int) != (m : Int)) = true := by simp only [bne_iff_ne, ne_eq]; omega
    have HF : Hid (¬ l = l') := fun e => hnm (by rw [← L1.out, ← L2.out, e])
    go_enter Try.func54, Try.ntmps54
    go_wp2
    go_ret
    exact ⟨by rw [decide_eq_false HF.out]; rfl, Below.refl _ _⟩

set_option maxRecDepth 100000 in
/-- bytes.Equal, of two rows. -/
theorem equalB_any {A B : Option Addr} {n c m d : Nat} {l k : List (BitVec 8)} {w : World} (h1 : Row cb w A n c l) (h2 : Row cb w B m d k) :
    Calls Try.prog 55 #[.slice A n c, .slice B m d] w fun e w' => e = .returned (.bool (decide (l = k))) ∧ w = w' := by
  have s1 := run_str h1
  have s2 := run_str h2
  have hb := Lib.hid (str_beq l k)
  clear h1 h2
  generalize str l = x at *
  generalize str k = y at *
  go_enter Try.func55, Try.ntmps55
  go_wp2_with fail
  go_ret
  exact ⟨ret_bool hb.out, rfl⟩

set_option maxRecDepth 100000 in
set_option maxHeartbeats 12800000 in
theorem sameM_any {x y : Mx} {w : World} (hx : MAt w x) (hy : MAt w y) : Calls Try.prog 51 #[mxv x, mxv y] w fun e w' => e = .returned (.bool (decide (x.p = y.p))) ∧ Below w.heap.size w w' := by
  have HI := Lib.hid (fun W (hW : Below w.heap.size w W) => equalI_any (hx.below hW).ints (hy.below hW).ints)
  have HT := Lib.hid (fun W (hW : Below w.heap.size w W) => equalB_any (hx.below hW).text (hy.below hW).text)
  have L1 : Hid (Below w.heap.size w ((w.alloc (.cells #[.int .i64 x.k, .int .i64 x.f, .int .i64 x.t, .int .i64 x.i, .slice x.A x.n x.c, .slice x.B x.m x.d] 33)).alloc (.cells #[.int .i64 y.k, .int .i64 y.f, .int .i64 y.t, .int .i64 y.i, .slice y.A y.n y.c, .slice y.B y.m y.d] 33))) := ((Below.refl _ w).alloc (Nat.le_refl _) _).alloc (by simp) _
  have X1 : Hid (Net.MBox ((w.alloc (.cells #[.int .i64 x.k, .int .i64 x.f, .int .i64 x.t, .int .i64 x.i, .slice x.A x.n x.c, .slice x.B x.m x.d] 33)).alloc (.cells #[.int .i64 y.k, .int .i64 y.f, .int .i64 y.t, .int .i64 y.i, .slice y.A y.n y.c, .slice y.B y.m y.d] 33)) w.heap.size x) := Cells.alloc (Cells.new _ _ _) _
  have Y1 : Hid (Net.MBox ((w.alloc (.cells #[.int .i64 x.k, .int .i64 x.f, .int .i64 x.t, .int .i64 x.i, .slice x.A x.n x.c, .slice x.B x.m x.d] 33)).alloc (.cells #[.int .i64 y.k, .int .i64 y.f, .int .i64 y.t, .int .i64 y.i, .slice y.A y.n y.c, .slice y.B y.m y.d] 33)) (w.heap.size + 1) y) := by
    have := Cells.new (w.alloc (.cells #[.int .i64 x.k, .int .i64 x.f, .int .i64 x.t, .int .i64 x.i, .slice x.A x.n x.c, .slice x.B x.m x.d] 33)) #[.int .i64 y.k, .int .i64 y.f, .int .i64 y.t, .int .i64 y.i, .slice y.A y.n y.c, .slice y.B y.m y.d] 33
    rw [World.size_alloc] at this
    exact this
  unfold mxv
  clear hx hy
  rcases e0 : (x.k == y.k)
  · skip
    have HF : Hid (decide (x.p = y.p) = false) := decide_eq_false fun e => by have := congrArg Mp.k e; simp [Mx.p] at this e0; exact e0 this
    go_enter Try.func51, Try.ntmps51
    go_upto_region 1 with fail
    generalize (w.alloc (.cells #[.int .i64 x.k, .int .i64 x.f, .int .i64 x.t, .int .i64 x.i, .slice x.A x.n x.c, .slice x.B x.m x.d] 33)).alloc (.cells #[.int .i64 y.k, .int .i64 y.f, .int .i64 y.t, .int .i64 y.i, .slice y.A y.n y.c, .slice y.B y.m y.d] 33) = w1 at *
    obtain ⟨n0, n1, n2, n3, n4, n5⟩ := Net.MBox.cells X1.out
    obtain ⟨m0, m1, m2, m3, m4, m5⟩ := Net.MBox.cells Y1.out
    go_wp2_with fail
    go_ret
    exact ⟨by rw [HF.out]; rfl, L1.out⟩
  · skip
    rcases e1 : (x.f == y.f)
    · skip
      have HF : Hid (decide (x.p = y.p) = false) := decide_eq_false fun e => by have := congrArg Mp.f e; simp [Mx.p] at this e1; exact e1 this
      go_enter Try.func51, Try.ntmps51
      go_upto_region 1 with fail
      generalize (w.alloc (.cells #[.int .i64 x.k, .int .i64 x.f, .int .i64 x.t, .int .i64 x.i, .slice x.A x.n x.c, .slice x.B x.m x.d] 33)).alloc (.cells #[.int .i64 y.k, .int .i64 y.f, .int .i64 y.t, .int .i64 y.i, .slice y.A y.n y.c, .slice y.B y.m y.d] 33) = w1 at *
      obtain ⟨n0, n1, n2, n3, n4, n5⟩ := Net.MBox.cells X1.out
      obtain ⟨m0, m1, m2, m3, m4, m5⟩ := Net.MBox.cells Y1.out
      go_wp2_with fail
      go_ret
      exact ⟨by rw [HF.out]; rfl, L1.out⟩
    · skip
      rcases e2 : (x.t == y.t)
      · skip
        have HF : Hid (decide (x.p = y.p) = false) := decide_eq_false fun e => by have := congrArg Mp.t e; simp [Mx.p] at this e2; exact e2 this
        go_enter Try.func51, Try.ntmps51
        go_upto_region 1 with fail
        generalize (w.alloc (.cells #[.int .i64 x.k, .int .i64 x.f, .int .i64 x.t, .int .i64 x.i, .slice x.A x.n x.c, .slice x.B x.m x.d] 33)).alloc (.cells #[.int .i64 y.k, .int .i64 y.f, .int .i64 y.t, .int .i64 y.i, .slice y.A y.n y.c, .slice y.B y.m y.d] 33) = w1 at *
        obtain ⟨n0, n1, n2, n3, n4, n5⟩ := Net.MBox.cells X1.out
        obtain ⟨m0, m1, m2, m3, m4, m5⟩ := Net.MBox.cells Y1.out
        go_wp2_with fail
        go_ret
        exact ⟨by rw [HF.out]; rfl, L1.out⟩
      · skip
        rcases e3 : (x.i == y.i)
        · skip
          have HF : Hid (decide (x.p = y.p) = false) := decide_eq_false fun e => by have := congrArg Mp.i e; simp [Mx.p] at this e3; exact e3 this
          go_enter Try.func51, Try.ntmps51
          go_upto_region 1 with fail
          generalize (w.alloc (.cells #[.int .i64 x.k, .int .i64 x.f, .int .i64 x.t, .int .i64 x.i, .slice x.A x.n x.c, .slice x.B x.m x.d] 33)).alloc (.cells #[.int .i64 y.k, .int .i64 y.f, .int .i64 y.t, .int .i64 y.i, .slice y.A y.n y.c, .slice y.B y.m y.d] 33) = w1 at *
          obtain ⟨n0, n1, n2, n3, n4, n5⟩ := Net.MBox.cells X1.out
          obtain ⟨m0, m1, m2, m3, m4, m5⟩ := Net.MBox.cells Y1.out
          go_wp2_with fail
          go_ret
          exact ⟨by rw [HF.out]; rfl, L1.out⟩
        · skip
          rcases e4 : decide (x.a = y.a)
          · skip
            have HF : Hid (decide (x.p = y.p) = false) := decide_eq_false fun e => of_decide_eq_false e4 (congrArg Mp.a e)
            rw [e4] at HI
            go_enter Try.func51, Try.ntmps51
            go_upto_region 1 with fail
            generalize (w.alloc (.cells #[.int .i64 x.k, .int .i64 x.f, .int .i64 x.t, .int .i64 x.i, .slice x.A x.n x.c, .slice x.B x.m x.d] 33)).alloc (.cells #[.int .i64 y.k, .int .i64 y.f, .int .i64 y.t, .int .i64 y.i, .slice y.A y.n y.c, .slice y.B y.m y.d] 33) = w1 at *
            obtain ⟨n0, n1, n2, n3, n4, n5⟩ := Net.MBox.cells X1.out
            obtain ⟨m0, m1, m2, m3, m4, m5⟩ := Net.MBox.cells Y1.out
            go_wp2_with (go_at_call 54; refine (HI.out _ L1.out).mono ?_; rintro e w2 ⟨rfl, hb⟩; have L2 := Lib.hid (L1.out.trans (hb.mono L1.out.size)); have X2 := Lib.hid (Cells.below X1.out hb); have Y2 := Lib.hid (Cells.below Y1.out hb); clear hb n0 n1 n2 n3 n4 n5 m0 m1 m2 m3 m4 m5; obtain ⟨n0, n1, n2, n3, n4, n5⟩ := Net.MBox.cells X2.out; obtain ⟨m0, m1, m2, m3, m4, m5⟩ := Net.MBox.cells Y2.out)
            go_ret
            exact ⟨by rw [HF.out]; rfl, L2.out⟩
          · skip
            have HF : Hid (decide (x.p = y.p) = decide (x.x = y.x)) := by
              show _ = _
              refine decide_eq_decide.2 ⟨fun e => congrArg Mp.x e, fun e => ?_⟩
              have g0 := eq_of_beq e0
              have g1 := eq_of_beq e1
              have g2 := eq_of_beq e2
              have g3 := eq_of_beq e3
              have g4 := of_decide_eq_true e4
              unfold Mx.p
              rw [g0, g1, g2, g3, g4, e]
            rw [e4] at HI
            go_enter Try.func51, Try.ntmps51
            go_upto_region 1 with fail
            generalize (w.alloc (.cells #[.int .i64 x.k, .int .i64 x.f, .int .i64 x.t, .int .i64 x.i, .slice x.A x.n x.c, .slice x.B x.m x.d] 33)).alloc (.cells #[.int .i64 y.k, .int .i64 y.f, .int .i64 y.t, .int .i64 y.i, .slice y.A y.n y.c, .slice y.B y.m y.d] 33) = w1 at *
            obtain ⟨n0, n1, n2, n3, n4, n5⟩ := Net.MBox.cells X1.out
            obtain ⟨m0, m1, m2, m3, m4, m5⟩ := Net.MBox.cells Y1.out
            go_wp2_with (first | (go_at_call 54; refine (HI.out _ L1.out).mono ?_; rintro e w2 ⟨rfl, hb⟩; have L2 := Lib.hid (L1.out.trans (hb.mono L1.out.size)); have X2 := Lib.hid (Cells.below X1.out hb); have Y2 := Lib.hid (Cells.below Y1.out hb); clear hb n0 n1 n2 n3 n4 n5 m0 m1 m2 m3 m4 m5; obtain ⟨n0, n1, n2, n3, n4, n5⟩ := Net.MBox.cells X2.out; obtain ⟨m0, m1, m2, m3, m4, m5⟩ := Net.MBox.cells Y2.out) | (go_at_call 55; refine (HT.out _ L2.out).mono ?_; rintro e w3 ⟨rfl, rfl⟩))
            go_ret
            exact ⟨by rw [HF.out]; rfl, L2.out⟩

set_option maxRecDepth 100000 in
set_option maxHeartbeats 6400000 in
theorem sameD_any {x y : Dx} {w : World} (hx : MAt w x.m) (hy : MAt w y.m) : Calls Try.prog 46 #[dxv x, dxv y] w fun e w' => e = .returned (.bool (decide (x.p = y.p))) ∧ Below w.heap.size w w' := by
  have HM := Lib.hid (fun W (hW : Below w.heap.size w W) => sameM_any (hx.below hW) (hy.below hW))
  have L1 : Hid (Below w.heap.size w ((w.alloc (.cells #[.int .i64 x.id, .int .i64 x.m.k, .int .i64 x.m.f, .int .i64 x.m.t, .int .i64 x.m.i, .slice x.m.A x.m.n x.m.c, .slice x.m.B x.m.m x.m.d] 56)).alloc (.cells #[.int .i64 y.id, .int .i64 y.m.k, .int .i64 y.m.f, .int .i64 y.m.t, .int .i64 y.m.i, .slice y.m.A y.m.n y.m.c, .slice y.m.B y.m.m y.m.d] 56))) := ((Below.refl _ w).alloc (Nat.le_refl _) _).alloc (by simp) _
  have X1 : Hid (DBox ((w.alloc (.cells #[.int .i64 x.id, .int .i64 x.m.k, .int .i64 x.m.f, .int .i64 x.m.t, .int .i64 x.m.i, .slice x.m.A x.m.n x.m.c, .slice x.m.B x.m.m x.m.d] 56)).alloc (.cells #[.int .i64 y.id, .int .i64 y.m.k, .int .i64 y.m.f, .int .i64 y.m.t, .int .i64 y.m.i, .slice y.m.A y.m.n y.m.c, .slice y.m.B y.m.m y.m.d] 56)) w.heap.size x) := Cells.alloc (Cells.new _ _ _) _
  have Y1 : Hid (DBox ((w.alloc (.cells #[.int .i64 x.id, .int .i64 x.m.k, .int .i64 x.m.f, .int .i64 x.m.t, .int .i64 x.m.i, .slice x.m.A x.m.n x.m.c, .slice x.m.B x.m.m x.m.d] 56)).alloc (.cells #[.int .i64 y.id, .int .i64 y.m.k, .int .i64 y.m.f, .int .i64 y.m.t, .int .i64 y.m.i, .slice y.m.A y.m.n y.m.c, .slice y.m.B y.m.m y.m.d] 56)) (w.heap.size + 1) y) := by
    have := Cells.new (w.alloc (.cells #[.int .i64 x.id, .int .i64 x.m.k, .int .i64 x.m.f, .int .i64 x.m.t, .int .i64 x.m.i, .slice x.m.A x.m.n x.m.c, .slice x.m.B x.m.m x.m.d] 56)) #[.int .i64 y.id, .int .i64 y.m.k, .int .i64 y.m.f, .int .i64 y.m.t, .int .i64 y.m.i, .slice y.m.A y.m.n y.m.c, .slice y.m.B y.m.m y.m.d] 56
    rw [World.size_alloc] at this
    exact this
  unfold dxv
  unfold mxv at HM
  clear hx hy
  rcases e0 : (x.id == y.id)
  · have HF : Hid (decide (x.p = y.p) = false) := decide_eq_false fun e => by have := congrArg Dp.id e; simp [Dx.p] at this e0; exact e0 this
    go_enter Try.func46, Try.ntmps46
    go_upto_region 1 with fail
    generalize (w.alloc (.cells #[.int .i64 x.id, .int .i64 x.m.k, .int .i64 x.m.f, .int .i64 x.m.t, .int .i64 x.m.i, .slice x.m.A x.m.n x.m.c, .slice x.m.B x.m.m x.m.d] 56)).alloc (.cells #[.int .i64 y.id, .int .i64 y.m.k, .int .i64 y.m.f, .int .i64 y.m.t, .int .i64 y.m.i, .slice y.m.A y.m.n y.m.c, .slice y.m.B y.m.m y.m.d] 56) = w1 at *
    obtain ⟨n0, n1, n2, n3, n4, n5, n6⟩ := DBox.cells X1.out
    obtain ⟨m0, m1, m2, m3, m4, m5, m6⟩ := DBox.cells Y1.out
    go_wp2_with fail
    go_ret
    exact ⟨by rw [HF.out]; rfl, L1.out⟩
  · have HF : Hid (decide (x.p = y.p) = decide (x.m.p = y.m.p)) := by
      show _ = _
      refine decide_eq_decide.2 ⟨fun e => congrArg Dp.m e, fun e => ?_⟩
      unfold Dx.p
      rw [eq_of_beq e0, e]
    go_enter Try.func46, Try.ntmps46
    go_upto_region 1 with fail
    generalize (w.alloc (.cells #[.int .i64 x.id, .int .i64 x.m.k, .int .i64 x.m.f, .int .i64 x.m.t, .int .i64 x.m.i, .slice x.m.A x.m.n x.m.c, .slice x.m.B x.m.m x.m.d] 56)).alloc (.cells #[.int .i64 y.id, .int .i64 y.m.k, .int .i64 y.m.f, .int .i64 y.m.t, .int .i64 y.m.i, .slice y.m.A y.m.n y.m.c, .slice y.m.B y.m.m y.m.d] 56) = w1 at *
    obtain ⟨n0, n1, n2, n3, n4, n5, n6⟩ := DBox.cells X1.out
    obtain ⟨m0, m1, m2, m3, m4, m5, m6⟩ := DBox.cells Y1.out
    go_wp2_with (go_at_call 51; refine (HM.out _ L1.out).mono ?_; rintro e w2 ⟨rfl, hb⟩; have L2 := Lib.hid (L1.out.trans (hb.mono L1.out.size)); clear hb)
    go_ret
    exact ⟨by rw [HF.out]; rfl, L2.out⟩

set_option maxRecDepth 100000 in
set_option maxHeartbeats 12800000 in
theorem equalD_any {A B : Option Addr} {n c m d : Nat} {l l' : List Dx} {w : World} (h1 : SaidAt w A n c l) (h2 : SaidAt w B m d l') :
    Calls Try.prog 45 #[.slice A n c, .slice B m d, .func (.func 46) #[] #[]] w fun e w' => e = .returned (.bool (decide (l.map Dx.p = l'.map Dx.p))) ∧ Below w.heap.size w w' := by
  have H1 := Lib.hid h1
  have H2 := Lib.hid h2
  have hb := h1.row.big
  have LL1 := Lib.hid h1.row.len
  have LL2 := Lib.hid h2.row.len
  have eg : ∀ args w, (callFunc 46 args).run Try.prog w = .ok (.enter 46 args) w := enters_of Try.func46 (by kernel_rfl) rfl
  clear h1 h2
  by_cases hnm : n = m
  · subst hnm
    go_enter Try.func45, Try.ntmps45
    go_wp2
    go_loopw [7, 8, 9, 17] (fun _ _ _ i wr => ∃ k : Nat, i = .int .i64 k ∧ k ≤ n ∧ Hid (Below w.heap.size w wr) ∧ Hid ((l.map Dx.p).take k = (l'.map Dx.p).take k)) (fun _ _ _ i _ => n - (intOf i).toNat)
    case atStart => exact ⟨0, rfl, by omega, Lib.hid (Below.refl _ _), Lib.hid rfl⟩
    case round =>
      obtain ⟨k, rfl, hk, L0, HTK⟩ := hrel
      by_cases hlt : k < n
      · obtain ⟨x, hx, hxm⟩ := SaidAt.get H1.out hlt
        obtain ⟨y, hy, hym⟩ := SaidAt.get H2.out hlt
        obtain ⟨b1, o1, hA, -, hc1⟩ := SaidAt.cells H1.out hx
        obtain ⟨b2, o2, hB2, -, hc2⟩ := SaidAt.cells H2.out hy
        subst hA hB2
        have HSM := Lib.hid (fun W (hW : Below w.heap.size w W) => sameD_any (x := x) (y := y) (hxm.below hW) (hym.below hW))
        have HZ := Lib.hid (show (l.map Dx.p)[k]? = some x.p by rw [List.getElem?_map, hx]; rfl)
        have HY := Lib.hid (show (l'.map Dx.p)[k]? = some y.p by rw [List.getElem?_map, hy]; rfl)
        have HC2 := Lib.hid hc2
        obtain ⟨n0, n1, n2, n3, n4, n5, n6⟩ := hc1 _ L0.out
        have hk0 : (0 : Int) ≤ (k : Int) := by omega
        have hk1 : (k : Int) < (n : Int) := by omega
        unfold dxv at HSM
        clear hc1 hc2 hx hy hxm hym
        go_upto_region 6 with fail
        have b3 : Below wr.heap.size wr (wr.alloc (.cells #[.int .i64 x.id, .int .i64 x.m.k, .int .i64 x.m.f, .int .i64 x.m.t, .int .i64 x.m.i, .slice x.m.A x.m.n x.m.c, .slice x.m.B x.m.m x.m.d] 56)) := (Below.refl _ wr).alloc (Nat.le_refl _) _
        have L3 := Lib.hid (L0.out.trans (b3.mono L0.out.size))
        have X3 : Hid (DBox (wr.alloc (.cells #[.int .i64 x.id, .int .i64 x.m.k, .int .i64 x.m.f, .int .i64 x.m.t, .int .i64 x.m.i, .slice x.m.A x.m.n x.m.c, .slice x.m.B x.m.m x.m.d] 56)) wr.heap.size x) := Cells.new _ _ _
        clear b3 L0 n0 n1 n2 n3 n4 n5 n6
        generalize wr.alloc (.cells #[.int .i64 x.id, .int .i64 x.m.k, .int .i64 x.m.f, .int .i64 x.m.t, .int .i64 x.m.i, .slice x.m.A x.m.n x.m.c, .slice x.m.B x.m.m x.m.d] 56) = w3 at *
        generalize wr.heap.size = p3 at *
        obtain ⟨m0, m1, m2, m3, m4, m5, m6⟩ := HC2.out _ L3.out
        go_upto_region 7 with fail
        have b4 : Below w3.heap.size w3 (w3.alloc (.cells #[.int .i64 y.id, .int .i64 y.m.k, .int .i64 y.m.f, .int .i64 y.m.t, .int .i64 y.m.i, .slice y.m.A y.m.n y.m.c, .slice y.m.B y.m.m y.m.d] 56)) := (Below.refl _ w3).alloc (Nat.le_refl _) _
        have L4 := Lib.hid (L3.out.trans (b4.mono L3.out.size))
        have X4 := Lib.hid (Cells.below X3.out b4)
        have Y4 : Hid (DBox (w3.alloc (.cells #[.int .i64 y.id, .int .i64 y.m.k, .int .i64 y.m.f, .int .i64 y.m.t, .int .i64 y.m.i, .slice y.m.A y.m.n y.m.c, .slice y.m.B y.m.m y.m.d] 56)) w3.heap.size y) := Cells.new _ _ _
        clear b4 L3 X3 m0 m1 m2 m3 m4 m5 m6
        generalize w3.alloc (.cells #[.int .i64 y.id, .int .i64 y.m.k, .int .i64 y.m.f, .int .i64 y.m.t, .int .i64 y.m.i, .slice y.m.A y.m.n y.m.c, .slice y.m.B y.m.m y.m.d] 56) = w4 at *
        generalize w3.heap.size = p4 at *
        obtain ⟨n0, n1, n2, n3, n4, n5, n6⟩ := DBox.cells X4.out
        obtain ⟨m0, m1, m2, m3, m4, m5, m6⟩ := DBox.cells Y4.out
        rcases e : decide (x.p = y.p)
        · rw [e] at HSM
          have HE : Hid (¬ x.p = y.p) := of_decide_eq_false e
          go_wp2_with (go_at_fn 46; refine (HSM.out _ L4.out).mono ?_; rintro e w5 ⟨rfl, hb⟩; have L5 := Lib.hid (L4.out.trans (hb.mono L4.out.size)); clear hb)
          go_ret
          exact ⟨by rw [decide_eq_false (Net.ne_at HZ.out HY.out HE.out)]; rfl, L5.out⟩
        · rw [e] at HSM
          have HE := Lib.hid (of_decide_eq_true e)
          go_wp2_with (go_at_fn 46; refine (HSM.out _ L4.out).mono ?_; rintro e w5 ⟨rfl, hb⟩; have L5 := Lib.hid (L4.out.trans (hb.mono L4.out.size)); clear hb)
          go_roundw
          case rel => exact ⟨k + 1, by go_num, by omega, L5, Lib.hid (by rw [Net.take_next HZ.out HY.out HTK.out]; exact HE.out)⟩
          case measure => simp [intOf]; omega
      · have HF : Hid (l.map Dx.p = l'.map Dx.p) := by
          have h3 := HTK.out
          rw [List.take_of_length_le (by rw [List.length_map]; have := LL1.out; omega), List.take_of_length_le (by rw [List.length_map]; have := LL2.out; omega)] at h3
          exact h3
        go_wp2
        go_ret
        exact ⟨by rw [decide_eq_true HF.out]; rfl, L0.out⟩
  · have hne : ((n : Int) != (m : Int)) = true := by simp only [bne_iff_ne, ne_eq]; omega
    have HF : Hid (¬ l.map Dx.p = l'.map Dx.p) := fun e => hnm (by have h3 := congrArg List.length e; rw [List.length_map, List.length_map, LL1.out, LL2.out] at h3; exact h3)
    go_enter Try.func45, Try.ntmps45
    go_wp2
    go_ret
    exact ⟨by rw [decide_eq_false HF.out]; rfl, Below.refl _ _⟩

set_option maxRecDepth 100000 in
set_option maxHeartbeats 6400000 in
theorem sameS_any {x y : Sx} {w : World} (hx : SeenAt w x) (hy : SeenAt w y) : Calls Try.prog 31 #[sxv x, sxv y] w fun e w' => e = .returned (.bool (decide (x.p = y.p))) ∧ Below w.heap.size w w' := by
  have HM := Lib.hid (fun W (hW : Below w.heap.size w W) => equalD_any (SeenAt.below hx hW) (SeenAt.below hy hW))
  have L1 : Hid (Below w.heap.size w ((w.alloc (.cells #[.int .i64 x.f, .int .i64 x.b, .slice x.A x.n x.c] 51)).alloc (.cells #[.int .i64 y.f, .int .i64 y.b, .slice y.A y.n y.c] 51))) := ((Below.refl _ w).alloc (Nat.le_refl _) _).alloc (by simp) _
  have X1 : Hid (SBox ((w.alloc (.cells #[.int .i64 x.f, .int .i64 x.b, .slice x.A x.n x.c] 51)).alloc (.cells #[.int .i64 y.f, .int .i64 y.b, .slice y.A y.n y.c] 51)) w.heap.size x) := Cells.alloc (Cells.new _ _ _) _
  have Y1 : Hid (SBox ((w.alloc (.cells #[.int .i64 x.f, .int .i64 x.b, .slice x.A x.n x.c] 51)).alloc (.cells #[.int .i64 y.f, .int .i64 y.b, .slice y.A y.n y.c] 51)) (w.heap.size + 1) y) := by
    have := Cells.new (w.alloc (.cells #[.int .i64 x.f, .int .i64 x.b, .slice x.A x.n x.c] 51)) #[.int .i64 y.f, .int .i64 y.b, .slice y.A y.n y.c] 51
    rw [World.size_alloc] at this
    exact this
  unfold sxv
  clear hx hy
  rcases e0 : (x.f == y.f)
  · have HF : Hid (decide (x.p = y.p) = false) := decide_eq_false fun e => by have := congrArg Sp.f e; simp [Sx.p] at this e0; exact e0 this
    go_enter Try.func31, Try.ntmps31
    go_upto_region 1 with fail
    generalize (w.alloc (.cells #[.int .i64 x.f, .int .i64 x.b, .slice x.A x.n x.c] 51)).alloc (.cells #[.int .i64 y.f, .int .i64 y.b, .slice y.A y.n y.c] 51) = w1 at *
    obtain ⟨n0, n1, n2⟩ := SBox.cells X1.out
    obtain ⟨m0, m1, m2⟩ := SBox.cells Y1.out
    go_wp2_with fail
    go_ret
    exact ⟨by rw [HF.out]; rfl, L1.out⟩
  · rcases e1 : (x.b == y.b)
    · have HF : Hid (decide (x.p = y.p) = false) := decide_eq_false fun e => by have := congrArg Sp.b e; simp [Sx.p] at this e1; exact e1 this
      go_enter Try.func31, Try.ntmps31
      go_upto_region 1 with fail
      generalize (w.alloc (.cells #[.int .i64 x.f, .int .i64 x.b, .slice x.A x.n x.c] 51)).alloc (.cells #[.int .i64 y.f, .int .i64 y.b, .slice y.A y.n y.c] 51) = w1 at *
      obtain ⟨n0, n1, n2⟩ := SBox.cells X1.out
      obtain ⟨m0, m1, m2⟩ := SBox.cells Y1.out
      go_wp2_with fail
      go_ret
      exact ⟨by rw [HF.out]; rfl, L1.out⟩
    · have HF : Hid (decide (x.p = y.p) = decide (x.l.map Dx.p = y.l.map Dx.p)) := by
        show _ = _
        refine decide_eq_decide.2 ⟨fun e => congrArg Sp.l e, fun e => ?_⟩
        unfold Sx.p
        rw [eq_of_beq e0, eq_of_beq e1, e]
      go_enter Try.func31, Try.ntmps31
      go_upto_region 1 with fail
      generalize (w.alloc (.cells #[.int .i64 x.f, .int .i64 x.b, .slice x.A x.n x.c] 51)).alloc (.cells #[.int .i64 y.f, .int .i64 y.b, .slice y.A y.n y.c] 51) = w1 at *
      obtain ⟨n0, n1, n2⟩ := SBox.cells X1.out
      obtain ⟨m0, m1, m2⟩ := SBox.cells Y1.out
      go_wp2_with (go_at_call 45; refine (HM.out _ L1.out).mono ?_; rintro e w2 ⟨rfl, hb⟩; have L2 := Lib.hid (L1.out.trans (hb.mono L1.out.size)); clear hb)
      go_ret
      exact ⟨by rw [HF.out]; rfl, L2.out⟩

set_option maxRecDepth 100000 in
set_option maxHeartbeats 12800000 in
theorem equalS_any {A B : Option Addr} {n c m d : Nat} {l l' : List Sx} {w : World} (h1 : ListAt w A n c l) (h2 : ListAt w B m d l') :
    Calls Try.prog 30 #[.slice A n c, .slice B m d, .func (.func 31) #[] #[]] w fun e w' => e = .returned (.bool (decide (l.map Sx.p = l'.map Sx.p))) ∧ Below w.heap.size w w' := by
  have H1 := Lib.hid h1
  have H2 := Lib.hid h2
  have hb := h1.row.big
  have LL1 := Lib.hid h1.row.len
  have LL2 := Lib.hid h2.row.len
  have eg : ∀ args w, (callFunc 31 args).run Try.prog w = .ok (.enter 31 args) w := enters_of Try.func31 (by kernel_rfl) rfl
  clear h1 h2
  by_cases hnm : n = m
  · subst hnm
    go_enter Try.func30, Try.ntmps30
    go_wp2
    go_loopw [7, 8, 9, 17] (fun _ _ _ i wr => ∃ k : Nat, i = .int .i64 k ∧ k ≤ n ∧ Hid (Below w.heap.size w wr) ∧ Hid ((l.map Sx.p).take k = (l'.map Sx.p).take k)) (fun _ _ _ i _ => n - (intOf i).toNat)
    case atStart => exact ⟨0, rfl, by omega, Lib.hid (Below.refl _ _), Lib.hid rfl⟩
    case round =>
      obtain ⟨k, rfl, hk, L0, HTK⟩ := hrel
      by_cases hlt : k < n
      · obtain ⟨x, hx, hxm⟩ := ListAt.get H1.out hlt
        obtain ⟨y, hy, hym⟩ := ListAt.get H2.out hlt
        obtain ⟨b1, o1, hA, -, hc1⟩ := ListAt.cells H1.out hx
        obtain ⟨b2, o2, hB2, -, hc2⟩ := ListAt.cells H2.out hy
        subst hA hB2
        have HSM := Lib.hid (fun W (hW : Below w.heap.size w W) => sameS_any (x := x) (y := y) (hxm.below hW) (hym.below hW))
        have HZ := Lib.hid (show (l.map Sx.p)[k]? = some x.p by rw [List.getElem?_map, hx]; rfl)
        have HY := Lib.hid (show (l'.map Sx.p)[k]? = some y.p by rw [List.getElem?_map, hy]; rfl)
        have HC2 := Lib.hid hc2
        obtain ⟨n0, n1, n2⟩ := hc1 _ L0.out
        have hk0 : (0 : Int) ≤ (k : Int) := by omega
        have hk1 : (k : Int) < (n : Int) := by omega
        unfold sxv at HSM
        clear hc1 hc2 hx hy hxm hym
        go_upto_region 6 with fail
        have b3 : Below wr.heap.size wr (wr.alloc (.cells #[.int .i64 x.f, .int .i64 x.b, .slice x.A x.n x.c] 51)) := (Below.refl _ wr).alloc (Nat.le_refl _) _
        have L3 := Lib.hid (L0.out.trans (b3.mono L0.out.size))
        have X3 : Hid (SBox (wr.alloc (.cells #[.int .i64 x.f, .int .i64 x.b, .slice x.A x.n x.c] 51)) wr.heap.size x) := Cells.new _ _ _
        clear b3 L0 n0 n1 n2
        generalize wr.alloc (.cells #[.int .i64 x.f, .int .i64 x.b, .slice x.A x.n x.c] 51) = w3 at *
        generalize wr.heap.size = p3 at *
        obtain ⟨m0, m1, m2⟩ := HC2.out _ L3.out
        go_upto_region 7 with fail
        have b4 : Below w3.heap.size w3 (w3.alloc (.cells #[.int .i64 y.f, .int .i64 y.b, .slice y.A y.n y.c] 51)) := (Below.refl _ w3).alloc (Nat.le_refl _) _
        have L4 := Lib.hid (L3.out.trans (b4.mono L3.out.size))
        have X4 := Lib.hid (Cells.below X3.out b4)
        have Y4 : Hid (SBox (w3.alloc (.cells #[.int .i64 y.f, .int .i64 y.b, .slice y.A y.n y.c] 51)) w3.heap.size y) := Cells.new _ _ _
        clear b4 L3 X3 m0 m1 m2
        generalize w3.alloc (.cells #[.int .i64 y.f, .int .i64 y.b, .slice y.A y.n y.c] 51) = w4 at *
        generalize w3.heap.size = p4 at *
        obtain ⟨n0, n1, n2⟩ := SBox.cells X4.out
        obtain ⟨m0, m1, m2⟩ := SBox.cells Y4.out
        rcases e : decide (x.p = y.p)
        · rw [e] at HSM
          have HE : Hid (¬ x.p = y.p) := of_decide_eq_false e
          go_wp2_with (go_at_fn 31; refine (HSM.out _ L4.out).mono ?_; rintro e w5 ⟨rfl, hb⟩; have L5 := Lib.hid (L4.out.trans (hb.mono L4.out.size)); clear hb)
          go_ret
          exact ⟨by rw [decide_eq_false (Net.ne_at HZ.out HY.out HE.out)]; rfl, L5.out⟩
        · rw [e] at HSM
          have HE := Lib.hid (of_decide_eq_true e)
          go_wp2_with (go_at_fn 31; refine (HSM.out _ L4.out).mono ?_; rintro e w5 ⟨rfl, hb⟩; have L5 := Lib.hid (L4.out.trans (hb.mono L4.out.size)); clear hb)
          go_roundw
          case rel => exact ⟨k + 1, by go_num, by omega, L5, Lib.hid (by rw [Net.take_next HZ.out HY.out HTK.out]; exact HE.out)⟩
          case measure => simp [intOf]; omega
      · have HF : Hid (l.map Sx.p = l'.map Sx.p) := by
          have h3 := HTK.out
          rw [List.take_of_length_le (by rw [List.length_map]; have := LL1.out; omega), List.take_of_length_le (by rw [List.length_map]; have := LL2.out; omega)] at h3
          exact h3
        go_wp2
        go_ret
        exact ⟨by rw [decide_eq_true HF.out]; rfl, L0.out⟩
  · have hne : ((n : Int) != (m : Int)) = true := by simp only [bne_iff_ne, ne_eq]; omega
    have HF : Hid (¬ l.map Sx.p = l'.map Sx.p) := fun e => hnm (by have h3 := congrArg List.length e; rw [List.length_map, List.length_map, LL1.out, LL2.out] at h3; exact h3)
    go_enter Try.func30, Try.ntmps30
    go_wp2
    go_ret
    exact ⟨by rw [decide_eq_false HF.out]; rfl, Below.refl _ _⟩

set_option maxRecDepth 100000 in
set_option maxHeartbeats 3200000 in
theorem same_any {A B : Option Addr} {n c m d : Nat} {l l' : List Sx} {w : World} (h1 : ListAt w A n c l) (h2 : ListAt w B m d l') :
    Calls Try.prog 15 #[.slice A n c, .slice B m d] w fun e w' => e = .returned (.bool (decide (l.map Sx.p = l'.map Sx.p))) ∧ Below w.heap.size w w' := by
  have HM := Lib.hid (equalS_any h1 h2)
  clear h1 h2
  go_enter Try.func15, Try.ntmps15
  go_wp2_with (go_at_call 30; refine HM.out.mono ?_; rintro e w2 ⟨rfl, hb⟩; have L2 := Lib.hid hb; clear hb)
  go_ret
  exact ⟨rfl, L2.out⟩
end Ded
end Go.Proofs.Ytndcflchdecofaa
/-
  THE LAW DedupKeeps: its walk.
-/
namespace Go.Proofs.Ytndcflchdecofaa
open Go.RowKit Mem Box
namespace Ded
open Net (Mp Mx MAt mxv MBox)
theorem PBox4 {w : World} {g : Nat} {x : Px} (h : Cells w g 28 #[.int .i64 x.f, .int .i64 x.i, .int .i64 x.k, .bool x.g]) : w.cell? ⟨g, 0, none⟩ = some (.int .i64 x.f) ∧ w.cell? ⟨g, 1, none⟩ = some (.int .i64 x.i) ∧ w.cell? ⟨g, 2, none⟩ = some (.int .i64 x.k) ∧ w.cell? ⟨g, 3, none⟩ = some (.bool x.g) := ⟨Cells.cell h 0, Cells.cell h 1, Cells.cell h 2, Cells.cell h 3⟩
/-- The list, if few find it small and it may be. -/
theorem good_of {w : World} {A : Option Addr} {n c : Nat} {l : List Sx} (h : ListAt w A n c l) (hn : n ≤ 100) (hf : ∀ x ∈ l, fewS x) (hok : okL (l.map Sx.p) = true) : Good w A n c l 100 := by
  refine ⟨h, hok, fun s hs d hd => ?_, hn⟩
  obtain ⟨x, hx, rfl⟩ := List.mem_map.1 hs
  obtain ⟨y, hy, rfl⟩ := List.mem_map.1 hd
  exact (hf x hx).2 y hy
set_option maxRecDepth 100000 in
set_option maxHeartbeats 51200000 in
theorem keeps_walk (A : Option Addr) (n c : Nat) (l : List Sx) (C : Option Addr) (m e : Nat) (os : List Px) (w : World) (h0 : ListAt w A n c l) (h : RowS cellsP 4 w C m e os) (hfit : ∀ x ∈ os, x.fits) : Calls Try.prog 6 #[.slice A n c, .slice C m e] w fun e w' => e = .returned (.bool true) ∧ Below w.heap.size w w' := by
  have HLV := Lib.hid (live_any w)
  have HR := Lib.hid h
  have HFT := Lib.hid hfit
  have HL0 := Lib.hid h0
  have HFW := Lib.hid (fun W (hW : Below w.heap.size w W) => few_any (h0.below hW))
  have HRC := Lib.hid (fun W (hW : Below w.heap.size w W) (hb : ∀ x ∈ l, x.b ≤ 2305843009213693952) => refCheck_any (h0.below hW) hb)
  clear h hfit h0
  go_enter Try.func6, Try.ntmps6
  go_upto_region 2 with (go_at_call 7; refine HLV.out.mono ?_; rintro e w1 ⟨rfl, hb⟩; have L1 := Lib.hid hb; clear hb HLV)
  go_wp2_with fail
  refine (HFW.out _ L1.out).mono ?_
  rintro e w2 ⟨⟨b, rfl, hbf⟩, hb⟩
  have L2 := Lib.hid (L1.out.trans (hb.mono L1.out.size))
  have HBF := Lib.hid hbf
  clear hb hbf HFW
  rcases b
  · go_wp2_with fail
    go_ret
    exact ⟨rfl, L2.out⟩
  · rcases e1 : decide ((100 : Int) < (m : Int))
    · have hm1 : m ≤ 100 := by have := of_decide_eq_false e1; omega
      have HRC2 := Lib.hid (HRC.out _ L2.out (fun x hx => by have := ((HBF.out rfl).2 x hx).1; omega))
      unfold errP at HRC2
      rcases eo : okL (l.map Sx.p)
      · rw [eo] at HRC2
        go_wp2_with (go_at_call 10; refine HRC2.out.mono ?_; rintro e w3 ⟨rfl, hb⟩; have L3 := Lib.hid (L2.out.trans (hb.mono L2.out.size)); clear hb)
        go_ret
        exact ⟨rfl, L3.out⟩
      · rw [eo] at HRC2
        have G0 := Lib.hid (good_of HL0.out (HBF.out rfl).1 (HBF.out rfl).2 eo)
        clear eo HRC HBF
        go_upto_region 4 with (go_at_call 10; refine HRC2.out.mono ?_; rintro e w3 ⟨rfl, hb⟩; have L3 := Lib.hid (L2.out.trans (hb.mono L2.out.size)); clear hb)
        have G3 := Lib.hid (G0.out.below L3.out)
        clear L1 L2 HRC2 G0 HL0
        go_wp2_with fail
        obtain ⟨A3, hA3⟩ : ∃ X, X = A := ⟨_, rfl⟩
        obtain ⟨n3, hn3⟩ : ∃ X, X = n := ⟨_, rfl⟩
        obtain ⟨c3, hc3⟩ : ∃ X, X = c := ⟨_, rfl⟩
        obtain ⟨l3, hl3⟩ : ∃ X, X = l := ⟨_, rfl⟩
        rw [← hA3, ← hn3, ← hc3, ← hl3] at G3
        rw [← hA3, ← hn3, ← hc3]
        clear hA3 hn3 hc3 hl3
        clear A n c l
        go_loopw [0, 7, 8, 9, 10, 11, 12, 13, 14, 15, 33] (fun s _ _ _ _ _ _ _ _ _ i wr => ∃ (k n d : Nat) (B : Option Addr) (l : List Sx), s = .slice B n d ∧ i = .int .i64 k ∧ k ≤ m ∧ Hid (Below w.heap.size w wr) ∧ Hid (Good wr B n d l (100 + k))) (fun _ _ _ _ _ _ _ _ _ _ i _ => m - (intOf i).toNat)
        case atStart => exact ⟨0, n3, c3, A3, l3, rfl, rfl, by omega, L3, G3⟩
        case round =>
          obtain ⟨k, n, d, B, l, rfl, rfl, hk, L3, G3⟩ := hrel
          by_cases hlt : k < m
          · obtain ⟨x, hx⟩ := HR.out.get hlt
            obtain ⟨b, o, hA, hc⟩ := ops_cells HR.out hx
            obtain ⟨c0, c1, c2, c3⟩ := hc _ L3.out
            have HFX := Lib.hid (HFT.out x (List.mem_of_getElem? hx))
            have hk0 : (0 : Int) ≤ (k : Int) := by omega
            have hkn : (k : Int) < (m : Int) := by omega
            subst hA
            clear hx hc
            go_upto_region 7 with fail
            have b4 : Below wr.heap.size wr (wr.alloc (.cells #[.int .i64 x.f, .int .i64 x.i, .int .i64 x.k, .bool x.g] 28)) := (Below.refl _ wr).alloc (Nat.le_refl _) _
            have L4 := Lib.hid (L3.out.trans (b4.mono L3.out.size))
            have G4 := Lib.hid (G3.out.below b4)
            have P4 : Hid (Cells (wr.alloc (.cells #[.int .i64 x.f, .int .i64 x.i, .int .i64 x.k, .bool x.g] 28)) wr.heap.size 28 #[.int .i64 x.f, .int .i64 x.i, .int .i64 x.k, .bool x.g]) := Cells.new _ _ _
            clear b4 L3 G3 c0 c1 c2 c3
            generalize wr.alloc (.cells #[.int .i64 x.f, .int .i64 x.i, .int .i64 x.k, .bool x.g] 28) = w4 at *
            generalize wr.heap.size = p4 at *
            obtain ⟨o0, o1, o2, o3⟩ := PBox4 P4.out
            rcases eb : decide ((1152921504606846976 : Int) < x.i)
            · have HXI : Hid (x.i ≤ 1152921504606846976) := by show _ ≤ _; have := of_decide_eq_false eb; omega
              obtain ⟨q, hq⟩ : ∃ q, q = askP (l.map Sx.p) x.f x.i := ⟨_, rfl⟩
              have HQ := Lib.hid hq
              have HA := Lib.hid (fun W (hW : Below w4.heap.size w4 W) => (ask_any (f := x.f) (i := x.i) (G4.out.at_.below hW)).mono (R' := fun en w' => ∃ y : Mx, en = .returned (.tuple #[.agg #[.int .i64 y.k, .int .i64 y.f, .int .i64 y.t, .int .i64 y.i, .slice y.A y.n y.c, .slice y.B y.m y.d], .int .i64 q.2]) ∧ y.p = q.1 ∧ MAt w' y ∧ Below W.heap.size W w') (by
                rintro en w' ⟨y, rfl, hy, hm, hb⟩
                rw [← hq] at hy ⊢
                exact ⟨y, rfl, hy, hm, hb⟩))
              clear hq
              go_upto_region 10 with (go_at_call 8; refine (HA.out _ (Below.refl _ _)).mono ?_; rintro e w5 ⟨y, rfl, hy, hm, hb⟩; have B5 := Lib.hid hb; have Y5 := Lib.hid hm; have HY := Lib.hid hy; clear hb hm hy)
              have b6 : Below w5.heap.size w5 (w5.alloc (.cells #[.int .i64 y.k, .int .i64 y.f, .int .i64 y.t, .int .i64 y.i, .slice y.A y.n y.c, .slice y.B y.m y.d] 33)) := (Below.refl _ w5).alloc (Nat.le_refl _) _
              have B6 := Lib.hid (B5.out.trans (b6.mono B5.out.size))
              have Y6 := Lib.hid (Y5.out.below b6)
              have YB6 : Hid (Net.MBox (w5.alloc (.cells #[.int .i64 y.k, .int .i64 y.f, .int .i64 y.t, .int .i64 y.i, .slice y.A y.n y.c, .slice y.B y.m y.d] 33)) w5.heap.size y) := Cells.new _ _ _
              have P6 := Lib.hid (Cells.below P4.out B6.out)
              clear b6 B5 Y5 o0 o1 o2 o3
              generalize w5.alloc (.cells #[.int .i64 y.k, .int .i64 y.f, .int .i64 y.t, .int .i64 y.i, .slice y.A y.n y.c, .slice y.B y.m y.d] 33) = w6 at *
              generalize w5.heap.size = p5 at *
              obtain ⟨o0, o1, o2, o3⟩ := PBox4 P6.out
              go_upto_region 11 with (go_at_call 8; refine (HA.out _ B6.out).mono ?_; rintro e w7 ⟨z, rfl, hz, hm, hb⟩; have B7 := Lib.hid (B6.out.trans (hb.mono B6.out.size)); have Y7 := Lib.hid (Y6.out.below hb); have YB7 := Lib.hid (Cells.below YB6.out hb); have P7 := Lib.hid (Cells.below P6.out hb); have Z7 := Lib.hid hm; have HZ := Lib.hid hz; clear hb hm hz)
              have b8 : Below w7.heap.size w7 (w7.alloc (.cells #[.int .i64 z.k, .int .i64 z.f, .int .i64 z.t, .int .i64 z.i, .slice z.A z.n z.c, .slice z.B z.m z.d] 33)) := (Below.refl _ w7).alloc (Nat.le_refl _) _
              have B8 := Lib.hid (B7.out.trans (b8.mono B7.out.size))
              have Y8 := Lib.hid (Y7.out.below b8)
              have YB8 := Lib.hid (Cells.below YB7.out b8)
              have Z8 := Lib.hid (Z7.out.below b8)
              have ZB8 : Hid (Net.MBox (w7.alloc (.cells #[.int .i64 z.k, .int .i64 z.f, .int .i64 z.t, .int .i64 z.i, .slice z.A z.n z.c, .slice z.B z.m z.d] 33)) w7.heap.size z) := Cells.new _ _ _
              have P8 := Lib.hid (Cells.below P7.out b8)
              clear b8 B6 Y6 YB6 P6 B7 Y7 YB7 P7 Z7 HA o0 o1 o2 o3
              generalize w7.alloc (.cells #[.int .i64 z.k, .int .i64 z.f, .int .i64 z.t, .int .i64 z.i, .slice z.A z.n z.c, .slice z.B z.m z.d] 33) = w8 at *
              generalize w7.heap.size = p7 at *
              have HSM := Lib.hid (Net.sameMsg_any Y8.out Z8.out)
              rw [decide_eq_true (show y.p = z.p by rw [HY.out, HZ.out])] at HSM
              unfold mxv at HSM
              obtain ⟨n0, n1, n2, n3, n4, n5⟩ := Net.MBox.cells YB8.out
              obtain ⟨m0, m1, m2, m3, m4, m5⟩ := Net.MBox.cells ZB8.out
              have L8 := Lib.hid (L4.out.trans (B8.out.mono L4.out.size))
              have G8 := Lib.hid (G4.out.below B8.out)
              go_upto_region 13 with (go_at_call 14; refine HSM.out.mono ?_; rintro e w9 ⟨rfl, hb⟩; have L9 := Lib.hid (L8.out.trans (hb.mono L8.out.size)); have G9 := Lib.hid (G8.out.below hb); have P9 := Lib.hid (Cells.below P8.out hb); clear hb)
              clear n0 n1 n2 n3 n4 n5 m0 m1 m2 m3 m4 m5 HSM Y8 Z8 YB8 ZB8 L8 G8 P8 B8 L4 G4 P4 HY HZ
              obtain ⟨o0, o1, o2, o3⟩ := PBox4 P9.out
              have HD := Lib.hid (show Calls Try.prog 9 #[.slice B n d, .int .i64 x.f, .int .i64 x.i, .agg #[.int .i64 (x.k), .int .i64 0, .int .i64 0, .int .i64 0, .slice none 0 0, .slice none 0 0]] w9 _ from did_any (f := x.f) (i := x.i) (x := kx x.k) G9.out (atk w9 HFX.out.1.1 HFX.out.1.2) (by omega) HXI.out)
              go_upto_region 14 with (go_at_call 9; refine HD.out.mono ?_; rintro e w10 (⟨B5, n5, d5, l5, rfl, hg, hp, hn, -, hb⟩ | ⟨B5, d5, ve, rfl, hv0, h3, hb⟩); rotate_left)
              · have LA := Lib.hid (L9.out.trans (hb.mono L9.out.size))
                have GA := Lib.hid (G9.out.below hb)
                have PA := Lib.hid (Cells.below P9.out hb)
                have e0 : (ve != 0) = true := by simpa [bne] using hv0
                have H3 : Hid (q.2 ≠ 0 ∨ x.f < 0 ∨ x.i < 0) := by show _ ∨ _; rw [HQ.out]; exact h3
                clear hb hv0 h3 o0 o1 o2 o3
                obtain ⟨o0, o1, o2, o3⟩ := PBox4 PA.out
                rcases t1 : (q.2 == 0)
                · go_wp2_with fail
                  go_roundw
                  case rel => exact ⟨k + 1, n, d, B, l, rfl, by go_num, by omega, LA, Lib.hid (GA.out.mono (by omega))⟩
                  case measure => simp [intOf]; omega
                · rcases t2 : decide (0 ≤ x.f)
                  · go_wp2_with fail
                    go_roundw
                    case rel => exact ⟨k + 1, n, d, B, l, rfl, by go_num, by omega, LA, Lib.hid (GA.out.mono (by omega))⟩
                    case measure => simp [intOf]; omega
                  · rcases t3 : decide (0 ≤ x.i)
                    · go_wp2_with fail
                      go_roundw
                      case rel => exact ⟨k + 1, n, d, B, l, rfl, by go_num, by omega, LA, Lib.hid (GA.out.mono (by omega))⟩
                      case measure => simp [intOf]; omega
                    · exfalso
                      have h1 := eq_of_beq t1
                      have h2 := of_decide_eq_true t2
                      have h4 := of_decide_eq_true t3
                      rcases H3.out with h | h | h
                      · exact h h1
                      · omega
                      · omega
              · have LA := Lib.hid (L9.out.trans (hb.mono L9.out.size))
                have GA := Lib.hid hg
                have GO := Lib.hid (G9.out.below hb)
                have PA := Lib.hid (Cells.below P9.out hb)
                have HP5 := Lib.hid hp
                obtain ⟨q2, hq2⟩ : ∃ q2, q2 = askP (l5.map Sx.p) x.f x.i := ⟨_, rfl⟩
                have E1 : Hid ((q.2 != 0) = false) := by
                  show _ = _
                  rw [bne_eq_false_iff_eq, HQ.out]; exact hn.new
                have HNE : Hid (q2.2 ≠ 0) := by
                  show _ ≠ _
                  rw [hq2, hp]
                  rcases (ask_put hn x.f x.i).2 rfl with h | ⟨-, h⟩ | ⟨h, -⟩
                  · rw [h]; decide
                  · rw [h]; show (1 : Int) ≠ 0; decide
                  · exact absurd rfl h
                have HDF : Hid (¬ l5.map Sx.p = l.map Sx.p) := fun e => HNE.out (by rw [hq2, e]; exact hn.new)
                have HA2 := Lib.hid ((ask_any (f := x.f) (i := x.i) GA.out.at_).mono (R' := fun en w' => ∃ y : Mx, en = .returned (.tuple #[.agg #[.int .i64 y.k, .int .i64 y.f, .int .i64 y.t, .int .i64 y.i, .slice y.A y.n y.c, .slice y.B y.m y.d], .int .i64 q2.2]) ∧ Below w10.heap.size w10 w') (by
                  rintro en w' ⟨y, rfl, -, -, hb⟩
                  rw [← hq2]
                  exact ⟨y, rfl, hb⟩))
                have e1 := E1.out
                have e2 : (q2.2 == 0) = false := beq_eq_false_iff_ne.2 HNE.out
                clear hb hg hp hn hq2 o0 o1 o2 o3
                obtain ⟨o0, o1, o2, o3⟩ := PBox4 PA.out
                go_upto_region 18 with (go_at_call 8; refine HA2.out.mono ?_; rintro e w11 ⟨y2, rfl, hb⟩; have LB := Lib.hid (LA.out.trans (hb.mono LA.out.size)); have GB := Lib.hid (GA.out.below hb); have GP := Lib.hid (GO.out.below hb); clear hb)
                have b12 : Below w11.heap.size w11 (w11.alloc (.cells #[.int .i64 y2.k, .int .i64 y2.f, .int .i64 y2.t, .int .i64 y2.i, .slice y2.A y2.n y2.c, .slice y2.B y2.m y2.d] 33)) := (Below.refl _ w11).alloc (Nat.le_refl _) _
                have LC := Lib.hid (LB.out.trans (b12.mono LB.out.size))
                have GC := Lib.hid (GB.out.below b12)
                have GQ := Lib.hid (GP.out.below b12)
                clear b12 LA GA GO PA LB GB GP HA2 L9 G9 P9 o0 o1 o2 o3
                generalize w11.alloc (.cells #[.int .i64 y2.k, .int .i64 y2.f, .int .i64 y2.t, .int .i64 y2.i, .slice y2.A y2.n y2.c, .slice y2.B y2.m y2.d] 33) = w12 at *
                generalize w11.heap.size = p11 at *
                have HCK := Lib.hid (check_any GC.out.at_)
                unfold errP at HCK
                rw [GC.out.ok] at HCK
                go_wp2_with (first | (go_at_call 12; refine HCK.out.mono ?_; rintro e w13 ⟨rfl, hb⟩; have LD := Lib.hid (LC.out.trans (hb.mono LC.out.size)); have GD := Lib.hid (GC.out.below hb); have GR := Lib.hid (GQ.out.below hb); have HSS := Lib.hid (same_any GD.out.at_ GR.out.at_); clear hb; rw [decide_eq_false HDF.out] at HSS) | (go_at_call 15; refine HSS.out.mono ?_; rintro e w14 ⟨rfl, hb⟩; have LE := Lib.hid (LD.out.trans (hb.mono LD.out.size)); have GE := Lib.hid (GD.out.below hb); clear hb))
                go_roundw
                case rel => exact ⟨k + 1, n5, d5, B5, l5, rfl, by go_num, by omega, LE, Lib.hid (GE.out.mono (by omega))⟩
                case measure => simp [intOf]; omega
            · go_wp2_with fail
              go_ret
              exact ⟨rfl, L4.out⟩
          · go_wp2_with fail
            go_ret
            exact ⟨rfl, L3.out⟩
    · go_wp2_with fail
      go_ret
      exact ⟨rfl, L2.out⟩
end Ded
end Go.Proofs.Ytndcflchdecofaa
/-
  THE STATEMENT DedupKeeps: its row. For every input that the row can read, no condition beside it. (Written by gen_dedrows.py.)
-/
namespace Go.Proofs.Ytndcflchdecofaa
open Go.ChangeShapes Go.WideShapes Go.ChangeAt Go.RowKit Mem Args
namespace Ded

theorem dedupKeeps_says : Frame.Says Rows.dedupKeepsSpec 2 := by
  refine ⟨rfl, fun H ds h => ?_, fun H ds h => ?_, fun H ds h => ?_⟩ <;>
  · match ds, h with
    | [d0, d1], _ => rfl

set_option maxRecDepth 100000 in
theorem dedupKeeps_walks : Frame.Walks 6 [24, 22] := by
  intro H enc W args ds ps base hok hA hsz
  obtain ⟨v0, vs0, d0, ds0, p0, q0, hargs, rfl, rfl, h0, r0⟩ := trodAll_cons hA
  obtain ⟨v1, vs1, d1, ds1, p1, q1, rfl, rfl, rfl, h1, r1⟩ := trodAll_cons r0
  obtain ⟨rfl, rfl, rfl⟩ := trodAll_nil r1
  obtain rfl : args = #[v0, v1] := by cases args; simp_all
  obtain ⟨A0, n0, c0, l0, rfl, k0⟩ := open_seens (hok 0 _ v0 rfl rfl) h0 (sized_arg hsz (j := 0) rfl rfl)
  obtain ⟨A1, n1, c1, l1, rfl, k1, kk1⟩ := open_opsD (hok 1 _ v1 rfl rfl) h1 (sized_arg hsz (j := 1) rfl rfl)
  exact keeps_walk A0 n0 c0 l0 A1 n1 c1 l1 W k0 k1 kk1

set_option maxRecDepth 100000 in
theorem dedupKeeps_over : Rows.dedupKeepsRow.holds Try.pinned (OpenSpec.ofChange Rows.dedupKeepsSpec) :=
  OpenClaim.holds_of_wide 6 Try.f6 rfl rfl rfl rfl rfl rfl rfl ⟨rfl, rfl, rfl, rfl, rfl⟩ rfl rfl rfl rfl rfl (by kernel_rfl) Try.func6 (by kernel_rfl)
    (of_decide_eq_true (by kernel_rfl)) (by unfold Func.isWrapper; first | (rw [if_pos (by decide +kernel)]; kernel_rfl) | (rw [if_neg (by decide +kernel)]; exact ⟨rfl, rfl⟩))
    (fun os started H enc _ => Frame.lifted (started := started) Try.underlying4 (by kernel_rfl) Try.func6 (n := 2) (by rw [Try.params6]; rfl) dedupKeeps_says (by rw [Try.params6]; kernel_rfl) (by kernel_rfl)
      (ChangeSpec.witness6 (enc := enc) (C := Try.checked) false ⟨#[], #[.slice none 0 0, .slice none 0 0], []⟩ 8 (by kernel_rfl) (by kernel_rfl) (by kernel_rfl) (by kernel_rfl))
      (by rw [Try.params6]; exact dedupKeeps_walks))
end Ded
/-- The given statement. -/
theorem dedupKeeps_holds : Rows.DedupKeepsSaid := Ded.dedupKeeps_over
end Go.Proofs.Ytndcflchdecofaa
