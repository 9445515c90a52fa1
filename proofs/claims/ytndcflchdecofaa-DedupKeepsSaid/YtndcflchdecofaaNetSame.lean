/-
  WALKS: the document's own comparisons: numbers, messages, nets.
-/
import Derived.Test.YtndcflchdecofaaNetPlain
import Derived.BigQuiet
namespace Go.Proofs.Ytndcflchdecofaa
open Go.RowKit Mem Box
namespace Net
open Wire (B8)

theorem below_drewq (w : World) (n : Nat) : Below w.heap.size w (w.drewN n) := ⟨rfl, rfl, rfl, Nat.le_refl _, fun _ _ => rfl⟩
theorem take_next {α : Type} [DecidableEq α] {a b : List α} {k : Nat} {x y : α} (ha : a[k]? = some x) (hb : b[k]? = some y) (h : a.take k = b.take k) : (a.take (k + 1) = b.take (k + 1)) = (x = y) := by
  rw [List.take_add_one, List.take_add_one, ha, hb, h]
  simp
theorem ne_at {α : Type} {a b : List α} {k : Nat} {x y : α} (ha : a[k]? = some x) (hb : b[k]? = some y) (h : ¬ x = y) : ¬ a = b := fun e => h (by rw [e, hb] at ha; injection ha with ha; exact ha.symm)
set_option maxRecDepth 100000 in
set_option maxHeartbeats 1600000 in
theorem sameInts_any {A B : Option Addr} {n c m d : Nat} {l l' : List Int} {w : World} (h1 : Row ci w A n c l) (h2 : Row ci w B m d l') :
    Calls Try.prog 29 #[.slice A n c, .slice B m d] w fun e w' => e = .returned (.bool (decide (l = l'))) ∧ Below w.heap.size w w' := by
  have H1 := Lib.hid h1
  have H2 := Lib.hid h2
  have hb := h1.big
  have L1 := Lib.hid h1.len
  have L2 := Lib.hid h2.len
  clear h1 h2
  by_cases hnm : n = m
  · subst hnm
    go_enter Try.func29, Try.ntmps29
    go_wp2
    go_loopw [5, 13] (fun _ i wr => ∃ k : Nat, i = .int .i64 k ∧ k ≤ n ∧ Hid (Below w.heap.size w wr ∧ l.take k = l'.take k)) (fun _ i _ => n - (intOf i).toNat)
    case atStart => exact ⟨0, rfl, by omega, Below.refl _ _, rfl⟩
    case round =>
      obtain ⟨k, rfl, hk, hB⟩ := hrel
      by_cases hlt : k < n
      · obtain ⟨z, hz⟩ := H1.out.get hlt
        obtain ⟨y, hy⟩ := H2.out.get hlt
        obtain ⟨b1, o1, rfl, hc1⟩ := (H1.out.below hB.out.1).cell hz
        obtain ⟨b2, o2, rfl, hc2⟩ := (H2.out.below hB.out.1).cell hy
        have hc1' : wr.cell? ⟨b1, o1 + k, none⟩ = some (.int .i64 z) := hc1
        have hc2' : wr.cell? ⟨b2, o2 + k, none⟩ = some (.int .i64 y) := hc2
        have HZ := Lib.hid hz
        have HY := Lib.hid hy
        have hk0 : (0 : Int) ≤ (k : Int) := by omega
        have hk1 : (k : Int) < (n : Int) := by omega
        clear hc1 hc2 hz hy
        rcases e : (z != y)
        · have HE : Hid (z = y) := by show z = y; simpa using e
          go_wp2
          go_quiet (fail)
          go_wp2
          go_roundw
          case rel => exact ⟨k + 1, by go_num, by omega, hB.out.1.trans ((below_drewq _ _).mono hB.out.1.size), by rw [take_next HZ.out HY.out hB.out.2]; exact HE.out⟩
          case measure => simp [intOf]; omega
        · have HE : Hid (¬ z = y) := by show ¬ z = y; simpa using e
          go_wp2
          go_quiet (fail)
          go_wp2
          go_ret
          exact ⟨by rw [decide_eq_false (ne_at HZ.out HY.out HE.out)]; rfl, hB.out.1.trans ((below_drewq _ _).mono hB.out.1.size)⟩
      · have HF : Hid (l = l') := by
          have h3 := hB.out.2
          rw [List.take_of_length_le (by have := L1.out; omega), List.take_of_length_le (by have := L2.out; omega)] at h3
          exact h3
        go_wp2
        go_ret
        exact ⟨by rw [decide_eq_true HF.out]; rfl, hB.out.1⟩
  · have hne : ((n : Int) != (m : Int)) = true := by simp only [bne_iff_ne, ne_eq]; omega
    have HF : Hid (¬ l = l') := fun e => hnm (by rw [← L1.out, ← L2.out, e])
    go_enter Try.func29, Try.ntmps29
    go_wp2
    go_ret
    exact ⟨by rw [decide_eq_false HF.out]; rfl, Below.refl _ _⟩

set_option maxRecDepth 100000 in
set_option maxHeartbeats 3200000 in
theorem sameMsg_any {x y : Mx} {w : World} (hx : MAt w x) (hy : MAt w y) :
    Calls Try.prog 14 #[mxv x, mxv y] w fun e w' => e = .returned (.bool (decide (x.p = y.p))) ∧ Below w.heap.size w w' := by
  have HX := Lib.hid hx
  have HY := Lib.hid hy
  have HI := fun W (hW : Below w.heap.size w W) => Lib.hid (sameInts_any (HX.out.below hW).ints (HY.out.below hW).ints)
  have L1 : Hid (Below w.heap.size w ((w.alloc (.cells #[.int .i64 x.k, .int .i64 x.f, .int .i64 x.t, .int .i64 x.i, .slice x.A x.n x.c, .slice x.B x.m x.d] 33)).alloc (.cells #[.int .i64 y.k, .int .i64 y.f, .int .i64 y.t, .int .i64 y.i, .slice y.A y.n y.c, .slice y.B y.m y.d] 33))) := (((Below.refl _ w).alloc (by first | exact Nat.le_refl _ | (simp; try omega)) _).alloc (by first | exact Nat.le_refl _ | (simp; try omega)) _)
  have X1 : Hid (Cells ((w.alloc (.cells #[.int .i64 x.k, .int .i64 x.f, .int .i64 x.t, .int .i64 x.i, .slice x.A x.n x.c, .slice x.B x.m x.d] 33)).alloc (.cells #[.int .i64 y.k, .int .i64 y.f, .int .i64 y.t, .int .i64 y.i, .slice y.A y.n y.c, .slice y.B y.m y.d] 33)) (w.heap.size) 33 #[.int .i64 x.k, .int .i64 x.f, .int .i64 x.t, .int .i64 x.i, .slice x.A x.n x.c, .slice x.B x.m x.d]) := by
    have := Cells.new w #[.int .i64 x.k, .int .i64 x.f, .int .i64 x.t, .int .i64 x.i, .slice x.A x.n x.c, .slice x.B x.m x.d] 33
    (try simp only [World.size_alloc] at this)
    exact (Cells.alloc this _)
  have Y1 : Hid (Cells ((w.alloc (.cells #[.int .i64 x.k, .int .i64 x.f, .int .i64 x.t, .int .i64 x.i, .slice x.A x.n x.c, .slice x.B x.m x.d] 33)).alloc (.cells #[.int .i64 y.k, .int .i64 y.f, .int .i64 y.t, .int .i64 y.i, .slice y.A y.n y.c, .slice y.B y.m y.d] 33)) (w.heap.size + 1) 33 #[.int .i64 y.k, .int .i64 y.f, .int .i64 y.t, .int .i64 y.i, .slice y.A y.n y.c, .slice y.B y.m y.d]) := by
    have := Cells.new (w.alloc (.cells #[.int .i64 x.k, .int .i64 x.f, .int .i64 x.t, .int .i64 x.i, .slice x.A x.n x.c, .slice x.B x.m x.d] 33)) #[.int .i64 y.k, .int .i64 y.f, .int .i64 y.t, .int .i64 y.i, .slice y.A y.n y.c, .slice y.B y.m y.d] 33
    (try simp only [World.size_alloc] at this)
    exact this
  have SZ : Hid (((w.alloc (.cells #[.int .i64 x.k, .int .i64 x.f, .int .i64 x.t, .int .i64 x.i, .slice x.A x.n x.c, .slice x.B x.m x.d] 33)).alloc (.cells #[.int .i64 y.k, .int .i64 y.f, .int .i64 y.t, .int .i64 y.i, .slice y.A y.n y.c, .slice y.B y.m y.d] 33)).heap.size = w.heap.size + 2) := by show _ = _; simp
  have hh := And.intro (MBox.cells (x := x) X1.out) (MBox.cells (x := y) Y1.out)
  obtain ⟨⟨n0, n1, n2, n3, n4, n5⟩, m0, m1, m2, m3, m4, m5⟩ := hh
  unfold mxv
  clear hx hy SZ
  rcases e0 : (x.k == y.k)
  · have HF : Hid (decide (x.p = y.p) = false) := decide_eq_false fun e => by have := congrArg Mp.k e; simp [Mx.p] at this e0; exact e0 this
    go_enter Try.func14, Try.ntmps14
    go_upto_region 1 with fail
    generalize ((w.alloc (.cells #[.int .i64 x.k, .int .i64 x.f, .int .i64 x.t, .int .i64 x.i, .slice x.A x.n x.c, .slice x.B x.m x.d] 33)).alloc (.cells #[.int .i64 y.k, .int .i64 y.f, .int .i64 y.t, .int .i64 y.i, .slice y.A y.n y.c, .slice y.B y.m y.d] 33)) = w1 at *
    go_wp2_with (go_at_call 29; refine (HI _ L1.out).out.mono ?_; rintro e w2 ⟨rfl, hb⟩; have L2 := Lib.hid (L1.out.trans (hb.mono L1.out.size)); have X2 := Lib.hid (Cells.below X1.out hb); have Y2 := Lib.hid (Cells.below Y1.out hb); obtain ⟨p0, p1, p2, p3, p4, p5⟩ := MBox.cells X2.out; obtain ⟨q0, q1, q2, q3, q4, q5⟩ := MBox.cells Y2.out; have s1 := run_str (HX.out.below L2.out).text; have s2 := run_str (HY.out.below L2.out).text; clear hb)
    go_ret
    exact ⟨by rw [HF.out]; rfl, L1.out⟩
  · rcases e1 : (x.f == y.f)
    · have HF : Hid (decide (x.p = y.p) = false) := decide_eq_false fun e => by have := congrArg Mp.f e; simp [Mx.p] at this e1; exact e1 this
      go_enter Try.func14, Try.ntmps14
      go_upto_region 1 with fail
      generalize ((w.alloc (.cells #[.int .i64 x.k, .int .i64 x.f, .int .i64 x.t, .int .i64 x.i, .slice x.A x.n x.c, .slice x.B x.m x.d] 33)).alloc (.cells #[.int .i64 y.k, .int .i64 y.f, .int .i64 y.t, .int .i64 y.i, .slice y.A y.n y.c, .slice y.B y.m y.d] 33)) = w1 at *
      go_wp2_with (go_at_call 29; refine (HI _ L1.out).out.mono ?_; rintro e w2 ⟨rfl, hb⟩; have L2 := Lib.hid (L1.out.trans (hb.mono L1.out.size)); have X2 := Lib.hid (Cells.below X1.out hb); have Y2 := Lib.hid (Cells.below Y1.out hb); obtain ⟨p0, p1, p2, p3, p4, p5⟩ := MBox.cells X2.out; obtain ⟨q0, q1, q2, q3, q4, q5⟩ := MBox.cells Y2.out; have s1 := run_str (HX.out.below L2.out).text; have s2 := run_str (HY.out.below L2.out).text; clear hb)
      go_ret
      exact ⟨by rw [HF.out]; rfl, L1.out⟩
    · rcases e2 : (x.t == y.t)
      · have HF : Hid (decide (x.p = y.p) = false) := decide_eq_false fun e => by have := congrArg Mp.t e; simp [Mx.p] at this e2; exact e2 this
        go_enter Try.func14, Try.ntmps14
        go_upto_region 1 with fail
        generalize ((w.alloc (.cells #[.int .i64 x.k, .int .i64 x.f, .int .i64 x.t, .int .i64 x.i, .slice x.A x.n x.c, .slice x.B x.m x.d] 33)).alloc (.cells #[.int .i64 y.k, .int .i64 y.f, .int .i64 y.t, .int .i64 y.i, .slice y.A y.n y.c, .slice y.B y.m y.d] 33)) = w1 at *
        go_wp2_with (go_at_call 29; refine (HI _ L1.out).out.mono ?_; rintro e w2 ⟨rfl, hb⟩; have L2 := Lib.hid (L1.out.trans (hb.mono L1.out.size)); have X2 := Lib.hid (Cells.below X1.out hb); have Y2 := Lib.hid (Cells.below Y1.out hb); obtain ⟨p0, p1, p2, p3, p4, p5⟩ := MBox.cells X2.out; obtain ⟨q0, q1, q2, q3, q4, q5⟩ := MBox.cells Y2.out; have s1 := run_str (HX.out.below L2.out).text; have s2 := run_str (HY.out.below L2.out).text; clear hb)
        go_ret
        exact ⟨by rw [HF.out]; rfl, L1.out⟩
      · rcases e3 : (x.i == y.i)
        · have HF : Hid (decide (x.p = y.p) = false) := decide_eq_false fun e => by have := congrArg Mp.i e; simp [Mx.p] at this e3; exact e3 this
          go_enter Try.func14, Try.ntmps14
          go_upto_region 1 with fail
          generalize ((w.alloc (.cells #[.int .i64 x.k, .int .i64 x.f, .int .i64 x.t, .int .i64 x.i, .slice x.A x.n x.c, .slice x.B x.m x.d] 33)).alloc (.cells #[.int .i64 y.k, .int .i64 y.f, .int .i64 y.t, .int .i64 y.i, .slice y.A y.n y.c, .slice y.B y.m y.d] 33)) = w1 at *
          go_wp2_with (go_at_call 29; refine (HI _ L1.out).out.mono ?_; rintro e w2 ⟨rfl, hb⟩; have L2 := Lib.hid (L1.out.trans (hb.mono L1.out.size)); have X2 := Lib.hid (Cells.below X1.out hb); have Y2 := Lib.hid (Cells.below Y1.out hb); obtain ⟨p0, p1, p2, p3, p4, p5⟩ := MBox.cells X2.out; obtain ⟨q0, q1, q2, q3, q4, q5⟩ := MBox.cells Y2.out; have s1 := run_str (HX.out.below L2.out).text; have s2 := run_str (HY.out.below L2.out).text; clear hb)
          go_ret
          exact ⟨by rw [HF.out]; rfl, L1.out⟩
        · rcases e4 : decide (x.a = y.a)
          · have HF : Hid (decide (x.p = y.p) = false) := decide_eq_false fun e => of_decide_eq_false e4 (congrArg Mp.a e)
            rw [e4] at HI
            go_enter Try.func14, Try.ntmps14
            go_upto_region 1 with fail
            generalize ((w.alloc (.cells #[.int .i64 x.k, .int .i64 x.f, .int .i64 x.t, .int .i64 x.i, .slice x.A x.n x.c, .slice x.B x.m x.d] 33)).alloc (.cells #[.int .i64 y.k, .int .i64 y.f, .int .i64 y.t, .int .i64 y.i, .slice y.A y.n y.c, .slice y.B y.m y.d] 33)) = w1 at *
            go_wp2_with (go_at_call 29; refine (HI _ L1.out).out.mono ?_; rintro e w2 ⟨rfl, hb⟩; have L2 := Lib.hid (L1.out.trans (hb.mono L1.out.size)); have X2 := Lib.hid (Cells.below X1.out hb); have Y2 := Lib.hid (Cells.below Y1.out hb); obtain ⟨p0, p1, p2, p3, p4, p5⟩ := MBox.cells X2.out; obtain ⟨q0, q1, q2, q3, q4, q5⟩ := MBox.cells Y2.out; have s1 := run_str (HX.out.below L2.out).text; have s2 := run_str (HY.out.below L2.out).text; clear hb)
            go_ret
            exact ⟨by rw [HF.out]; rfl, L2.out⟩
          · have HF : Hid (decide (x.p = y.p) = decide (x.x = y.x)) := by
              show _ = _
              refine decide_eq_decide.2 ⟨fun e => congrArg Mp.x e, fun e => ?_⟩
              have g0 := eq_of_beq e0
              have g1 := eq_of_beq e1
              have g2 := eq_of_beq e2
              have g3 := eq_of_beq e3
              have g4 := of_decide_eq_true e4
              unfold Mx.p
              rw [g0, g1, g2, g3, g4, e]
            rw [e4] at HI
            go_enter Try.func14, Try.ntmps14
            go_upto_region 1 with fail
            generalize ((w.alloc (.cells #[.int .i64 x.k, .int .i64 x.f, .int .i64 x.t, .int .i64 x.i, .slice x.A x.n x.c, .slice x.B x.m x.d] 33)).alloc (.cells #[.int .i64 y.k, .int .i64 y.f, .int .i64 y.t, .int .i64 y.i, .slice y.A y.n y.c, .slice y.B y.m y.d] 33)) = w1 at *
            go_wp2_with (go_at_call 29; refine (HI _ L1.out).out.mono ?_; rintro e w2 ⟨rfl, hb⟩; have L2 := Lib.hid (L1.out.trans (hb.mono L1.out.size)); have X2 := Lib.hid (Cells.below X1.out hb); have Y2 := Lib.hid (Cells.below Y1.out hb); obtain ⟨p0, p1, p2, p3, p4, p5⟩ := MBox.cells X2.out; obtain ⟨q0, q1, q2, q3, q4, q5⟩ := MBox.cells Y2.out; have s1 := run_str (HX.out.below L2.out).text; have s2 := run_str (HY.out.below L2.out).text; clear hb)
            go_ret
            exact ⟨by rw [HF.out, ← str_beq]; rfl, L2.out⟩

end Net
end Go.Proofs.Ytndcflchdecofaa
