/-
  WALKS: net.Drop.
-/
import Derived.Test.YtamahknnppjegaaNetCut
namespace Go.Proofs.Ytamahknnppjegaa
open Go.RowKit Mem Box
namespace Net
open Wire (B8 info_int asInts asInts_append)

set_option maxRecDepth 100000 in
set_option maxHeartbeats 3200000 in
theorem drop_bad {cap : Nat} {Q : Option Addr} {n c : Nat} {i : Int} (hi : hasB n i = false) (w : World) :
    Calls Try.prog 32 #[nv cap Q n c, .int .i64 i] w fun e w' => e = .returned (.tuple #[nv 0 none 0 0, .int .i64 4]) ∧ Below w.heap.size w w' := by
  have HT := fun W => Lib.hid (take_bad (cap := cap) (Q := Q) (c := c) hi W)
  skip
  have L1 : Hid (Below w.heap.size w ((w.alloc (.cells #[.int .i64 (cap : Int), .slice Q n c] 28)).alloc (.cells #[.int .i64 0, .slice none 0 0] 28))) := (((Below.refl _ w).alloc (by first | exact Nat.le_refl _ | (simp; try omega)) _).alloc (by first | exact Nat.le_refl _ | (simp; try omega)) _)
  have X1 : Hid (Cells ((w.alloc (.cells #[.int .i64 (cap : Int), .slice Q n c] 28)).alloc (.cells #[.int .i64 0, .slice none 0 0] 28)) (w.heap.size) 28 #[.int .i64 (cap : Int), .slice Q n c]) := by
    have := Cells.new w #[.int .i64 (cap : Int), .slice Q n c] 28
    (try simp only [World.size_alloc] at this)
    exact (Cells.alloc this _)
  have Z1 : Hid (Cells ((w.alloc (.cells #[.int .i64 (cap : Int), .slice Q n c] 28)).alloc (.cells #[.int .i64 0, .slice none 0 0] 28)) (w.heap.size + 1) 28 #[.int .i64 0, .slice none 0 0]) := by
    have := Cells.new (w.alloc (.cells #[.int .i64 (cap : Int), .slice Q n c] 28)) #[.int .i64 0, .slice none 0 0] 28
    (try simp only [World.size_alloc] at this)
    exact this
  have SZ : Hid (((w.alloc (.cells #[.int .i64 (cap : Int), .slice Q n c] 28)).alloc (.cells #[.int .i64 0, .slice none 0 0] 28)).heap.size = w.heap.size + 2) := by show _ = _; simp
  clear SZ hi
  unfold nv at *
  go_enter Try.func32, Try.ntmps32
  go_upto_region 2 with (first | (go_at_call 30; refine (HT _).out.mono ?_; rintro e w2 ⟨rfl, hb⟩; have L2 := Lib.hid (L1.out.trans (hb.mono L1.out.size)); have X2 := Lib.hid (Cells.below X1.out hb); have Z2 := Lib.hid (Cells.below Z1.out hb); have X3 := Cells.alloc X2.out (.cells #[.int .i64 0, .int .i64 0, .int .i64 0, .int .i64 0, .slice none 0 0, .slice none 0 0] 39); obtain ⟨k0, k1⟩ := NBox.cells X3; have g0 := Cells.frozen X3 0; have g1 := Cells.frozen X3 1; have h21 := Cells.lt X2.out; have b1 : Mov [w.heap.size] (w2.alloc (.cells #[.int .i64 0, .int .i64 0, .int .i64 0, .int .i64 0, .slice none 0 0, .slice none 0 0] 39)) (((w2.alloc (.cells #[.int .i64 0, .int .i64 0, .int .i64 0, .int .i64 0, .slice none 0 0, .slice none 0 0] 39)).setCell ⟨w.heap.size, 0, none⟩ (.int .i64 0)).setCell ⟨w.heap.size, 1, none⟩ (.slice none 0 0)) := Mov.set2 _ _ _ _; have M4 := Cells.mov (Cells.new w2 #[.int .i64 0, .int .i64 0, .int .i64 0, .int .i64 0, .slice none 0 0, .slice none 0 0] 39) b1 (by simp; omega); obtain ⟨s0, q0, s1, q1, s2, q2, s3, q3, s4, q4, s5, q5⟩ := six_steps M4 (.int .i64 0) (.int .i64 0) (.int .i64 0) (.int .i64 0) (.slice none 0 0); (try unfold nv); (try unfold mxv); clear hb X3 b1 M4 h21) | fail)
  clear k0 k1 g0 g1 s0 q0 s1 q1 s2 q2 s3 q3 s4 q4 s5 q5 L1 X1 Z1
  have h21 := Cells.lt X2.out
  have h22 := Cells.lt Z2.out
  have A3 : Below w2.heap.size w2 (w2.alloc (.cells #[.int .i64 0, .int .i64 0, .int .i64 0, .int .i64 0, .slice none 0 0, .slice none 0 0] 39)) := (Below.refl _ w2).alloc (Nat.le_refl _) _
  have h23 : w2.heap.size ≤ (w2.alloc (.cells #[.int .i64 0, .int .i64 0, .int .i64 0, .int .i64 0, .slice none 0 0, .slice none 0 0] 39)).heap.size := A3.size
  obtain ⟨w4, b1, b2, X5, Z5, L5⟩ := two_six (base := w.heap.size) (Cells.below X2.out A3) (Cells.below Z2.out A3) (q := w2.heap.size) (by omega) (by omega) (by omega) (.int .i64 0) (.slice none 0 0) (.int .i64 0) (.int .i64 0) (.int .i64 0) (.int .i64 0) (.slice none 0 0) (.slice none 0 0) (by omega) (by omega) (by omega)
  have L5 := Lib.hid (L2.out.trans ((A3.mono L2.out.size).trans L5))
  clear A3 h23 b1 b2 L2 X2 Z2
  generalize (((((((((w2.alloc (.cells #[.int .i64 0, .int .i64 0, .int .i64 0, .int .i64 0, .slice none 0 0, .slice none 0 0] 39)).setCell ⟨w.heap.size, 0, none⟩ (.int .i64 0)).setCell ⟨w.heap.size, 1, none⟩ (.slice none 0 0)).setCell ⟨w2.heap.size, 0, none⟩ (.int .i64 0)).setCell ⟨w2.heap.size, 1, none⟩ (.int .i64 0)).setCell ⟨w2.heap.size, 2, none⟩ (.int .i64 0)).setCell ⟨w2.heap.size, 3, none⟩ (.int .i64 0)).setCell ⟨w2.heap.size, 4, none⟩ (.slice none 0 0)).setCell ⟨w2.heap.size, 5, none⟩ (.slice none 0 0)) = w5 at *
  have X5 := Lib.hid X5
  have Z5 := Lib.hid Z5
  obtain ⟨k0, k1⟩ := NBox.cells X5.out
  have f0 := Cells.frozen Z5.out 0
  have f1 := Cells.frozen Z5.out 1
  obtain ⟨z0, z1⟩ := NBox.cells (cap := 0) Z5.out
  go_wp2_with fail
  have bt := Mov.set2 w5 (w.heap.size + 1) (.int .i64 0) (.slice none 0 0)
  have HZ := Cells.set2 Z5.out (.int .i64 0) (.slice none 0 0)
  refine bodyPost_ret_by (results_c1 rfl _ _ (w.heap.size + 1) _ _ _ _ rfl HZ Try.underlying28 rfl (by kernel_rfl)) rfl ?_
  exact ⟨rfl, L5.out.trans (bt.up L5.out.size (by omega))⟩

set_option maxRecDepth 100000 in
set_option maxHeartbeats 3200000 in
theorem drop_ok {w : World} {cap : Nat} {Q : Option Addr} {n c : Nat} {l : List Mx} (h : NetAt w Q n c l) (hn : n ≤ 5000) {j : Nat} {x : Mx} (hx : l[j]? = some x) :
    Calls Try.prog 32 #[nv cap Q n c, .int .i64 (j : Int)] w (GaveN1 w cap ((l.map Mx.p).eraseIdx j) 0) := by
  have HT := fun W (h : NetAt W Q n c l) => Lib.hid (take_ok (cap := cap) h hn hx)
  have HN := Lib.hid h
  have L1 : Hid (Below w.heap.size w ((w.alloc (.cells #[.int .i64 (cap : Int), .slice Q n c] 28)).alloc (.cells #[.int .i64 0, .slice none 0 0] 28))) := (((Below.refl _ w).alloc (by first | exact Nat.le_refl _ | (simp; try omega)) _).alloc (by first | exact Nat.le_refl _ | (simp; try omega)) _)
  have X1 : Hid (Cells ((w.alloc (.cells #[.int .i64 (cap : Int), .slice Q n c] 28)).alloc (.cells #[.int .i64 0, .slice none 0 0] 28)) (w.heap.size) 28 #[.int .i64 (cap : Int), .slice Q n c]) := by
    have := Cells.new w #[.int .i64 (cap : Int), .slice Q n c] 28
    (try simp only [World.size_alloc] at this)
    exact (Cells.alloc this _)
  have Z1 : Hid (Cells ((w.alloc (.cells #[.int .i64 (cap : Int), .slice Q n c] 28)).alloc (.cells #[.int .i64 0, .slice none 0 0] 28)) (w.heap.size + 1) 28 #[.int .i64 0, .slice none 0 0]) := by
    have := Cells.new (w.alloc (.cells #[.int .i64 (cap : Int), .slice Q n c] 28)) #[.int .i64 0, .slice none 0 0] 28
    (try simp only [World.size_alloc] at this)
    exact this
  have SZ : Hid (((w.alloc (.cells #[.int .i64 (cap : Int), .slice Q n c] 28)).alloc (.cells #[.int .i64 0, .slice none 0 0] 28)).heap.size = w.heap.size + 2) := by show _ = _; simp
  clear SZ h hx
  unfold nv at *
  go_enter Try.func32, Try.ntmps32
  go_upto_region 2 with (first | (go_at_call 30; refine (HT _ (HN.out.below L1.out)).out.mono ?_; rintro e w2 ⟨Q2, n2, c2, l2, y, rfl, hO, hP, -, -, -, -, -, hb⟩; have L2 := Lib.hid (L1.out.trans (hb.mono L1.out.size)); have X2 := Lib.hid (Cells.below X1.out hb); have Z2 := Lib.hid (Cells.below Z1.out hb); have X3 := Cells.alloc X2.out (.cells #[.int .i64 0, .int .i64 0, .int .i64 0, .int .i64 0, .slice none 0 0, .slice none 0 0] 39); obtain ⟨k0, k1⟩ := NBox.cells X3; have g0 := Cells.frozen X3 0; have g1 := Cells.frozen X3 1; have h21 := Cells.lt X2.out; have b1 : Mov [w.heap.size] (w2.alloc (.cells #[.int .i64 0, .int .i64 0, .int .i64 0, .int .i64 0, .slice none 0 0, .slice none 0 0] 39)) (((w2.alloc (.cells #[.int .i64 0, .int .i64 0, .int .i64 0, .int .i64 0, .slice none 0 0, .slice none 0 0] 39)).setCell ⟨w.heap.size, 0, none⟩ (.int .i64 (cap : Int))).setCell ⟨w.heap.size, 1, none⟩ (.slice Q2 n2 c2)) := Mov.set2 _ _ _ _; have M4 := Cells.mov (Cells.new w2 #[.int .i64 0, .int .i64 0, .int .i64 0, .int .i64 0, .slice none 0 0, .slice none 0 0] 39) b1 (by simp; omega); obtain ⟨s0, q0, s1, q1, s2, q2, s3, q3, s4, q4, s5, q5⟩ := six_steps M4 (.int .i64 y.k) (.int .i64 y.f) (.int .i64 y.t) (.int .i64 y.i) (.slice y.A y.n y.c); have N2 := Lib.hid ((hO.lower L1.out.size).base_ L1.out.size); have NW : Hid (∀ x ∈ l2, ∀ q, Bl x q → w.heap.size + 2 ≤ q) := (fun x hx q hq => by have h1 := hO.low x hx q hq; simp at h1; omega); have LP := Lib.hid hP; (try unfold nv); (try unfold mxv); clear hb X3 b1 M4 h21 hO hP) | fail)
  clear k0 k1 g0 g1 s0 q0 s1 q1 s2 q2 s3 q3 s4 q4 s5 q5 L1 X1 Z1
  have h21 := Cells.lt X2.out
  have h22 := Cells.lt Z2.out
  have A3 : Below w2.heap.size w2 (w2.alloc (.cells #[.int .i64 0, .int .i64 0, .int .i64 0, .int .i64 0, .slice none 0 0, .slice none 0 0] 39)) := (Below.refl _ w2).alloc (Nat.le_refl _) _
  have h23 : w2.heap.size ≤ (w2.alloc (.cells #[.int .i64 0, .int .i64 0, .int .i64 0, .int .i64 0, .slice none 0 0, .slice none 0 0] 39)).heap.size := A3.size
  obtain ⟨w4, b1, b2, X5, Z5, L5⟩ := two_six (base := w.heap.size) (Cells.below X2.out A3) (Cells.below Z2.out A3) (q := w2.heap.size) (by omega) (by omega) (by omega) (.int .i64 (cap : Int)) (.slice Q2 n2 c2) (.int .i64 y.k) (.int .i64 y.f) (.int .i64 y.t) (.int .i64 y.i) (.slice y.A y.n y.c) (.slice y.B y.m y.d) (by omega) (by omega) (by omega)
  have N5 := Lib.hid ((((N2.out.below A3).mov (Cells.below X2.out A3) (by decide) (fun x hx q hq => by have h1 := NW.out x hx q hq; omega) b1)).mov_ (fun e => by have h1 := (N2.out.own.lt _ e).2; omega) (fun x hx q hq => by have h1 := (N2.out.at_ x hx).lt hq; omega) b2)
  have NZ : Hid (∀ x ∈ l2, ∀ q, Bl x q → q ≠ w.heap.size + 1) := fun x hx q hq => by have h1 := NW.out x hx q hq; omega
  clear N2 NW
  have L5 := Lib.hid (L2.out.trans ((A3.mono L2.out.size).trans L5))
  clear A3 h23 b1 b2 L2 X2 Z2
  generalize (((((((((w2.alloc (.cells #[.int .i64 0, .int .i64 0, .int .i64 0, .int .i64 0, .slice none 0 0, .slice none 0 0] 39)).setCell ⟨w.heap.size, 0, none⟩ (.int .i64 (cap : Int))).setCell ⟨w.heap.size, 1, none⟩ (.slice Q2 n2 c2)).setCell ⟨w2.heap.size, 0, none⟩ (.int .i64 y.k)).setCell ⟨w2.heap.size, 1, none⟩ (.int .i64 y.f)).setCell ⟨w2.heap.size, 2, none⟩ (.int .i64 y.t)).setCell ⟨w2.heap.size, 3, none⟩ (.int .i64 y.i)).setCell ⟨w2.heap.size, 4, none⟩ (.slice y.A y.n y.c)).setCell ⟨w2.heap.size, 5, none⟩ (.slice y.B y.m y.d)) = w5 at *
  have X5 := Lib.hid X5
  have Z5 := Lib.hid Z5
  obtain ⟨k0, k1⟩ := NBox.cells X5.out
  have f0 := Cells.frozen Z5.out 0
  have f1 := Cells.frozen Z5.out 1
  obtain ⟨z0, z1⟩ := NBox.cells (cap := 0) Z5.out
  go_wp2_with fail
  have bt := Mov.set2 w5 (w.heap.size + 1) (.int .i64 (cap : Int)) (.slice Q2 n2 c2)
  have HZ := Cells.set2 Z5.out (.int .i64 (cap : Int)) (.slice Q2 n2 c2)
  refine bodyPost_ret_by (results_c1 rfl _ _ (w.heap.size + 1) _ _ _ _ rfl HZ Try.underlying28 rfl (by kernel_rfl)) rfl ?_
  exact ⟨Q2, n2, c2, l2, rfl, N5.out.mov Z5.out (by decide) NZ.out bt, LP.out, L5.out.trans (bt.up L5.out.size (by omega))⟩
end Net
end Go.Proofs.Ytamahknnppjegaa
