/-
  WALKS: two devices, two answers, that are the same in plain: the document's Same, zns's Same, SameDone.
-/
import Derived.Test.YtbmblgjilmgkeaaZnsAll
import Derived.Test.YtbmblgjilmgkeaaZonRefS
namespace Go.Proofs.Ytbmblgjilmgkeaa
open Go.RowKit Mem Zon
namespace Zns

/-! ### Zones, answers -/
theorem same_eq {x y : Zn} {A B : Option Addr} {c d : Nat} {w : World} (h1 : Row cb w A x.data.length c x.data) (h2 : Row cb w B y.data.length d y.data) (e : x = y) :
    Calls Try.prog 15 #[zv x A c, zv y B d] w fun e w' => e = .returned (.bool true) ∧ Below w.heap.size w w' := by
  have := same_any h1 h2
  rwa [(sameZ_iff x y).2 e] at this

set_option maxRecDepth 100000 in
theorem bytesEqual_any {A B : Option Addr} {n c m d : Nat} {l : List B8} {w : World} (h1 : Row cb w A n c l) (h2 : Row cb w B m d l) :
    Calls Try.prog 35 #[.slice A n c, .slice B m d] w fun e w' => e = .returned (.bool true) ∧ w' = w := by
  have hs1 := run_str h1
  have hs2 := run_str h2
  have hb : ((str l).toList == (str l).toList) = true := by simp
  generalize str l = s at *
  clear h1 h2
  go_enter Try.func35, Try.ntmps35
  go_wp2_with fail
  go_ret
  exact ⟨rfl, rfl⟩

set_option maxRecDepth 100000 in
set_option maxHeartbeats 1600000 in
theorem sameZone_eq {x y : Zn} {A B : Option Addr} {c d : Nat} {w : World} (h1 : Row cb w A x.data.length c x.data) (h2 : Row cb w B y.data.length d y.data) (e : x = y) :
    Calls Try.prog 31 #[zv x A c, zv y B d] w fun e w' => e = .returned (.bool true) ∧ Below w.heap.size w w' := by
  subst e
  have H1 := Lib.hid h1
  have H2 := Lib.hid h2
  have L1 : Hid (Below w.heap.size w ((w.alloc (.cells #[.int .i64 x.st, .int .i64 x.fc, .slice A x.data.length c] 42)).alloc (.cells #[.int .i64 x.st, .int .i64 x.fc, .slice B x.data.length d] 42))) := ((Below.refl w.heap.size w).alloc (Nat.le_refl _) _).alloc (by simp) _
  have B1 : Hid (Box ((w.alloc (.cells #[.int .i64 x.st, .int .i64 x.fc, .slice A x.data.length c] 42)).alloc (.cells #[.int .i64 x.st, .int .i64 x.fc, .slice B x.data.length d] 42)) w.heap.size x A c) := heap_alloc2_old w _ _
  have B2 : Hid (Box ((w.alloc (.cells #[.int .i64 x.st, .int .i64 x.fc, .slice A x.data.length c] 42)).alloc (.cells #[.int .i64 x.st, .int .i64 x.fc, .slice B x.data.length d] 42)) (w.heap.size + 1) x B d) := heap_alloc2_new w _ _
  have HE := fun w (h1 : Row cb w A x.data.length c x.data) (h2 : Row cb w B x.data.length d x.data) => bytesEqual_any h1 h2
  have b1 : (x.st == x.st) = true := by simp
  have b2 : (x.fc == x.fc) = true := by simp
  unfold zv at *
  clear h1 h2
  go_enter Try.func31, Try.ntmps31
  go_upto_region 1 with fail
  generalize (w.alloc (.cells #[.int .i64 x.st, .int .i64 x.fc, .slice A x.data.length c] 42)).alloc (.cells #[.int .i64 x.st, .int .i64 x.fc, .slice B x.data.length d] 42) = w1 at *
  obtain ⟨c0, c1, c2⟩ := B1.out.cells
  obtain ⟨d0, d1, d2⟩ := B2.out.cells
  go_wp2_with fail
  refine (HE w1 (H1.out.below L1.out) (H2.out.below L1.out)).mono ?_
  rintro e w2 ⟨rfl, rfl⟩
  go_wp2_with fail
  go_ret
  exact ⟨rfl, L1.out⟩

set_option maxRecDepth 100000 in
set_option maxHeartbeats 1600000 in
theorem sameDone_eq {x y : Ex} {w : World} (h1 : DoneAt w x) (h2 : DoneAt w y) (e : x.p = y.p) :
    Calls Try.prog 20 #[exv x, exv y] w fun e w' => e = .returned (.bool true) ∧ Below w.heap.size w w' := by
  obtain ⟨⟨xe, xa, xb⟩, A, c⟩ := x
  obtain ⟨p, B, d⟩ := y
  obtain rfl : (⟨xe, xa, xb⟩ : Dn) = p := e
  have H1 : Hid (Row cb w A xb.length c xb) := h1
  have H2 : Hid (Row cb w B xb.length d xb) := h2
  have L1 : Hid (Below w.heap.size w ((w.alloc (.cells #[.int .i64 xe, .int .i64 xa, .slice A xb.length c] 38)).alloc (.cells #[.int .i64 xe, .int .i64 xa, .slice B xb.length d] 38))) := ((Below.refl w.heap.size w).alloc (Nat.le_refl _) _).alloc (by simp) _
  have B1 : Hid (EBox ((w.alloc (.cells #[.int .i64 xe, .int .i64 xa, .slice A xb.length c] 38)).alloc (.cells #[.int .i64 xe, .int .i64 xa, .slice B xb.length d] 38)) w.heap.size xe xa A xb.length c) := heap_alloc2_old w _ _
  have B2 : Hid (EBox ((w.alloc (.cells #[.int .i64 xe, .int .i64 xa, .slice A xb.length c] 38)).alloc (.cells #[.int .i64 xe, .int .i64 xa, .slice B xb.length d] 38)) (w.heap.size + 1) xe xa B xb.length d) := heap_alloc2_new w _ _
  have b1 : (xe == xe) = true := by simp
  have b2 : (xa == xa) = true := by simp
  have hs1 := fun w (h : Row cb w A xb.length c xb) => run_str h
  have hs2 := fun w (h : Row cb w B xb.length d xb) => run_str h
  have hb : ((str xb).toList == (str xb).toList) = true := by simp
  generalize str xb = s at *
  unfold exv at *
  dsimp only
  clear h1 h2
  go_enter Try.func20, Try.ntmps20
  go_upto_region 1 with fail
  generalize (w.alloc (.cells #[.int .i64 xe, .int .i64 xa, .slice A xb.length c] 38)).alloc (.cells #[.int .i64 xe, .int .i64 xa, .slice B xb.length d] 38) = w1 at *
  obtain ⟨c0, c1, c2⟩ := B1.out.cells
  obtain ⟨d0, d1, d2⟩ := B2.out.cells
  have k1 := hs1 w1 (H1.out.below L1.out)
  have k2 := hs2 w1 (H2.out.below L1.out)
  clear hs1 hs2
  go_wp2_with fail
  go_ret
  exact ⟨rfl, L1.out⟩

/-! ### Devices -/
/-- Two devices in blocks of their own. -/
theorem two_dev (w : World) (cap op ac : Int) (A B : Option Addr) (n c m d : Nat) :
    Hid (Below w.heap.size w ((w.alloc (.cells #[.int .i64 cap, .int .i64 op, .int .i64 ac, .slice A n c] 25)).alloc (.cells #[.int .i64 cap, .int .i64 op, .int .i64 ac, .slice B m d] 25))) ∧
    Hid (Cells ((w.alloc (.cells #[.int .i64 cap, .int .i64 op, .int .i64 ac, .slice A n c] 25)).alloc (.cells #[.int .i64 cap, .int .i64 op, .int .i64 ac, .slice B m d] 25)) w.heap.size 25 #[.int .i64 cap, .int .i64 op, .int .i64 ac, .slice A n c]) ∧
    Hid (Cells ((w.alloc (.cells #[.int .i64 cap, .int .i64 op, .int .i64 ac, .slice A n c] 25)).alloc (.cells #[.int .i64 cap, .int .i64 op, .int .i64 ac, .slice B m d] 25)) (w.heap.size + 1) 25 #[.int .i64 cap, .int .i64 op, .int .i64 ac, .slice B m d]) :=
  ⟨((Below.refl w.heap.size w).alloc (Nat.le_refl _) _).alloc (by simp) _, heap_alloc2_old w _ _, heap_alloc2_new w _ _⟩
theorem dev_cells {w : World} {g : Nat} {cap op ac : Int} {A : Option Addr} {n c : Nat} (h : Cells w g 25 #[.int .i64 cap, .int .i64 op, .int .i64 ac, .slice A n c]) :
    w.cell? ⟨g, 0, none⟩ = some (.int .i64 cap) ∧ w.cell? ⟨g, 1, none⟩ = some (.int .i64 op) ∧ w.cell? ⟨g, 2, none⟩ = some (.int .i64 ac) ∧ w.cell? ⟨g, 3, none⟩ = some (.slice A n c) := ⟨Cells.cell h 0, Cells.cell h 1, Cells.cell h 2, Cells.cell h 3⟩

set_option maxRecDepth 100000 in
set_option maxHeartbeats 3200000 in
theorem equalFunc_eq {A B : Option Addr} {n c d : Nat} {xs ys : List Zv} {w : World} (h1 : RowS cellsZ 3 w A n c xs) (h2 : RowS cellsZ 3 w B n d ys) (g1 : ∀ x ∈ xs, Row cb w x.D x.z.data.length x.c x.z.data) (g2 : ∀ x ∈ ys, Row cb w x.D x.z.data.length x.c x.z.data) (e : xs.map Zv.z = ys.map Zv.z) :
    Calls Try.prog 30 #[.slice A n c, .slice B n d, .func (.func 31) #[] #[]] w fun e w' => e = .returned (.bool true) ∧ Below w.heap.size w w' := by
  have H1 := Lib.hid h1
  have H2 := Lib.hid h2
  have G1 := Lib.hid g1
  have G2 := Lib.hid g2
  have HEQ := Lib.hid e
  have hbig := h1.big
  have HS := fun (x y : Zn) A B c d w (h1 : Row cb w A x.data.length c x.data) (h2 : Row cb w B y.data.length d y.data) (e : x = y) => Lib.hid (sameZone_eq h1 h2 e)
  unfold zv at HS
  clear h1 h2 g1 g2 e
  go_enter Try.func30, Try.ntmps30
  go_wp2_with fail
  go_loopw [17] (fun i wr => ∃ k : Nat, i = .int .i64 k ∧ k ≤ n ∧ Hid (Below w.heap.size w wr)) (fun i _ => n - (intOf i).toNat)
  case atStart => exact ⟨0, rfl, by omega, Below.refl _ _⟩
  case round =>
    obtain ⟨k, rfl, hk, hH⟩ := hrel
    by_cases hlt : k < n
    · obtain ⟨x, hx⟩ := H1.out.get hlt
      obtain ⟨y, hy⟩ := H2.out.get hlt
      have hxy : Hid (x.z = y.z) := by
        have h1 : (xs.map Zv.z)[k]? = some x.z := by rw [List.getElem?_map, hx]; rfl
        have h2 : (ys.map Zv.z)[k]? = some y.z := by rw [List.getElem?_map, hy]; rfl
        rw [HEQ.out, h2] at h1
        show _ = _
        injection h1 with h1
        exact h1.symm
      obtain ⟨b, o, rfl, hb, hc⟩ := H1.out.elem hx
      obtain ⟨b', o', rfl, hb', hc'⟩ := H2.out.elem hy
      have c0 : wr.cell? ⟨b, o + k * 3, none⟩ = some (.int .i64 x.z.st) := hc wr (hH.out.block b hb) 0 _ rfl
      have c1 : wr.cell? ⟨b, o + k * 3 + 1, none⟩ = some (.int .i64 x.z.fc) := hc wr (hH.out.block b hb) 1 _ rfl
      have c2 : wr.cell? ⟨b, o + k * 3 + 2, none⟩ = some (.slice x.D x.z.data.length x.c) := hc wr (hH.out.block b hb) 2 _ rfl
      have HC' := Lib.hid hc'
      have hk0 : (0 : Int) ≤ (k : Int) := by omega
      have hk1 : (k : Int) < (n : Int) := by omega
      have RX := Lib.hid ((G1.out x (List.mem_of_getElem? hx)).below hH.out)
      have RY := Lib.hid ((G2.out y (List.mem_of_getElem? hy)).below hH.out)
      have b1 : Below wr.heap.size wr (wr.alloc (.cells #[.int .i64 x.z.st, .int .i64 x.z.fc, .slice x.D x.z.data.length x.c] 42)) := (Below.refl _ wr).alloc (Nat.le_refl _) _
      have L6 := Lib.hid (hH.out.trans (b1.mono hH.out.size))
      have X6 : Hid (Box (wr.alloc (.cells #[.int .i64 x.z.st, .int .i64 x.z.fc, .slice x.D x.z.data.length x.c] 42)) wr.heap.size x.z x.D x.c) := Box.new wr x.z x.D x.c
      have RX6 := Lib.hid (RX.out.below b1)
      have RY6 := Lib.hid (RY.out.below b1)
      have hbb := Lib.hid hb'
      clear hc hc' hx hy hb b1 RX RY hb'
      go_upto_region 6 with fail
      clear c0 c1 c2
      generalize wr.alloc (.cells #[.int .i64 x.z.st, .int .i64 x.z.fc, .slice x.D x.z.data.length x.c] 42) = w6 at *
      generalize wr.heap.size = g6 at *
      have c0 : w6.cell? ⟨b', o' + k * 3, none⟩ = some (.int .i64 y.z.st) := HC'.out w6 (L6.out.block b' hbb.out) 0 _ rfl
      have c1 : w6.cell? ⟨b', o' + k * 3 + 1, none⟩ = some (.int .i64 y.z.fc) := HC'.out w6 (L6.out.block b' hbb.out) 1 _ rfl
      have c2 : w6.cell? ⟨b', o' + k * 3 + 2, none⟩ = some (.slice y.D y.z.data.length y.c) := HC'.out w6 (L6.out.block b' hbb.out) 2 _ rfl
      have b1 : Below w6.heap.size w6 (w6.alloc (.cells #[.int .i64 y.z.st, .int .i64 y.z.fc, .slice y.D y.z.data.length y.c] 42)) := (Below.refl _ w6).alloc (Nat.le_refl _) _
      have L7 := Lib.hid (L6.out.trans (b1.mono L6.out.size))
      have X7 := Lib.hid (X6.out.below b1)
      have Y7 : Hid (Box (w6.alloc (.cells #[.int .i64 y.z.st, .int .i64 y.z.fc, .slice y.D y.z.data.length y.c] 42)) w6.heap.size y.z y.D y.c) := Box.new w6 y.z y.D y.c
      have RX7 := Lib.hid (RX6.out.below b1)
      have RY7 := Lib.hid (RY6.out.below b1)
      clear b1 L6 X6 RX6 RY6 HC'
      go_upto_region 7 with fail
      clear c0 c1 c2
      generalize w6.alloc (.cells #[.int .i64 y.z.st, .int .i64 y.z.fc, .slice y.D y.z.data.length y.c] 42) = w7 at *
      generalize w6.heap.size = g7 at *
      obtain ⟨c0, c1, c2⟩ := X7.out.cells
      obtain ⟨d0, d1, d2⟩ := Y7.out.cells
      go_wp2_with fail
      refine (HS x.z y.z x.D y.D x.c y.c w7 RX7.out RY7.out hxy.out).out.mono ?_
      rintro e w8 ⟨rfl, hb⟩
      have L8 := Lib.hid (L7.out.trans (hb.mono L7.out.size))
      clear hb
      go_wp2_with fail
      go_roundw
      case rel => exact ⟨k + 1, by go_num, by omega, L8.out⟩
      case measure => simp [intOf]; omega
    · obtain rfl : n = k := by omega
      go_wp2_with fail
      go_ret
      exact ⟨rfl, hH.out⟩

theorem same_parts {d x : Dx} {w : World} (h1 : DevAt w d) (h2 : DevAt w x) (e : d.p = x.p) : x.cap = d.cap ∧ x.op = d.op ∧ x.ac = d.ac ∧ x.n = d.n ∧ d.xs.map Zv.z = x.xs.map Zv.z := by
  unfold Dx.p at e
  injection e with e1 e2 e3 e4
  refine ⟨e1.symm, e2.symm, e3.symm, ?_, e4⟩
  have := congrArg List.length e4
  rw [List.length_map, List.length_map, h1.row.len, h2.row.len] at this
  exact this.symm

set_option maxRecDepth 100000 in
set_option maxHeartbeats 3200000 in
theorem znsSame_eq {d x : Dx} {w : World} (h1 : DevAt w d) (h2 : DevAt w x) (e : d.p = x.p) :
    Calls Try.prog 21 #[dxv d, dxv x] w fun e w' => e = .returned (.bool true) ∧ Below w.heap.size w w' := by
  obtain ⟨e1, e2, e3, e4, e5⟩ := same_parts h1 h2 e
  obtain ⟨cap, op, ac, A, n, c, xs⟩ := d
  obtain ⟨cap', op', ac', B, m, k, ys⟩ := x
  dsimp only at e1 e2 e3 e4 e5
  subst e1 e2 e3 e4
  have H1 := Lib.hid h1
  have H2 := Lib.hid h2
  have HE := fun w (h1 : DevAt w ⟨cap', op', ac', A, m, c, xs⟩) (h2 : DevAt w ⟨cap', op', ac', B, m, k, ys⟩) => Lib.hid (equalFunc_eq h1.row h2.row h1.data h2.data e5)
  obtain ⟨L1, B1, B2⟩ := two_dev w cap' op' ac' A B m c m k
  have b1 : (cap' == cap') = true := by simp
  have b2 : (op' == op') = true := by simp
  have b3 : (ac' == ac') = true := by simp
  unfold dxv at *
  dsimp only at *
  clear h1 h2 e e5
  go_enter Try.func21, Try.ntmps21
  go_upto_region 1 with fail
  generalize (w.alloc (.cells #[.int .i64 cap', .int .i64 op', .int .i64 ac', .slice A m c] 25)).alloc (.cells #[.int .i64 cap', .int .i64 op', .int .i64 ac', .slice B m k] 25) = w1 at *
  obtain ⟨c0, c1, c2, c3⟩ := dev_cells B1.out
  obtain ⟨d0, d1, d2, d3⟩ := dev_cells B2.out
  go_wp2_with fail
  refine (HE w1 (H1.out.below L1.out) (H2.out.below L1.out)).out.mono ?_
  rintro e w2 ⟨rfl, hb⟩
  have L2 := Lib.hid (L1.out.trans (hb.mono L1.out.size))
  clear hb
  go_wp2_with fail
  go_ret
  exact ⟨rfl, L2.out⟩

set_option maxRecDepth 100000 in
set_option maxHeartbeats 3200000 in
theorem refSame_eq {d x : Dx} {w : World} (h1 : DevAt w d) (h2 : DevAt w x) (e : d.p = x.p) :
    Calls Try.prog 11 #[dxv d, dxv x] w fun e w' => e = .returned (.bool true) ∧ Below w.heap.size w w' := by
  obtain ⟨e1, e2, e3, e4, e5⟩ := same_parts h1 h2 e
  obtain ⟨cap, op, ac, A, n, c, xs⟩ := d
  obtain ⟨cap', op', ac', B, m, k, ys⟩ := x
  dsimp only at e1 e2 e3 e4 e5
  subst e1 e2 e3 e4
  have H1 : Hid (RowS cellsZ 3 w A m c xs) := h1.row
  have H2 : Hid (RowS cellsZ 3 w B m k ys) := h2.row
  have G1 : Hid (∀ x ∈ xs, Row cb w x.D x.z.data.length x.c x.z.data) := h1.data
  have G2 : Hid (∀ x ∈ ys, Row cb w x.D x.z.data.length x.c x.z.data) := h2.data
  have HEQ := Lib.hid e5
  have hbig : m ≤ 140737488351232 := h1.row.big
  have HS := fun (x y : Zn) A B c d w (h1 : Row cb w A x.data.length c x.data) (h2 : Row cb w B y.data.length d y.data) (e : x = y) => Lib.hid (same_eq h1 h2 e)
  obtain ⟨L1, B1, B2⟩ := two_dev w cap' op' ac' A B m c m k
  have b1 : (cap' != cap') = false := by simp
  have b2 : (op' != op') = false := by simp
  have b3 : (ac' != ac') = false := by simp
  have b4 : ((m : Int) != (m : Int)) = false := by simp
  unfold dxv at *
  unfold zv at HS
  dsimp only at *
  clear h1 h2 e e5
  go_enter Try.func11, Try.ntmps11
  go_upto_region 1 with fail
  generalize (w.alloc (.cells #[.int .i64 cap', .int .i64 op', .int .i64 ac', .slice A m c] 25)).alloc (.cells #[.int .i64 cap', .int .i64 op', .int .i64 ac', .slice B m k] 25) = w1 at *
  obtain ⟨c0, c1, c2, c3⟩ := dev_cells B1.out
  obtain ⟨d0, d1, d2, d3⟩ := dev_cells B2.out
  go_wp2_with fail
  clear c0 c1 c2 c3 d0 d1 d2 d3
  go_loopw [37] (fun i wr => ∃ j : Nat, i = .int .i64 j ∧ j ≤ m ∧ Hid (Below w1.heap.size w1 wr)) (fun i _ => m - (intOf i).toNat)
  case atStart => exact ⟨0, rfl, by omega, Below.refl _ _⟩
  case round =>
    obtain ⟨j, rfl, hk, hH⟩ := hrel
    by_cases hlt : j < m
    · obtain ⟨x, hx⟩ := H1.out.get hlt
      obtain ⟨y, hy⟩ := H2.out.get hlt
      have hxy : Hid (x.z = y.z) := by
        have h1 : (xs.map Zv.z)[j]? = some x.z := by rw [List.getElem?_map, hx]; rfl
        have h2 : (ys.map Zv.z)[j]? = some y.z := by rw [List.getElem?_map, hy]; rfl
        rw [HEQ.out, h2] at h1
        show _ = _
        injection h1 with h1
        exact h1.symm
      obtain ⟨b, o, rfl, hb, hc⟩ := H1.out.elem hx
      obtain ⟨b', o', rfl, hb', hc'⟩ := H2.out.elem hy
      have LL := Lib.hid (L1.out.trans (hH.out.mono L1.out.size))
      have hk0 : (0 : Int) ≤ (j : Int) := by omega
      have hk1 : (j : Int) < (m : Int) := by omega
      have RX := Lib.hid ((G1.out x (List.mem_of_getElem? hx)).below LL.out)
      have RY := Lib.hid ((G2.out y (List.mem_of_getElem? hy)).below LL.out)
      have Q1 := Lib.hid (Cells.below B1.out hH.out)
      have Q2 := Lib.hid (Cells.below B2.out hH.out)
      have hcell : ∀ W : World, Below w.heap.size w W → Cells W w.heap.size 25 #[.int .i64 cap', .int .i64 op', .int .i64 ac', .slice (some ⟨b, o, none⟩) m c] → Cells W (w.heap.size + 1) 25 #[.int .i64 cap', .int .i64 op', .int .i64 ac', .slice (some ⟨b', o', none⟩) m k] →
          (W.cell? ⟨w.heap.size, 3, none⟩ = some (.slice (some ⟨b, o, none⟩) m c) ∧ W.cell? ⟨w.heap.size + 1, 3, none⟩ = some (.slice (some ⟨b', o', none⟩) m k)) ∧ (W.cell? ⟨b, o + j * 3, none⟩ = some (.int .i64 x.z.st) ∧ W.cell? ⟨b, o + j * 3 + 1, none⟩ = some (.int .i64 x.z.fc) ∧ W.cell? ⟨b, o + j * 3 + 2, none⟩ = some (.slice x.D x.z.data.length x.c)) ∧
          (W.cell? ⟨b', o' + j * 3, none⟩ = some (.int .i64 y.z.st) ∧ W.cell? ⟨b', o' + j * 3 + 1, none⟩ = some (.int .i64 y.z.fc) ∧ W.cell? ⟨b', o' + j * 3 + 2, none⟩ = some (.slice y.D y.z.data.length y.c)) := by
        intro W hW q1 q2
        exact ⟨⟨Cells.cell q1 3, Cells.cell q2 3⟩, ⟨hc W (hW.block b hb) 0 _ rfl, hc W (hW.block b hb) 1 _ rfl, hc W (hW.block b hb) 2 _ rfl⟩, ⟨hc' W (hW.block b' hb') 0 _ rfl, hc' W (hW.block b' hb') 1 _ rfl, hc' W (hW.block b' hb') 2 _ rfl⟩⟩
      clear hc hc' hx hy hb hb'
      go_upto_region 6 with fail
      have L2 : Hid (Below w.heap.size w wr.drew) := LL.out.drew
      have Q3 : Hid (Cells wr.drew w.heap.size 25 #[.int .i64 cap', .int .i64 op', .int .i64 ac', .slice (some ⟨b, o, none⟩) m c]) := Q1
      have Q4 : Hid (Cells wr.drew (w.heap.size + 1) 25 #[.int .i64 cap', .int .i64 op', .int .i64 ac', .slice (some ⟨b', o', none⟩) m k]) := Q2
      have RX2 : Hid (Row cb wr.drew x.D x.z.data.length x.c x.z.data) := RX.out.drew
      have RY2 : Hid (Row cb wr.drew y.D y.z.data.length y.c y.z.data) := RY.out.drew
      have LW : Hid (Below w1.heap.size w1 wr.drew) := hH.out.drew
      refine wp_region_held_drew (S := fun W => (W.cell? ⟨w.heap.size, 3, none⟩ = some (.slice (some ⟨b, o, none⟩) m c) ∧ W.cell? ⟨w.heap.size + 1, 3, none⟩ = some (.slice (some ⟨b', o', none⟩) m k)) ∧ (W.cell? ⟨b, o + j * 3, none⟩ = some (.int .i64 x.z.st) ∧ W.cell? ⟨b, o + j * 3 + 1, none⟩ = some (.int .i64 x.z.fc) ∧ W.cell? ⟨b, o + j * 3 + 2, none⟩ = some (.slice x.D x.z.data.length x.c)) ∧
          (W.cell? ⟨b', o' + j * 3, none⟩ = some (.int .i64 y.z.st) ∧ W.cell? ⟨b', o' + j * 3 + 1, none⟩ = some (.int .i64 y.z.fc) ∧ W.cell? ⟨b', o' + j * 3 + 2, none⟩ = some (.slice y.D y.z.data.length y.c)))
        (by kernel_rfl) (hcell _ L2.out Q3.out Q4.out) (fun hHeld => ?_)
      generalize wr.drew = w2 at *
      (first | (refine Reg.take 0 (v := ?_) rfl (by kernel_rfl) (by kernel_rfl) (by kernel_rfl) (fun _ _ _ h => h) (Or.inl ⟨by rfl, ?_⟩) (by assumption) ?_; rotate_left; (focus ((intro W hSW); (try dsimp only at hSW); (try go_split_ands); go_simp; (try (with_reducible rfl)); done))) | (refine Reg.take 0 (v := undef) rfl (by kernel_rfl) (by kernel_rfl) (by kernel_rfl) (fun _ _ _ h => h) (Or.inr ⟨by rfl, rfl⟩) (by assumption) ?_))
      (try simp only [Act.put, List.setIfInBounds_toArray, List.set_cons_zero, List.set_cons_succ])
      (first | (refine Reg.take 1 (v := ?_) rfl (by kernel_rfl) (by kernel_rfl) (by kernel_rfl) (fun _ _ _ h => h) (Or.inl ⟨by rfl, ?_⟩) (by assumption) ?_; rotate_left; (focus ((intro W hSW); (try dsimp only at hSW); (try go_split_ands); go_simp; (try (with_reducible rfl)); done))) | (refine Reg.take 1 (v := undef) rfl (by kernel_rfl) (by kernel_rfl) (by kernel_rfl) (fun _ _ _ h => h) (Or.inr ⟨by rfl, rfl⟩) (by assumption) ?_))
      (try simp only [Act.put, List.setIfInBounds_toArray, List.set_cons_zero, List.set_cons_succ])
      (first | (refine Reg.take 2 (v := ?_) rfl (by kernel_rfl) (by kernel_rfl) (by kernel_rfl) (fun _ _ _ h => h) (Or.inl ⟨by rfl, ?_⟩) (by assumption) ?_; rotate_left; (focus ((intro W hSW); (try dsimp only at hSW); (try go_split_ands); go_simp; (try (with_reducible rfl)); done))) | (refine Reg.take 2 (v := undef) rfl (by kernel_rfl) (by kernel_rfl) (by kernel_rfl) (fun _ _ _ h => h) (Or.inr ⟨by rfl, rfl⟩) (by assumption) ?_))
      (try simp only [Act.put, List.setIfInBounds_toArray, List.set_cons_zero, List.set_cons_succ])
      (first | (refine Reg.take 3 (v := ?_) rfl (by kernel_rfl) (by kernel_rfl) (by kernel_rfl) (fun _ _ _ h => h) (Or.inl ⟨by rfl, ?_⟩) (by assumption) ?_; rotate_left; (focus ((intro W hSW); (try dsimp only at hSW); (try go_split_ands); go_simp; (try (with_reducible rfl)); done))) | (refine Reg.take 3 (v := undef) rfl (by kernel_rfl) (by kernel_rfl) (by kernel_rfl) (fun _ _ _ h => h) (Or.inr ⟨by rfl, rfl⟩) (by assumption) ?_))
      (try simp only [Act.put, List.setIfInBounds_toArray, List.set_cons_zero, List.set_cons_succ])
      (first | (refine Reg.take 4 (v := ?_) rfl (by kernel_rfl) (by kernel_rfl) (by kernel_rfl) (fun _ _ _ h => h) (Or.inl ⟨by rfl, ?_⟩) (by assumption) ?_; rotate_left; (focus ((intro W hSW); (try dsimp only at hSW); (try go_split_ands); go_simp; (try (with_reducible rfl)); done))) | (refine Reg.take 4 (v := undef) rfl (by kernel_rfl) (by kernel_rfl) (by kernel_rfl) (fun _ _ _ h => h) (Or.inr ⟨by rfl, rfl⟩) (by assumption) ?_))
      (try simp only [Act.put, List.setIfInBounds_toArray, List.set_cons_zero, List.set_cons_succ])
      (first | (refine Reg.take 5 (v := ?_) rfl (by kernel_rfl) (by kernel_rfl) (by kernel_rfl) (fun _ _ _ h => h) (Or.inl ⟨by rfl, ?_⟩) (by assumption) ?_; rotate_left; (focus ((intro W hSW); (try dsimp only at hSW); (try go_split_ands); go_simp; (try (with_reducible rfl)); done))) | (refine Reg.take 5 (v := undef) rfl (by kernel_rfl) (by kernel_rfl) (by kernel_rfl) (fun _ _ _ h => h) (Or.inr ⟨by rfl, rfl⟩) (by assumption) ?_))
      (try simp only [Act.put, List.setIfInBounds_toArray, List.set_cons_zero, List.set_cons_succ])
      (first | (refine Reg.take 6 (v := ?_) rfl (by kernel_rfl) (by kernel_rfl) (by kernel_rfl) (fun _ _ _ h => h) (Or.inl ⟨by rfl, ?_⟩) (by assumption) ?_; rotate_left; (focus ((intro W hSW); (try dsimp only at hSW); (try go_split_ands); go_simp; (try (with_reducible rfl)); done))) | (refine Reg.take 6 (v := undef) rfl (by kernel_rfl) (by kernel_rfl) (by kernel_rfl) (fun _ _ _ h => h) (Or.inr ⟨by rfl, rfl⟩) (by assumption) ?_))
      (try simp only [Act.put, List.setIfInBounds_toArray, List.set_cons_zero, List.set_cons_succ])
      (first | (refine Reg.take 7 (v := ?_) rfl (by kernel_rfl) (by kernel_rfl) (by kernel_rfl) (fun _ _ _ h => h) (Or.inl ⟨by rfl, ?_⟩) (by assumption) ?_; rotate_left; (focus ((intro W hSW); (try dsimp only at hSW); (try go_split_ands); go_simp; (try (with_reducible rfl)); done))) | (refine Reg.take 7 (v := undef) rfl (by kernel_rfl) (by kernel_rfl) (by kernel_rfl) (fun _ _ _ h => h) (Or.inr ⟨by rfl, rfl⟩) (by assumption) ?_))
      (try simp only [Act.put, List.setIfInBounds_toArray, List.set_cons_zero, List.set_cons_succ])
      (first | (refine Reg.take 8 (v := ?_) rfl (by kernel_rfl) (by kernel_rfl) (by kernel_rfl) (fun _ _ _ h => h) (Or.inl ⟨by rfl, ?_⟩) (by assumption) ?_; rotate_left; (focus ((intro W hSW); (try dsimp only at hSW); (try go_split_ands); go_simp; (try (with_reducible rfl)); done))) | (refine Reg.take 8 (v := undef) rfl (by kernel_rfl) (by kernel_rfl) (by kernel_rfl) (fun _ _ _ h => h) (Or.inr ⟨by rfl, rfl⟩) (by assumption) ?_))
      (try simp only [Act.put, List.setIfInBounds_toArray, List.set_cons_zero, List.set_cons_succ])
      (first | (refine Reg.take 9 (v := ?_) rfl (by kernel_rfl) (by kernel_rfl) (by kernel_rfl) (fun _ _ _ h => h) (Or.inl ⟨by rfl, ?_⟩) (by assumption) ?_; rotate_left; (focus ((intro W hSW); (try dsimp only at hSW); (try go_split_ands); go_simp; (try (with_reducible rfl)); done))) | (refine Reg.take 9 (v := undef) rfl (by kernel_rfl) (by kernel_rfl) (by kernel_rfl) (fun _ _ _ h => h) (Or.inr ⟨by rfl, rfl⟩) (by assumption) ?_))
      (try simp only [Act.put, List.setIfInBounds_toArray, List.set_cons_zero, List.set_cons_succ])
      refine Reg.step 10 rfl (by kernel_rfl) (by rfl) (fun K hK => ?_)
      go_simp
      refine (HS x.z y.z x.D y.D x.c y.c w2 RX2.out RY2.out hxy.out).out.mono ?_
      rintro e w3 ⟨rfl, hb⟩
      have L3 := Lib.hid (L2.out.trans (hb.mono L2.out.size))
      have LW3 := Lib.hid (LW.out.trans (hb.mono LW.out.size))
      refine hK.out _ _ (hcell _ L3.out (Cells.below Q3.out hb) (Cells.below Q4.out hb)) (fun hHeld2 => ?_)
      clear hK K hb
      (try simp only [Act.put, List.setIfInBounds_toArray, List.set_cons_zero, List.set_cons_succ])
      (first | (refine Reg.take 11 (v := ?_) rfl (by kernel_rfl) (by kernel_rfl) (by kernel_rfl) (fun _ _ _ h => h) (Or.inl ⟨by rfl, ?_⟩) (by assumption) ?_; rotate_left; (focus ((intro W hSW); (try dsimp only at hSW); (try go_split_ands); go_simp; (try (with_reducible rfl)); done))) | (refine Reg.take 11 (v := undef) rfl (by kernel_rfl) (by kernel_rfl) (by kernel_rfl) (fun _ _ _ h => h) (Or.inr ⟨by rfl, rfl⟩) (by assumption) ?_))
      (try simp only [Act.put, List.setIfInBounds_toArray, List.set_cons_zero, List.set_cons_succ])
      refine wpAnyH_done (by kernel_rfl) ?_ _
      go_wp2_with fail
      go_roundw
      case rel => exact ⟨j + 1, by go_num, by omega, LW3.out⟩
      case measure => simp [intOf]; omega
    · obtain rfl : m = j := by omega
      go_wp2_with fail
      go_ret
      exact ⟨rfl, L1.out.trans (hH.out.mono L1.out.size)⟩
end Zns
end Go.Proofs.Ytbmblgjilmgkeaa
