/-
  A WALK: the document's own Copy of a device.
-/
import Derived.Test.YtbmblgjilmgkeaaZnsAll
import Derived.Test.YtbmblgjilmgkeaaZonRefA
namespace Go.Proofs.Ytbmblgjilmgkeaa
open Go.RowKit Mem Zon
namespace Zns

theorem zone_one (x : Zv) : ∀ u ∈ cellsZ x, u.oneCell' = true := by
  intro u hu
  simp only [cellsZ, List.mem_cons, List.not_mem_nil, or_false] at hu
  rcases hu with rfl | rfl | rfl <;> rfl

/-- While a device is copied: its first k zones stand in a row of one's own, their bytes too. -/
structure CI (w : World) (B : Nat) (cap op ac : Int) (A : Option Addr) (n c : Nat) (xs : List Zv) (k : Nat) (s : Value) (ys : List Zv) (wr : World) : Prop where
  below : Below w.heap.size w wr
  box : DBox wr w.heap.size ⟨cap, op, ac, A, n, c, xs⟩
  res : Cells wr (w.heap.size + 1) 25 #[.int .i64 0, .int .i64 0, .int .i64 0, .slice none 0 0]
  own : wr.ownsRow B 42 3 s k (ys.flatMap cellsZ)
  len : ys.length = k
  same : ys.map Zv.z = (xs.take k).map Zv.z
  data : ∀ y ∈ ys, Owns cb 5 B wr (.slice y.D y.z.data.length y.c) y.z.data.length y.z.data
  small : ∀ y ∈ ys, y.z.data.length ≤ 140737488351232
  low : w.heap.size + 1 < B
  up : B ≤ wr.heap.size
theorem CI.to {w wr w' : World} {B : Nat} {cap op ac : Int} {A : Option Addr} {n c : Nat} {xs : List Zv} {k : Nat} {s : Value} {ys : List Zv} (h : CI w B cap op ac A n c xs k s ys wr) (hb : Below wr.heap.size wr w') : CI w B cap op ac A n c xs k s ys w' :=
  ⟨h.below.trans (hb.mono h.below.size), h.box.below hb, Cells.below h.res hb, ⟨h.own.1, by
    rcases h.own.2 with hn | ⟨g, cap, cur, e1, e2, e3, r⟩
    · exact .inl hn
    · exact .inr ⟨g, cap, cur, e1, e2, (hb.block g (Array.getElem?_eq_some_iff.1 e3).1).trans e3, r⟩⟩, h.len, h.same, fun y hy => (h.data y hy).below hb, h.small, h.low, Nat.le_trans h.up hb.size⟩

theorem CI_next {w w4 w5 : World} {B : Nat} {cap op ac : Int} {A : Option Addr} {n c : Nat} {xs : List Zv} {k : Nat} {s : Value} {ys : List Zv} {x : Zv} {X : Option Addr} {q : Nat} {A' : Option Addr} {c' : Nat} (h : CI w B cap op ac A n c xs k s ys w4) (hx : xs[k]? = some x) (hX : Owns cb 5 B w4 (.slice X x.z.data.length q) x.z.data.length x.z.data) (hs : x.z.data.length ≤ 140737488351232)
    (hown : w5.ownsRow B 42 3 (.slice A' (k + 1) c') (k + 1) (ys.flatMap cellsZ ++ cellsZ ⟨x.z, X, q⟩)) (hb : Below B w4 w5) (ho : Oth 42 w4 w5) : CI w B cap op ac A n c xs (k + 1) (.slice A' (k + 1) c') (ys ++ [⟨x.z, X, q⟩]) w5 := by
  have hlow := h.low
  refine ⟨h.below.trans (hb.mono (by omega)), (hb.block _ (by omega)).trans h.box, (hb.block _ (by omega)).trans h.res, ?_, by rw [List.length_append, h.len]; rfl, ?_, fun y hy => ?_, fun y hy => ?_, hlow, Nat.le_trans h.up hb.size⟩
  · rw [List.flatMap_append]
    simpa using hown
  · rw [List.map_append, h.same, List.take_add_one, hx, Option.toList_some, List.map_append]; rfl
  · rcases List.mem_append.1 hy with hy | hy
    · exact Oth.owns (h.data y hy) ho (by decide)
    · rw [List.mem_singleton.1 hy]; exact Oth.owns hX ho (by decide)
  · rcases List.mem_append.1 hy with hy | hy
    · exact h.small y hy
    · rw [List.mem_singleton.1 hy]; exact hs
theorem CI_end {w wr : World} {B : Nat} {cap op ac : Int} {A S : Option Addr} {n c sc : Nat} {xs ys : List Zv} (h : CI w B cap op ac A n c xs n (.slice S n sc) ys wr) (_hl : xs.length = n) (hn : n ≤ 1000) : DevAt wr ⟨cap, op, ac, S, n, sc, ys⟩ ∧ (∀ q o, S = some ⟨q, o, none⟩ → B ≤ q) := by
  have hd : ∀ y ∈ ys, Row cb wr y.D y.z.data.length y.c y.z.data := fun y hy => (gave_row (h.data y hy) (h.small y hy)).1
  rcases h.own.2 with ⟨e1, e2⟩ | ⟨q, cap0, cur, e1, hq, hh, hnc, hcm, hs, ht⟩
  · injection e1 with e1 e3 e4
    subst e1 e4 e2
    have hy : ys = [] := List.eq_nil_of_length_eq_zero h.len
    subst hy
    exact ⟨⟨RowS.nil _ _ _, hd⟩, fun q o e => by cases e⟩
  · injection e1 with e1 e3 e4
    subst e1 e4
    have ho : OwnZ wr q 0 ys := by
      refine ⟨cur, hh, fun i x hx j u hu => ?_⟩
      have hj : j < 3 := by have := (List.getElem?_eq_some_iff.1 hu).1; simpa [cellsZ] using this
      have h1 := flat_get ys i j hj
      rw [hx] at h1
      simp only [Option.bind_some] at h1
      rw [hu, ← ht, List.getElem?_take] at h1
      split at h1
      · rw [Nat.zero_add]; simpa using h1
      · cases h1
    refine ⟨⟨⟨h.len, hnc, by show n ≤ _; omega, fun _ => ⟨q, 0, rfl, ho.lt, fun i x hx j u hu => ho.cell hx hu⟩⟩, hd⟩, fun q2 o2 e => ?_⟩
    injection e with e
    injection e with e
    omega
/-- Another block than the device's zones' may change, one that holds no bytes. -/
theorem dev_but {w w' : World} {b : Nat} {t : TypeId} {cs : Array Value} {d : Dx} (h : DevAt w d) (hc : Cells w b t cs) (hn : ∀ (j : Nat) (v : Value), cs[j]? = some v → ∀ x, v ≠ cb x) (hb : But b w w') (ha : ∀ q o, d.A = some ⟨q, o, none⟩ → q ≠ b) : DevAt w' d :=
  ⟨RowS.butBlock h.row (fun q o e _ => ha q o e) hb, fun y hy => Row.butBox (h.data y hy) hc hn hb⟩

set_option maxRecDepth 100000 in
set_option maxHeartbeats 6400000 in
theorem refCopy_any {d : Dx} {w : World} (h : DevAt w d) (hn : d.n ≤ 1000) :
    Calls Try.prog 19 #[dxv d] w fun e w' => ∃ Y : Dx, e = .returned (.agg #[.int .i64 Y.cap, .int .i64 Y.op, .int .i64 Y.ac, .slice Y.A Y.n Y.c]) ∧ DevAt w' Y ∧ Y.p = d.p ∧ Y.n = d.n ∧ Below w.heap.size w w' ∧ (∀ q o, Y.A = some ⟨q, o, none⟩ → w.heap.size ≤ q) := by
  obtain ⟨cap, op, ac, A, n, c, xs⟩ := d
  have HR : Hid (RowS cellsZ 3 w A n c xs) := h.row
  have HD : Hid (∀ x ∈ xs, Row cb w x.D x.z.data.length x.c x.z.data) := h.data
  have hn : n ≤ 1000 := hn
  have HC := fun (z : Zn) D c w (h : Row cb w D z.data.length c z.data) => Lib.hid (copy_any h)
  have L1 : Hid (Below w.heap.size w ((w.alloc (.cells #[.int .i64 cap, .int .i64 op, .int .i64 ac, .slice A n c] 25)).alloc (.cells #[.int .i64 0, .int .i64 0, .int .i64 0, .slice none 0 0] 25))) := ((Below.refl w.heap.size w).alloc (Nat.le_refl _) _).alloc (by simp) _
  have B1 : Hid (DBox ((w.alloc (.cells #[.int .i64 cap, .int .i64 op, .int .i64 ac, .slice A n c] 25)).alloc (.cells #[.int .i64 0, .int .i64 0, .int .i64 0, .slice none 0 0] 25)) w.heap.size ⟨cap, op, ac, A, n, c, xs⟩) := heap_alloc2_old w _ _
  have N1 : Hid (Cells ((w.alloc (.cells #[.int .i64 cap, .int .i64 op, .int .i64 ac, .slice A n c] 25)).alloc (.cells #[.int .i64 0, .int .i64 0, .int .i64 0, .slice none 0 0] 25)) (w.heap.size + 1) 25 #[.int .i64 0, .int .i64 0, .int .i64 0, .slice none 0 0]) := heap_alloc2_new w _ _
  unfold dxv
  unfold zv GaveZ1 at HC
  unfold zv at HC
  dsimp only
  clear h
  go_enter Try.func19, Try.ntmps19
  go_upto_region 1 with fail
  generalize (w.alloc (.cells #[.int .i64 cap, .int .i64 op, .int .i64 ac, .slice A n c] 25)).alloc (.cells #[.int .i64 0, .int .i64 0, .int .i64 0, .slice none 0 0] 25) = w1 at *
  have I1 : Hid (CI w w1.heap.size cap op ac A n c xs 0 (.slice none 0 0) [] w1) :=
    ⟨L1.out, B1.out, N1.out, World.ownsRow_nil _ _ _ _, rfl, rfl, fun y hy => (by cases hy), fun y hy => (by cases hy), Cells.lt N1.out, Nat.le_refl _⟩
  obtain ⟨m0, m1, m2, m3⟩ := B1.out.cells
  dsimp only at m0 m1 m2 m3
  have UB : Hid (w.heap.size + 1 < w1.heap.size) := Cells.lt N1.out
  generalize w1.heap.size = B at *
  go_wp2_with fail
  clear m0 m1 m2 m3 L1 B1 N1
  go_loopw [3, 9] (fun s i wr => ∃ (k : Nat) (S : Option Addr) (sc : Nat) (ys : List Zv), i = .int .i64 k ∧ s = .slice S k sc ∧ k ≤ n ∧ Hid (CI w B cap op ac A n c xs k (.slice S k sc) ys wr)) (fun _ i _ => n - (intOf i).toNat)
  case atStart => exact ⟨0, none, 0, [], rfl, rfl, by omega, I1.out⟩
  case round =>
    obtain ⟨k, S, sc, ys, rfl, rfl, hk, hI⟩ := hrel
    by_cases hlt : k < n
    · clear I1
      obtain ⟨x, hx⟩ := HR.out.get hlt
      obtain ⟨b, o, rfl, hb, hc⟩ := HR.out.elem hx
      have HX := Lib.hid hx
      have c0 : wr.cell? ⟨b, o + k * 3, none⟩ = some (.int .i64 x.z.st) := hc wr (hI.out.below.block b hb) 0 _ rfl
      have c1 : wr.cell? ⟨b, o + k * 3 + 1, none⟩ = some (.int .i64 x.z.fc) := hc wr (hI.out.below.block b hb) 1 _ rfl
      have c2 : wr.cell? ⟨b, o + k * 3 + 2, none⟩ = some (.slice x.D x.z.data.length x.c) := hc wr (hI.out.below.block b hb) 2 _ rfl
      have RX := Lib.hid (HD.out x (List.mem_of_getElem? hx))
      have hk0 : (0 : Int) ≤ (k : Int) := by omega
      have hk1 : (k : Int) < (n : Int) := by omega
      have b1 : Below wr.heap.size wr (wr.alloc (.cells #[.int .i64 x.z.st, .int .i64 x.z.fc, .slice x.D x.z.data.length x.c] 42)) := (Below.refl _ wr).alloc (Nat.le_refl _) _
      have I2 := Lib.hid (hI.out.to b1)
      have Z2 : Hid (Box (wr.alloc (.cells #[.int .i64 x.z.st, .int .i64 x.z.fc, .slice x.D x.z.data.length x.c] 42)) wr.heap.size x.z x.D x.c) := Box.new wr x.z x.D x.c
      clear hc hx hb b1 hI
      go_upto_region 5 with fail
      clear c0 c1 c2
      generalize wr.alloc (.cells #[.int .i64 x.z.st, .int .i64 x.z.fc, .slice x.D x.z.data.length x.c] 42) = w2 at *
      generalize wr.heap.size = gz at *
      obtain ⟨c0, c1, c2⟩ := Z2.out.cells
      go_wp2_with fail
      refine (HC x.z x.D x.c w2 (RX.out.below I2.out.below)).out.mono ?_
      rintro e w3 ⟨X, q, rfl, hX, hb⟩
      have b4 : Below w3.heap.size w3 (w3.alloc (.cells #[.int .i64 x.z.st, .int .i64 x.z.fc, .slice X x.z.data.length q] 42)) := (Below.refl _ w3).alloc (Nat.le_refl _) _
      have I4 := Lib.hid ((I2.out.to hb).to b4)
      have X4 := Lib.hid ((hX.mono I2.out.up).below b4)
      have V4 : Hid (w3.heap.size < (w3.alloc (.cells #[.int .i64 x.z.st, .int .i64 x.z.fc, .slice X x.z.data.length q] 42)).heap.size) := by show _ < _; simp
      have HXS := Lib.hid ((HD.out x (List.mem_of_getElem? HX.out)).big)
      have HONE : Hid (∀ j u, (cellsZ ⟨x.z, X, q⟩)[j]? = some u → (w3.alloc (.cells #[.int .i64 x.z.st, .int .i64 x.z.fc, .slice X x.z.data.length q] 42)).cell? ((⟨w3.heap.size, 0, none⟩ : Addr).add j) = some u) := by
        show ∀ _, _
        intro j u hu
        rw [add_none, cell_of_row _ w3.heap.size (0 + j) _ _ (0, 0) (heap_alloc_new w3 _)]
        simpa [cellsZ] using hu
      clear hX hb b4 c0 c1 c2 Z2
      go_wp2_with (at_builtin
                   refine wpList_append_wide Try.underlying23 info_zone rfl (by omega) rfl (.tmp 13) (.tmp 16) rfl rfl B (.slice S k sc) k _ rfl I4.out.own ⟨w3.heap.size, 0, none⟩ 1 1 (cellsZ ⟨x.z, X, q⟩) rfl rfl HONE.out (zone_one _) (by omega) (by omega) I4.out.up ?_
                   intro A' c' w5 hown hb ho
                   have N5 := Lib.hid (CI_next (x := x) (X := X) (q := q) I4.out HX.out X4.out HXS.out hown hb ho)
                   clear hown hb ho)
      go_roundw
      case rel => exact ⟨k + 1, A', c', _, by go_num, rfl, by omega, N5.out⟩
      case measure => simp [intOf]; omega
    · obtain rfl : n = k := by omega
      have I5 := hI
      clear I1 hI
      obtain ⟨m0, m1, m2, m3⟩ := I5.out.box.cells
      obtain ⟨f0, f1, f2, f3⟩ := I5.out.box.frozen
      dsimp only at m0 m1 m2 m3
      have hfin := Lib.hid (CI_end I5.out HR.out.len hn)
      go_upto_region 8 with fail
      have B6 : Hid (DBox (wr.setCell ⟨w.heap.size, 3, none⟩ (.slice S n sc)) w.heap.size ⟨cap, op, ac, S, n, sc, ys⟩) := Cells.set_ I5.out.box 3 (.slice S n sc)
      have N6 : Hid (Cells (wr.setCell ⟨w.heap.size, 3, none⟩ (.slice S n sc)) (w.heap.size + 1) 25 #[.int .i64 0, .int .i64 0, .int .i64 0, .slice none 0 0]) := Cells.set_other I5.out.res (by omega) _ _
      have T6 : Hid (But w.heap.size wr (wr.setCell ⟨w.heap.size, 3, none⟩ (.slice S n sc))) := But.set1 wr w.heap.size 3 _
      have L6 := Lib.hid (I5.out.below.setCell (p := ⟨w.heap.size, 3, none⟩) (Nat.le_refl _) (.slice S n sc))
      have D6 : Hid (DevAt (wr.setCell ⟨w.heap.size, 3, none⟩ (.slice S n sc)) ⟨cap, op, ac, S, n, sc, ys⟩) := dev_but hfin.out.1 I5.out.box (dev_not _ _ _ _ _ _) T6.out (fun q2 o2 e => by have := hfin.out.2 q2 o2 e; have := I5.out.low; omega)
      have HSM := Lib.hid I5.out.same
      have UB2 : Hid (w.heap.size + 1 < B) := I5.out.low
      clear I5 T6 m0 m1 m2 m3 f0 f1 f2 f3
      generalize wr.setCell ⟨w.heap.size, 3, none⟩ (.slice S n sc) = w6 at *
      obtain ⟨m0, m1, m2, m3⟩ := B6.out.cells
      dsimp only at m0 m1 m2 m3
      have v0 : w6.cell? ⟨w.heap.size + 1, 0, none⟩ = some (.int .i64 0) := Cells.cell N6.out 0
      have v1 : w6.cell? ⟨w.heap.size + 1, 1, none⟩ = some (.int .i64 0) := Cells.cell N6.out 1
      have v2 : w6.cell? ⟨w.heap.size + 1, 2, none⟩ = some (.int .i64 0) := Cells.cell N6.out 2
      have v3 : w6.cell? ⟨w.heap.size + 1, 3, none⟩ = some (.slice none 0 0) := Cells.cell N6.out 3
      have f0 : w6.frozen? ⟨w.heap.size + 1, 0, none⟩ = false := Cells.frozen N6.out 0
      have f1 : w6.frozen? ⟨w.heap.size + 1, 1, none⟩ = false := Cells.frozen N6.out 1
      have f2 : w6.frozen? ⟨w.heap.size + 1, 2, none⟩ = false := Cells.frozen N6.out 2
      have f3 : w6.frozen? ⟨w.heap.size + 1, 3, none⟩ = false := Cells.frozen N6.out 3
      go_wp2_with fail
      refine bodyPost_ret_by (results_cell_row rfl _ _ (w.heap.size + 1) _ _ _ _ rfl (Cells.set4 N6.out (.int .i64 cap) (.int .i64 op) (.int .i64 ac) (.slice S n sc)) Try.underlying25 rfl (by kernel_rfl)) rfl ?_
      refine ⟨⟨cap, op, ac, S, n, sc, ys⟩, rfl, dev_but D6.out N6.out (dev_not _ _ _ _ _ _) (But.set4 w6 (w.heap.size + 1) _ _ _ _) (fun q2 o2 e => by have := hfin.out.2 q2 o2 e; have := UB2.out; omega), ?_, rfl, below4 L6.out (by omega) _ _ _ _, fun q2 o2 e => by have := hfin.out.2 q2 o2 e; have := UB2.out; omega⟩
      have hfull : xs.take n = xs := List.take_of_length_le (by have := HR.out.len; omega)
      have h1 := HSM.out
      rw [hfull] at h1
      show Dv.mk _ _ _ _ = Dv.mk _ _ _ _
      rw [h1]
end Zns
end Go.Proofs.Ytbmblgjilmgkeaa
