/-
  THE STATEMENT ZoneKeeps: whatever is done with a zone, it may be; what is there stays, and where it is, until it is reset; Full it stays until then; the arguments stay as they were. For every input.
-/
import Derived.Test.YtfcehlipbdngbaaZonStepWalk
import Derived.Test.YtfcehlipbdngbaaCut
namespace Go.Proofs.Ytfcehlipbdngbaa
open Go.ChangeShapes Go.WideShapes Go.ChangeAt Go.RowKit Mem
namespace Args
open Zon
variable {H : Type} {enc : TypeId × Value → H} {W : World}

set_option maxRecDepth 100000 in
theorem raw_op {fuel : Nat} {cs : List Value} {x : DataW H × List MemPlace} (hf : DataW.trod enc Try.prog W 0 (fun _ => true) true fuel 38 cs = some x) (hl : cs.length = 4) (hs : ∀ q ∈ x.1.weights Try.prog 38, q ≤ reachBytes) :
    ∃ v : Ov, cs = cellsO v ∧ (Row cb W v.B v.b.length v.c v.b ∧ v.off ≤ 9223372036854775807) := by
  have hu := Try.underlying38
  match cs, hl with
  | [c0, c1, c2, c3], _ =>
    obtain ⟨xs, n, _, hx, _, hlen, hg⟩ := DataW.trod_struct hu hf
    have hxl : xs.length = 4 := hlen
    match xs, hxl with
    | [y0, y1, y2, y3], _ =>
      have o3 : Try.prog.cellsOf 3 = 1 := by kernel_rfl
      have o27 : Try.prog.cellsOf 22 = 1 := by kernel_rfl
      have g0 := hg 0 _ rfl
      have g1 := hg 1 _ rfl
      have g2 := hg 2 _ rfl
      have g3 := hg 3 _ rfl
      simp [o3, o27] at g0 g1 g2 g3
      obtain ⟨z0, h0, -, w0⟩ := DataW.trod_int Try.underlying3 g0
      obtain ⟨z2, h2, -, w2⟩ := DataW.trod_int Try.underlying3 g2
      obtain ⟨z3, h3, -, w3⟩ := DataW.trod_int Try.underlying3 g3
      simp only [List.cons.injEq, and_true] at h0 h2 h3
      subst h0 h2 h3
      subst hx
      obtain ⟨A, na, ca, l, h1, r1⟩ := raw_bytes_ g1 (fun q hq => by
        refine hs q ?_
        simp only [DataW.weights, hu]
        exact DataW.weights_mem_each (j := 1) rfl rfl q hq)
      simp only [List.cons.injEq, and_true] at h1
      subst h1
      obtain rfl : na = l.length := r1.len.symm
      exact ⟨⟨z0, l, z2, z3, A, ca⟩, rfl, r1, (i64_of w3).2⟩

theorem open_ops {v : Value} {d : DataW H} {p : List MemPlace} {base : Nat} (hok : Value.okWide Try.prog W .any base 36 v) (h : DataW.Trod enc Try.prog W 0 (fun _ => true) true 36 v d p)
    (hs : ∀ q ∈ d.weights Try.prog 36, q ≤ reachBytes) : ∃ A n c xs, v = .slice A n c ∧ RowS cellsO 4 W A n c xs ∧ ∀ x ∈ xs, Row cb W x.B x.b.length x.c x.b ∧ x.off ≤ 9223372036854775807 :=
  open_rowS (cells := cellsO) (k := 4) (bytes := 48) Try.underlying36 (by kernel_rfl) (by kernel_rfl) (by omega) (by omega) (fun _ _ _ h1 h2 h3 => raw_op h1 h2 h3) hok h hs
end Args
namespace Zon

/-- Bytes do not lie in a zone's own block. -/
theorem Row.store3 {w : World} {A : Option Addr} {n c : Nat} {l : List B8} (hr : Row cb w A n c l) {g : Nat} {z : Zn} {D : Option Addr} {c' : Nat} (hb : Box w g z D c') (x y v : Value) :
    Row cb (((w.setCell ⟨g, 0, none⟩ x).setCell ⟨g, 1, none⟩ y).setCell ⟨g, 2, none⟩ v) A n c l := by
  refine ⟨hr.len, hr.cap, hr.big, fun h0 => ?_⟩
  obtain ⟨b, o, e, hx, hc⟩ := hr.at_ h0
  have hne : b ≠ g := by
    intro hbg
    subst hbg
    obtain ⟨q, hq⟩ := hr.get h0
    have h1 := hc 0 q hq
    have h2 := Cells.cell hb (o + 0)
    rw [h1] at h2
    match o, h2 with
    | 0, h2 => simp [cb] at h2
    | 1, h2 => simp [cb] at h2
    | 2, h2 => simp [cb] at h2
    | o + 3, h2 => simp at h2
  have hh : (((w.setCell ⟨g, 0, none⟩ x).setCell ⟨g, 1, none⟩ y).setCell ⟨g, 2, none⟩ v).heap[b]? = w.heap[b]? :=
    ((Below.heap_setCell _ _ _ _ hne).trans (Below.heap_setCell _ _ _ _ hne)).trans (Below.heap_setCell _ _ _ _ hne)
  refine ⟨b, o, e, ?_, fun i q hi => ?_⟩
  · have h1 := hh
    rw [Array.getElem?_eq_getElem hx] at h1
    exact (Array.getElem?_eq_some_iff.1 h1).1
  · rw [World.cell?_of_block hh]
    exact hc i q hi

/-- What stands in memory while things are done with a zone. -/
structure KI (w : World) (gz : Nat) (most : Int) (z : Zn) (D : Option Addr) (c : Nat) (wr : World) : Prop where
  below : Below w.heap.size w wr
  box : Box wr gz z D c
  row : Row cb wr D z.data.length c z.data
  ok : okB z most = true
  fc : z.fc = 3
  low : w.heap.size ≤ gz
theorem KI.to {w : World} {gz : Nat} {most : Int} {z : Zn} {D : Option Addr} {c : Nat} {wr w' : World} (h : KI w gz most z D c wr) (hb : Below wr.heap.size wr w') : KI w gz most z D c w' :=
  ⟨h.below.trans (hb.mono h.below.size), h.box.below hb, h.row.below hb, h.ok, h.fc, h.low⟩

set_option maxRecDepth 100000 in
set_option maxHeartbeats 3200000 in
theorem zoneKeeps_skip (most : Int) (A : Option Addr) (n c : Nat) (w : World) (hn : 100 < n) :
    Calls Try.prog 4 #[.int .i64 most, .slice A n c] w fun e w' => e = .returned (.bool true) ∧ Below w.heap.size w w' := by
  have hn' : decide ((100 : Int) < (n : Int)) = true := by simp; omega
  go_enter Try.func4, Try.ntmps4
  go_wp2_with fail
  refine (live_any w).mono ?_
  rintro e w1 ⟨rfl, hb⟩
  have B1 := Lib.hid hb
  clear hb
  go_wp2_with fail
  go_ret
  exact ⟨rfl, B1.out⟩

set_option maxRecDepth 100000 in
set_option maxHeartbeats 6400000 in
theorem zoneKeeps_main (most : Int) (A : Option Addr) (n c : Nat) (xs : List Ov) (w : World) (hn : n ≤ 100) (hr : RowS cellsO 4 w A n c xs) (hp : ∀ x ∈ xs, Row cb w x.B x.b.length x.c x.b ∧ x.off ≤ 9223372036854775807) :
    Calls Try.prog 4 #[.int .i64 most, .slice A n c] w fun e w' => e = .returned (.bool true) ∧ Below w.heap.size w w' := by
  have HR := Lib.hid hr
  have HP := Lib.hid hp
  have hn' : decide ((100 : Int) < (n : Int)) = false := by simp; omega
  obtain ⟨r, j, k1, k2, k3, k4, k5, k6⟩ : ∃ (r : Int) (j : Nat), Int.tmod most 200 = r ∧ -200 < r ∧ r < 200 ∧ Int.tmod (r + 200) 200 = j ∧ (r + 200) % 200 = j ∧ j < 200 := Cut.cut_at most 200 (by omega)
  have hw1 : IntKind.i64.wrap (r + 200) = r + 200 := by rw [IntKind.wrap_i64]; omega
  have hw2 : IntKind.i64.wrap (1 + (j : Int)) = 1 + (j : Int) := by rw [IntKind.wrap_i64]; omega
  have HSt := fun (z : Zn) D q (o : Ov) w (h1 : Row cb w D z.data.length q z.data) (h2 : Row cb w o.B o.b.length o.c o.b) h3 h4 h5 => Lib.hid (step_any (z := z) (D := D) (c := q) (most := 1 + (j : Int)) (o := o) (w := w) h1 h2 h3 h4 h5)
  have HCk := fun (z : Zn) D q w => Lib.hid (refCheck_any z D q (1 + (j : Int)) w)
  clear hr hp
  unfold GaveR ov at *
  unfold zv at *
  go_enter Try.func4, Try.ntmps4
  go_wp2_with fail
  refine (live_any w).mono ?_
  rintro e w1 ⟨rfl, hb⟩
  have B1 := Lib.hid hb
  clear hb
  go_wp2_with fail
  have I2 : Hid (KI w w1.heap.size (1 + (j : Int)) ⟨0, 3, []⟩ none 0 (w1.alloc (.cells #[.int .i64 0, .int .i64 3, .slice none 0 0] 24))) :=
    ⟨B1.out.alloc B1.out.size _, Box.new w1 ⟨0, 3, []⟩ none 0, Row.empty _ _ _ _, by rw [ok_iff (by omega) (by omega) (by show (0 : Int) ≤ 3; omega)]; rfl, rfl, B1.out.size⟩
  generalize w1.alloc (.cells #[.int .i64 0, .int .i64 3, .slice none 0 0] 24) = w2 at *
  generalize w1.heap.size = gz at *
  go_loopw [24] (fun i wr => ∃ (k : Nat) (z : Zn) (D : Option Addr) (q : Nat), i = .int .i64 k ∧ k ≤ n ∧ Hid (KI w gz (1 + (j : Int)) z D q wr)) (fun i _ => n - (intOf i).toNat)
  case atStart => exact ⟨0, _, _, _, rfl, by omega, I2.out⟩
  case round =>
    obtain ⟨k, z, D, q, rfl, hk, hI⟩ := hrel
    by_cases hlt : k < n
    · obtain ⟨o, ho⟩ := HR.out.get hlt
      obtain ⟨b, oo, rfl, hbl, hc⟩ := HR.out.elem ho
      obtain ⟨hrow, hoff⟩ := HP.out o (List.mem_of_getElem? ho)
      have c0 : wr.cell? ⟨b, oo + k * 4, none⟩ = some (.int .i64 o.d) := hc wr (hI.out.below.block b hbl) 0 _ rfl
      have c1 : wr.cell? ⟨b, oo + k * 4 + 1, none⟩ = some (.slice o.B o.b.length o.c) := hc wr (hI.out.below.block b hbl) 1 _ rfl
      have c2 : wr.cell? ⟨b, oo + k * 4 + 2, none⟩ = some (.int .i64 o.n) := hc wr (hI.out.below.block b hbl) 2 _ rfl
      have c3 : wr.cell? ⟨b, oo + k * 4 + 3, none⟩ = some (.int .i64 o.off) := hc wr (hI.out.below.block b hbl) 3 _ rfl
      have hk0 : (0 : Int) ≤ (k : Int) := by omega
      have hk1 : (k : Int) < (n : Int) := by omega
      have HB := Lib.hid hrow
      have hoff := Lib.hid hoff
      have I3 := Lib.hid (hI.out.to ((Below.refl wr.heap.size wr).alloc (Nat.le_refl _) (.cells #[.int .i64 o.d, .slice o.B o.b.length o.c, .int .i64 o.n, .int .i64 o.off] 38)))
      have O3 : Hid (Cells (wr.alloc (.cells #[.int .i64 o.d, .slice o.B o.b.length o.c, .int .i64 o.n, .int .i64 o.off] 38)) wr.heap.size 38 #[.int .i64 o.d, .slice o.B o.b.length o.c, .int .i64 o.n, .int .i64 o.off]) := Cells.new wr _ _
      clear hc hrow ho
      go_upto_region 9 with fail
      clear c0 c1 c2 c3
      generalize wr.alloc (.cells #[.int .i64 o.d, .slice o.B o.b.length o.c, .int .i64 o.n, .int .i64 o.off] 38) = w3 at *
      generalize wr.heap.size = g8 at *
      have o0 := O3.out.cell 0
      have o1 := O3.out.cell 1
      have o2 := O3.out.cell 2
      have o3 := O3.out.cell 3
      simp at o0 o1 o2 o3
      by_cases hbig : 1000 < o.b.length
      · have hbig' : decide ((1000 : Int) < (o.b.length : Int)) = true := by simp; omega
        go_wp2_with fail
        go_ret
        exact ⟨rfl, I3.out.below⟩
      · have hbig' : decide ((1000 : Int) < (o.b.length : Int)) = false := by simp; omega
        have HLow := Lib.hid I3.out.low
        have hzl : z.data.length ≤ 300 := by
          obtain ⟨-, -, -, -, h5⟩ := ok_parts I3.out.ok
          unfold Zn.len at h5
          omega
        obtain ⟨x0, x1, x2⟩ := I3.out.box.cells
        go_wp2_with fail
        refine (HSt z D q o w3 I3.out.row (HB.out.below I3.out.below) hoff.out (by omega) (by omega)).out.mono ?_
        rintro e w4 ⟨X, q1, rfl, hX, hb⟩
        unfold zv at *
        have HK := Lib.hid (fun h => step_keeps (o := o) I3.out.ok h)
        have HNl := Lib.hid (fun h1 h2 h3 => step_nil (z := z) (most := 1 + (j : Int)) (o := o) h1 h2 h3)
        generalize stepZ z (1 + (j : Int)) o = x at *
        generalize stepE z (1 + (j : Int)) o = er at *
        have b1 : Below w4.heap.size w4 (w4.alloc (.cells #[.int .i64 x.st, .int .i64 x.fc, .slice X x.data.length q1] 24)) := (Below.refl _ w4).alloc (Nat.le_refl _) _
        have b2 := hb.trans (b1.mono hb.size)
        have I5 := Lib.hid (I3.out.to b2)
        have O5 := Lib.hid (Cells.below O3.out b2)
        have X5 : Hid (Held (w4.alloc (.cells #[.int .i64 x.st, .int .i64 x.fc, .slice X x.data.length q1] 24)) w4.heap.size x X q1) := ⟨Box.new w4 x X q1, hX.below b1⟩
        clear hX hb b1 b2 x0 x1 x2 o0 o1 o2 o3 I3 O3 hI
        go_upto_region 12 with fail
        generalize w4.alloc (.cells #[.int .i64 x.st, .int .i64 x.fc, .slice X x.data.length q1] 24) = w5 at *
        generalize w4.heap.size = g9 at *
        have o0 := O5.out.cell 0
        have o1 := O5.out.cell 1
        have o2 := O5.out.cell 2
        have o3 := O5.out.cell 3
        simp at o0 o1 o2 o3
        obtain ⟨y0, y1, y2⟩ := X5.out.box.cells
        by_cases her : er = 0
        · subst her
          have HKp := Lib.hid (HK.out rfl)
          have HFc := Lib.hid I5.out.fc
          have hfc : (x.fc != 3) = false := by rw [HKp.out.fc, HFc.out]; rfl
          have HC := fun w => HCk x X q1 w
          rw [HKp.out.ok] at HC
          unfold errOf at HC
          simp only [cond_true] at HC
          clear HK HNl
          go_wp2_with fail
          refine (HC w5).out.mono ?_
          rintro e w6 ⟨rfl, hb⟩
          have I6 := Lib.hid (I5.out.to hb)
          have O6 := Lib.hid (Cells.below O5.out hb)
          have X6 := Lib.hid (X5.out.below hb)
          clear hb I5 O5 X5 o0 o1 o2 o3 y0 y1 y2 HC HCk
          have o0 := O6.out.cell 0
          simp at o0
          obtain ⟨y0, y1, y2⟩ := X6.out.box.cells
          obtain ⟨z0, z1, z2⟩ := I6.out.box.cells
          obtain ⟨f0, f1, f2⟩ := I6.out.box.frozen
          by_cases h5 : o.d = 5
          · obtain ⟨s1, s2⟩ := HKp.out.five h5
            have e5 : (o.d == 5) = true := by rw [h5]; rfl
            have es : (x.st != 0) = false := by rw [s1]; rfl
            have el : ((x.data.length : Int) != 0) = false := by rw [s2]; rfl
            clear h5 s1 s2
            go_upto_region 22 with fail
            have I9 : Hid (KI w gz (1 + (j : Int)) x X q1 (((w6.setCell ⟨gz, 0, none⟩ (.int .i64 x.st)).setCell ⟨gz, 1, none⟩ (.int .i64 x.fc)).setCell ⟨gz, 2, none⟩ (.slice X x.data.length q1))) :=
              ⟨below3 I6.out.below HLow.out _ _ _, Box.store I6.out.box x X q1, Row.store3 X6.out.row I6.out.box _ _ _, HKp.out.ok, HKp.out.fc.trans HFc.out, HLow.out⟩
            go_wp2_with fail
            go_roundw
            case rel => exact ⟨k + 1, x, X, q1, by go_num, by omega, I9.out⟩
            case measure => simp [intOf]; omega
          · obtain ⟨s1, s2, s3⟩ := HKp.out.rest h5
            have e5 : (o.d == 5) = false := beq_eq_false_iff_ne.2 h5
            have hll : decide (x.data.length < z.data.length) = false := decide_eq_false (by omega)
            have hcap := X6.out.row.cap
            have hsl := run_head X x.data.length q1 z.data.length (by omega)
            have hrow := X6.out.row.head s1
            rw [s2] at hrow
            have RH := Lib.hid hrow
            have RZ := Lib.hid I6.out.row
            have hs1 := fun p => run_str (RH.out.drewN p)
            have hs2 := fun p => run_str (RZ.out.drewN p)
            have hlz : (z.data.length : Int) ≤ (q1 : Int) := by omega
            have HS3 := Lib.hid s3
            generalize str z.data = sz at *
            clear h5 s1 s2 s3 hrow
            have hcase : ∃ p r, (z.st == 4) = p ∧ (x.st != 4) = r ∧ (p = false ∨ (p = true ∧ r = false)) := by
              refine ⟨_, _, rfl, rfl, ?_⟩
              rcases e4 : (z.st == 4)
              · exact .inl rfl
              · exact .inr ⟨rfl, by rw [HS3.out (beq_iff_eq.1 e4)]; rfl⟩
            obtain ⟨p4, r4, e4, e4', hpr⟩ := hcase
            rcases hpr with rfl | ⟨rfl, rfl⟩
            · go_upto_region 20 with fail
              go_quiet (fail)
              go_upto_region 22 with fail
              have hdn : Below w6.heap.size w6 (w6.drewN nq) := below_drewN (Below.refl _ w6) nq
              have ZB := Lib.hid (I6.out.box.below hdn)
              have XB := Lib.hid (X6.out.below hdn)
              have LB : Hid (Below w.heap.size w (w6.drewN nq)) := I6.out.below.trans (hdn.mono I6.out.below.size)
              clear hdn y0 y1 y2 z0 z1 z2 f0 f1 f2 hs1 hs2 hsl
              generalize w6.drewN nq = w7 at *
              obtain ⟨y0, y1, y2⟩ := XB.out.box.cells
              obtain ⟨z0, z1, z2⟩ := ZB.out.cells
              obtain ⟨f0, f1, f2⟩ := ZB.out.frozen
              have I9 : Hid (KI w gz (1 + (j : Int)) x X q1 (((w7.setCell ⟨gz, 0, none⟩ (.int .i64 x.st)).setCell ⟨gz, 1, none⟩ (.int .i64 x.fc)).setCell ⟨gz, 2, none⟩ (.slice X x.data.length q1))) :=
                ⟨below3 LB.out HLow.out _ _ _, Box.store ZB.out x X q1, Row.store3 XB.out.row ZB.out _ _ _, HKp.out.ok, HKp.out.fc.trans HFc.out, HLow.out⟩
              go_wp2_with fail
              go_roundw
              case rel => exact ⟨k + 1, x, X, q1, by go_num, by omega, I9.out⟩
              case measure => simp [intOf]; omega
            · go_upto_region 20 with fail
              go_quiet (fail)
              go_upto_region 22 with fail
              have hdn : Below w6.heap.size w6 (w6.drewN nq) := below_drewN (Below.refl _ w6) nq
              have ZB := Lib.hid (I6.out.box.below hdn)
              have XB := Lib.hid (X6.out.below hdn)
              have LB : Hid (Below w.heap.size w (w6.drewN nq)) := I6.out.below.trans (hdn.mono I6.out.below.size)
              clear hdn y0 y1 y2 z0 z1 z2 f0 f1 f2 hs1 hs2 hsl
              generalize w6.drewN nq = w7 at *
              obtain ⟨y0, y1, y2⟩ := XB.out.box.cells
              obtain ⟨z0, z1, z2⟩ := ZB.out.cells
              obtain ⟨f0, f1, f2⟩ := ZB.out.frozen
              have I9 : Hid (KI w gz (1 + (j : Int)) x X q1 (((w7.setCell ⟨gz, 0, none⟩ (.int .i64 x.st)).setCell ⟨gz, 1, none⟩ (.int .i64 x.fc)).setCell ⟨gz, 2, none⟩ (.slice X x.data.length q1))) :=
                ⟨below3 LB.out HLow.out _ _ _, Box.store ZB.out x X q1, Row.store3 XB.out.row ZB.out _ _ _, HKp.out.ok, HKp.out.fc.trans HFc.out, HLow.out⟩
              go_wp2_with fail
              go_roundw
              case rel => exact ⟨k + 1, x, X, q1, by go_num, by omega, I9.out⟩
              case measure => simp [intOf]; omega
        · have hne : (er != 0) = true := bne_iff_ne.2 her
          have hnl := HNl.out her
          clear her
          by_cases hx0 : x.data.length = 0
          · have hd : decide (0 < x.data.length) = false := decide_eq_false (by omega)
            go_wp2_with fail
            go_roundw
            case rel => exact ⟨k + 1, z, D, q, by go_num, by omega, I5.out⟩
            case measure => simp [intOf]; omega
          · have hd : decide (0 < x.data.length) = true := decide_eq_true (by omega)
            by_cases h5 : o.d ≤ 5
            · have h0 : ¬ 0 ≤ o.d := fun h0 => hx0 (hnl h0 h5)
              have hd5 : decide (o.d ≤ 5) = true := decide_eq_true h5
              have hd0 : decide (0 ≤ o.d) = false := decide_eq_false h0
              clear hx0 h5 h0 hnl
              go_wp2_with fail
              go_roundw
              case rel => exact ⟨k + 1, z, D, q, by go_num, by omega, I5.out⟩
              case measure => simp [intOf]; omega
            · have hd5 : decide (o.d ≤ 5) = false := decide_eq_false h5
              clear hx0 h5 hnl
              go_wp2_with fail
              go_roundw
              case rel => exact ⟨k + 1, z, D, q, by go_num, by omega, I5.out⟩
              case measure => simp [intOf]; omega
    · go_wp2_with fail
      go_ret
      exact ⟨rfl, hI.out.below⟩

theorem zoneKeeps_walk (most : Int) (A : Option Addr) (n c : Nat) (xs : List Ov) (w : World) (hr : RowS cellsO 4 w A n c xs) (hp : ∀ x ∈ xs, Row cb w x.B x.b.length x.c x.b ∧ x.off ≤ 9223372036854775807) :
    Calls Try.prog 4 #[.int .i64 most, .slice A n c] w fun e w' => e = .returned (.bool true) ∧ Below w.heap.size w w' := by
  rcases Nat.lt_or_ge 100 n with h | h
  · exact zoneKeeps_skip most A n c w h
  · exact zoneKeeps_main most A n c xs w h hr hp

theorem zoneKeeps_says : Frame.Says Rows.zoneKeepsSpec 2 := by
  refine ⟨rfl, fun H ds h => ?_, fun H ds h => ?_, fun H ds h => ?_⟩ <;>
  · match ds, h with
    | [d1, d2], _ => rfl

set_option maxRecDepth 100000 in
theorem zoneKeeps_walks : Frame.Walks 4 [3, 36] := by
  intro H enc W args ds ps base hok hA hsz
  obtain ⟨v0, vs0, d0, ds0, p0, q0, hargs, rfl, rfl, h0, r0⟩ := trodAll_cons hA
  obtain ⟨v1, vs1, d1, ds1, p1, q1, rfl, rfl, rfl, h1, r1⟩ := trodAll_cons r0
  obtain ⟨rfl, rfl, rfl⟩ := trodAll_nil r1
  obtain rfl : args = #[v0, v1] := by cases args; simp_all
  obtain ⟨most, rfl, rfl, rfl, w0⟩ := open_int Try.underlying3 (hok 0 _ v0 rfl rfl) h0
  obtain ⟨A, n, c, xs, rfl, l1, l2⟩ := Args.open_ops (hok 1 _ v1 rfl rfl) h1 (Args.sized_arg hsz (j := 1) rfl rfl)
  exact zoneKeeps_walk most A n c xs W l1 l2

set_option maxRecDepth 100000 in
theorem zoneKeeps_over : Rows.zoneKeepsRow.holds Try.pinned (OpenSpec.ofChange Rows.zoneKeepsSpec) :=
  OpenClaim.holds_of_wide 4 Try.f4 rfl rfl rfl rfl rfl rfl rfl ⟨rfl, rfl, rfl, rfl, rfl⟩ rfl rfl rfl rfl rfl (by kernel_rfl) Try.func4 (by kernel_rfl)
    (of_decide_eq_true (by kernel_rfl)) (by unfold Func.isWrapper; first | (rw [if_pos (by decide +kernel)]; kernel_rfl) | (rw [if_neg (by decide +kernel)]; exact ⟨rfl, rfl⟩))
    (fun os started H enc _ => Frame.lifted (started := started) Try.underlying4 (by kernel_rfl) Try.func4 (n := 2) (by rw [Try.params4]; rfl) zoneKeeps_says (by rw [Try.params4]; kernel_rfl) (by kernel_rfl)
      (ChangeSpec.witness6 (enc := enc) (C := Try.checked) false ⟨#[], #[.int .i64 0, .slice none 0 0], []⟩ 8 (by kernel_rfl) (by kernel_rfl) (by kernel_rfl) (by kernel_rfl))
      (by rw [Try.params4]; exact zoneKeeps_walks))
end Zon
/-- The given statement. -/
theorem zoneKeeps_holds : Rows.ZoneKeepsSaid := Zon.zoneKeeps_over
end Go.Proofs.Ytfcehlipbdngbaa
