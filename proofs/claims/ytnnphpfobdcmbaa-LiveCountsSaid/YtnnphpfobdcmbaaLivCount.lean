/-
  WALKS: live.Count.
-/
import Derived.Test.YtnnphpfobdcmbaaLivMath
import Derived.Laws.MakeOwn
import Derived.Shelf.RegionOpenPlain
namespace Go.Proofs.Ytnnphpfobdcmbaa
open Go.RowKit Mem Ext
namespace Liv

theorem made_zeros (n : Nat) : madeCells #[.int .i64 0] n = ((List.replicate n (0 : Int)).map ci).toArray := by
  apply Array.ext
  · rw [size_madeCells]; simp
  · intro i h1 h2
    have : i % 1 = 0 := Nat.mod_one i
    simp [madeCells, ci, this]
/-- Noughts. -/
def zerosA (n : Nat) : Array Value := ((List.replicate n (0 : Int)).map ci).toArray
theorem run_make_ints (w : World) (n : Nat) (hn : n ≤ 10000000) : (Instr.makeSlice 26 (.int .i64 (n : Int)) (.int .i64 (n : Int))).run Try.prog w = .ok (.slice (some ⟨w.heap.size, 0, none⟩) n n) (w.alloc (.cells (zerosA n) 3)) := by
  obtain ⟨i, hi, hz0, hz1, hz2⟩ := info_parts info_int
  have h := run_make (P := Try.prog) w 26 3 i _ Try.underlying26 hi hz0 .i64 .i64 (n : Int) (n : Int) (by omega) (by omega) (by rw [hz2]; omega) (by omega)
  rw [hz1] at h
  unfold zerosA
  rw [← made_zeros]
  simpa [Value.cells] using h
/-- A row of numbers that fills its block. -/
def Full (w : World) (q : Nat) (l : List Int) : Prop := Cells w q 3 ((l.map ci).toArray)
theorem Full.cell {w : World} {q : Nat} {l : List Int} (h : Full w q l) {i : Nat} {x : Int} (hx : l[i]? = some x) : w.cell? ⟨q, i, none⟩ = some (.int .i64 x) := by
  have := Cells.cell h i
  rw [this]; simp [hx, ci]
theorem Full.frozen {w : World} {q : Nat} {l : List Int} (h : Full w q l) (i : Nat) : w.frozen? ⟨q, i, none⟩ = false := Cells.frozen h i
theorem Full.below {w w' : World} {q : Nat} {l : List Int} (h : Full w q l) (hb : Below w.heap.size w w') : Full w' q l := Cells.below h hb
theorem Full.set {w : World} {q : Nat} {l : List Int} (h : Full w q l) (i : Nat) (x : Int) : Full (w.setCell ⟨q, i, none⟩ (.int .i64 x)) q (l.set i x) := by
  have := Cells.set_ h i (.int .i64 x)
  unfold Full
  rw [List.map_set, ← List.setIfInBounds_toArray]
  exact this
theorem Full.row {w : World} {q : Nat} {l : List Int} (h : Full w q l) (hn : l.length ≤ 100000) : Row ci w (some ⟨q, 0, none⟩) l.length l.length l := by
  refine ⟨rfl, Nat.le_refl _, by omega, fun h0 => ⟨q, 0, rfl, Cells.lt h, fun i x hx => ?_⟩⟩
  have := h.cell hx
  rw [Nat.zero_add]; exact this
theorem Full.lt {w : World} {q : Nat} {l : List Int} (h : Full w q l) : q < w.heap.size := Cells.lt h

/-- What Count gave. -/
def GaveN (w : World) (l : List Int) (er : Int) (en : Ending) (w' : World) : Prop :=
  (∃ A n c, en = .returned (.tuple #[.slice A n c, .int .i64 er]) ∧ Row ci w' A n c l ∧ ∀ q o, A = some ⟨q, o, none⟩ → w.heap.size ≤ q) ∧ Below w.heap.size w w'
def countB (zones : Int) (l : List Ex) : Bool := !decide (zones < 0) && (!decide (64 < zones) && okE l)
def countP (zones : Int) (l : List Ex) : List Int := bif countB zones l then cnts zones.toNat l else []
set_option maxRecDepth 100000 in
set_option maxHeartbeats 3200000 in
theorem count_bad {A : Option Addr} {n c : Nat} {l : List Ex} {w : World} (h : RowL w A n c l) (hs : SmallN l) (zones : Int) (hb : countB zones l = false) :
    Calls Try.prog 10 #[.slice A n c, .int .i64 zones] w (GaveN w [] 1) := by
  have HC := fun w (h : RowL w A n c l) => Lib.hid (check_all h hs)
  have HR := Lib.hid h
  clear h
  unfold GaveN
  rcases e1 : decide (zones < 0)
  · rcases e2 : decide (64 < zones)
    · rcases e3 : okE l
      · rw [e3] at HC
        go_enter Try.func10, Try.ntmps10
        go_wp2_with (go_at_call 22; refine (HC _ HR.out).out.mono ?_; rintro e w2 ⟨rfl, hb⟩; have L2 := Lib.hid hb; clear hb)
        go_ret2
        exact ⟨⟨none, 0, 0, rfl, Row.nil _ _, fun _ _ e => by cases e⟩, L2.out⟩
      · unfold countB at hb; rw [e1, e2, e3] at hb; cases hb
    · go_enter Try.func10, Try.ntmps10
      go_wp2
      go_ret2
      exact ⟨⟨none, 0, 0, rfl, Row.nil _ _, fun _ _ e => by cases e⟩, Below.refl _ _⟩
  · go_enter Try.func10, Try.ntmps10
    go_wp2
    go_ret2
    exact ⟨⟨none, 0, 0, rfl, Row.nil _ _, fun _ _ e => by cases e⟩, Below.refl _ _⟩

set_option maxRecDepth 100000 in
set_option maxHeartbeats 6400000 in
theorem count_ok {A : Option Addr} {n c : Nat} {l : List Ex} {w : World} (h : RowL w A n c l) (hs : SmallN l) (Z : Nat) (hb : countB (Z : Int) l = true) :
    Calls Try.prog 10 #[.slice A n c, .int .i64 Z] w (GaveN w (cnts Z l) 0) := by
  have HC := fun w (h : RowL w A n c l) => Lib.hid (check_all h hs)
  have HR := Lib.hid h
  have hbig := h.big
  have hlen := Lib.hid h.len
  clear h hs
  unfold countB at hb
  simp only [Bool.and_eq_true, Bool.not_eq_true', decide_eq_false_iff_not] at hb
  obtain ⟨hz0, hz1, hok⟩ := hb
  have hZ : Z ≤ 64 := by omega
  have HOK := Lib.hid (okE_iff.1 hok)
  have e1 : decide ((Z : Int) < 0) = false := decide_eq_false hz0
  have e2 : decide (64 < Z) = false := decide_eq_false (by omega)
  rw [hok] at HC
  clear hz0 hz1 hok
  unfold GaveN
  obtain ⟨oz, hoz⟩ : ∃ o : Nat, o = 0 := ⟨0, rfl⟩
  have hmk : ∀ w : World, (Instr.makeSlice 26 (.int .i64 (Z : Int)) (.int .i64 (Z : Int))).run Try.prog w = .ok (.slice (some ⟨w.heap.size, oz, none⟩) Z Z) (w.alloc (.cells (zerosA Z) 3)) := by
    rw [hoz]; exact fun w => run_make_ints w Z (by omega)
  have HOZ := Lib.hid hoz
  clear hoz
  go_enter Try.func10, Try.ntmps10
  go_wp2_with (go_at_call 22; refine (HC _ HR.out).out.mono ?_; rintro e w2 ⟨rfl, hb⟩; have L2 := Lib.hid hb; clear hb)
  have b3 : Below w2.heap.size w2 (w2.alloc (.cells (zerosA Z) 3)) := (Below.refl _ w2).alloc (Nat.le_refl _) _
  have F3 : Hid (Full (w2.alloc (.cells (zerosA Z) 3)) w2.heap.size (cnts Z (l.take 0))) := by
    show Full _ _ _
    rw [List.take_zero, cnts_nil]; exact Cells.new _ _ _
  have L3 := Lib.hid (L2.out.trans (b3.mono L2.out.size))
  have HQ : Hid (w.heap.size ≤ w2.heap.size) := L2.out.size
  clear b3 L2
  generalize w2.heap.size = q at *
  generalize w2.alloc (.cells (zerosA Z) 3) = w3 at *
  go_loopw [8, 24] (fun _ i wr => ∃ k : Nat, i = .int .i64 k ∧ k ≤ n ∧ Hid (Below w.heap.size w wr ∧ Full wr q (cnts Z (l.take k)))) (fun _ i _ => n - (intOf i).toNat)
  case atStart => exact ⟨0, rfl, by omega, L3.out, F3.out⟩
  case round =>
    obtain ⟨k, rfl, hk, hH⟩ := hrel
    by_cases hlt : k < n
    · obtain ⟨x, hx⟩ := HR.out.get hlt
      obtain ⟨b, o, hA, d0, d1, d2, d3, d4⟩ := RowS.ext_at (HR.out.below hH.out.1) hx
      subst hA
      have hk0 : (0 : Int) ≤ (k : Int) := by omega
      have hkn : (k : Int) < (n : Int) := by omega
      have HX := Lib.hid hx
      clear hx
      have A1 : Hid (Below wr.heap.size wr (wr.alloc (.cells #[.int .i64 x.lba, .int .i64 x.n, .int .i64 x.ver, .int .i64 x.zone, .int .i64 x.off] 32))) := (Below.refl _ wr).alloc (Nat.le_refl _) _
      have B1 : Hid (LBox (wr.alloc (.cells #[.int .i64 x.lba, .int .i64 x.n, .int .i64 x.ver, .int .i64 x.zone, .int .i64 x.off] 32)) wr.heap.size x) := Cells.new _ _ _
      obtain ⟨n0, n1, n2, n3, n4⟩ := LBox.cells B1.out
      have hf3 : (wr.alloc (.cells #[.int .i64 x.lba, .int .i64 x.n, .int .i64 x.ver, .int .i64 x.zone, .int .i64 x.off] 32)).frozen? ⟨wr.heap.size, 3, none⟩ = false := Cells.frozen B1.out 3
      go_upto_region 7 with fail
      have L1 := Lib.hid (hH.out.1.trans (A1.out.mono hH.out.1.size))
      have F1 := Lib.hid (hH.out.2.below A1.out)
      have HQ1 : Hid (q < wr.heap.size) := hH.out.2.lt
      generalize wr.alloc (.cells #[.int .i64 x.lba, .int .i64 x.n, .int .i64 x.ver, .int .i64 x.zone, .int .i64 x.off] 32) = w1 at *
      generalize hg : wr.heap.size = g at *
      have HG := Lib.hid hg
      clear d0 d1 d2 d3 d4 A1 hg
      rcases f1 : decide (0 ≤ x.zone)
      · have HS : Hid (cnts Z (l.take (k + 1)) = cnts Z (l.take k)) := cnts_same HX.out (fun z _ h => by have := of_decide_eq_false f1; omega)
        go_wp2_with fail
        go_roundw
        case rel => exact ⟨k + 1, by go_num, by omega, L1.out, by rw [HS.out]; exact F1.out⟩
        case measure => simp [intOf]; omega
      · obtain ⟨z, hz⟩ : ∃ z : Nat, x.zone = (z : Int) := ⟨x.zone.toNat, by have := of_decide_eq_true f1; omega⟩
        rcases f2 : decide (z < Z)
        · have HS : Hid (cnts Z (l.take (k + 1)) = cnts Z (l.take k)) := cnts_same HX.out (fun y hy h => by have := of_decide_eq_false f2; omega)
          rw [hz] at n3
          clear f1
          have HZ := Lib.hid hz
          clear hz
          have f1 : decide ((0 : Int) ≤ (z : Int)) = true := decide_eq_true (by omega)
          go_wp2_with fail
          go_roundw
          case rel => exact ⟨k + 1, by go_num, by omega, L1.out, by rw [HS.out]; exact F1.out⟩
          case measure => simp [intOf]; omega
        · have hzZ : z < Z := of_decide_eq_true f2
          have HS := Lib.hid (cnts_step (Z := Z) HX.out hz)
          have hin := cntZ_in (ok_front HOK.out k) (by omega) (z : Int)
          have hin2 := cntZ_in (ok_front HOK.out (k + 1)) (by omega) (z : Int)
          rw [cntZ_snoc HX.out, if_pos hz] at hin2
          have cz := F1.out.cell (cnts_get (l.take k) hzZ)
          have fz := F1.out.frozen z
          have hw1 : IntKind.i64.wrap (cntZ (z : Int) (l.take k) + x.n) = cntZ (z : Int) (l.take k) + x.n := Ext.wrap_small (by omega) (by omega)
          generalize cntZ (z : Int) (l.take k) = v at *
          have F4 : Hid (Full (w1.setCell ⟨q, oz + z, none⟩ (.int .i64 (v + x.n))) q (cnts Z (l.take (k + 1)))) := by
            show Full _ _ _
            rw [HS.out, show oz + z = z by rw [HOZ.out, Nat.zero_add]]; exact F1.out.set z _
          have L4 : Hid (Below w.heap.size w (w1.setCell ⟨q, oz + z, none⟩ (.int .i64 (v + x.n)))) := L1.out.setCell (by have := HQ.out; exact this) _
          have cz' : w1.cell? ⟨q, oz + z, none⟩ = some (.int .i64 v) := by rw [show oz + z = z by rw [HOZ.out, Nat.zero_add]]; exact cz
          have fz' : w1.frozen? ⟨q, oz + z, none⟩ = false := by rw [show oz + z = z by rw [HOZ.out, Nat.zero_add]]; exact fz
          clear cz fz
          rw [hz] at n3
          clear f1
          have HZ := Lib.hid hz
          clear hz hin hin2
          have f1 : decide ((0 : Int) ≤ (z : Int)) = true := decide_eq_true (by omega)
          have hzl : (z : Int) < (Z : Int) := by omega
          go_upto_region 8 with fail
          go_big_region_o
          go_wp2_with fail
          go_roundw
          case rel => exact ⟨k + 1, by go_num, by omega, by first | exact L4.out | exact L4.out.drew, by first | exact F4.out | exact Cells.drew F4.out⟩
          case measure => simp [intOf]; omega
    · have hkn : l.take k = l := List.take_of_length_le (by have := hlen.out; omega)
      have HK := Lib.hid hkn
      clear hkn
      go_wp2_with fail
      go_ret2
      have hh := hH.out
      rw [HK.out] at hh
      have hr := hh.2.row (by rw [cnts_len]; omega)
      rw [cnts_len] at hr
      exact ⟨⟨_, Z, Z, rfl, by rw [HOZ.out]; exact hr, fun _ _ e => by injection e with e; injection e with e; subst e; exact HQ.out⟩, hh.1⟩
end Liv
end Go.Proofs.Ytnnphpfobdcmbaa
