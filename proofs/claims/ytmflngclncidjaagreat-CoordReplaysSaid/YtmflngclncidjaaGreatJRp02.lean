/-
  SEVERAL TEXTS IN ONE FILE: WireInts, CooWrite, CooReplay, OwnS.
-/
import Derived.Test.YtmflngclncidjaaGreatJRp01
import Derived.Test.YtmflngclncidjaaGreatJ03
import Derived.Deep.DeepCutAuto
import Derived.Lib.LazyBuf
import Derived.Test.YtmflngclncidjaaGreatJ25
import Derived.Lib.Hide
/-
  NUMBERS ONE BEHIND THE OTHER: Nums, TakeNums, for every input. (Parted from WireRows in round 8: coord has these, not the rest.)
-/
namespace Go.Proofs.YtmflngclncidjaaGreat
open Go.RowKit Mem
namespace Wire

/-- A row and an error, as a call gave them. -/
def GaveE {α : Type} (f : α → Value) (e : TypeId) (base : Nat) (w : World) (l : List α) (er : Int) (en : Ending) (w' : World) : Prop :=
  ∃ A k c, en = .returned (.tuple #[.slice A k c, .int .i64 er]) ∧ Owns f e base w' (.slice A k c) k l ∧ Below base w w'

def Numbered (l : List Int) (w : World) (en : Ending) (w' : World) : Prop :=
  ((∀ z ∈ l, 0 ≤ z) ∧ GaveE cb 5 w.heap.size w (encs (l.map Int.toNat)) 0 en w') ∨
  ((∃ z ∈ l, z < 0) ∧ en = .returned (.tuple #[.slice none 0 0, .int .i64 1]) ∧ Below w.heap.size w w')

theorem wrap_u64_small (n : Nat) (h : n < 9223372036854775808) : IntKind.u64.wrap (n : Int) = n := by
  simp [IntKind.wrap, IntKind.bits, IntKind.signed]; omega

set_option maxRecDepth 100000 in
set_option maxHeartbeats 800000 in
theorem nums_any {A : Option Addr} {n c : Nat} {l : List Int} {w : World} (h : Row ci w A n c l) (hr : ∀ z ∈ l, z < 9223372036854775808) (hn : n ≤ 1000) :
    Calls Tryz.prog 30 #[.slice A n c] w (Numbered l w) := by
  have HR := Lib.hid h
  have HZ := Lib.hid hr
  clear h hr
  go_enter Tryz.func30, Tryz.ntmps30
  go_wp2
  go_loopw [4, 9] (fun s i wr => ∃ (B : Option Addr) (j d k : Nat), s = .slice B j d ∧ i = .int .i64 k ∧ k ≤ n ∧
    Hid ((∀ z ∈ l.take k, 0 ≤ z) ∧ Owns cb 5 w.heap.size wr (.slice B j d) j (encs ((l.take k).map Int.toNat)) ∧ Below w.heap.size w wr)) (fun _ i _ => n - (intOf i).toNat)
  case atStart => exact ⟨none, 0, 0, 0, rfl, rfl, by omega, by simp, Owns.nil _ _ _ _, Below.refl _ _⟩
  case round =>
    obtain ⟨B, j, d, k, rfl, rfl, hk, hH⟩ := hrel
    by_cases hlt : k < n
    · obtain ⟨z, hz⟩ := HR.out.get hlt
      have hcell := (HR.out.below hH.out.2.2).cell hz
      obtain ⟨b, o, rfl, hcell⟩ := hcell
      have hcell' : wr.cell? ⟨b, o + k, none⟩ = some (.int .i64 z) := hcell
      have HE := Lib.hid hz
      clear hcell hz
      by_cases hneg : z < 0
      · go_wp2
        go_ret2
        refine .inr ⟨⟨z, List.mem_of_getElem? HE.out, hneg⟩, rfl, hH.out.2.2⟩
      · obtain ⟨m, rfl⟩ := Int.eq_ofNat_of_zero_le (show 0 ≤ z by omega)
        have hm : m < 9223372036854775808 := by have := HZ.out _ (List.mem_of_getElem? HE.out); omega
        have hwr := wrap_u64_small m hm
        have hjl : Hid (j ≤ 10 * n) := by
          have h1 := hH.out.2.1.len
          have h2 := encs_len (l := (l.take k).map Int.toNat) (fun x hx => by
            obtain ⟨y, hy, rfl⟩ := List.mem_map.1 hx
            have := HZ.out y (List.mem_of_mem_take hy)
            omega)
          simp only [List.length_map, List.length_take] at h2
          show _ ≤ _
          omega
        have HP := Lib.hid (put_any w.heap.size m (by omega) B j d _ wr hH.out.2.1 hH.out.2.2.size (by have := hjl.out; omega))
        clear hm
        go_wp2_with (go_at_call 39; refine HP.out.mono ?_; rintro e w2 ⟨B2, j2, d2, rfl, h2, hb2⟩; have H2 := Lib.hid h2; have HB2 := Lib.hid hb2; clear h2 hb2)
        go_roundw
        case rel =>
          refine ⟨B2, j2, d2, k + 1, rfl, by go_num, by omega, ?_, ?_, hH.out.2.2.trans HB2.out⟩
          · intro y hy
            rw [List.take_add_one, HE.out] at hy
            rcases List.mem_append.1 hy with h | h
            · exact hH.out.1 y h
            · simp at h; omega
          · have := H2.out
            rw [List.take_add_one, HE.out, List.map_append, encs_append]
            simpa [encs_cons, encs_nil] using this
        case measure => simp [intOf]; omega
    · have hkn : l.take k = l := List.take_of_length_le (by have := HR.out.len; omega)
      have HK := Lib.hid hkn
      clear hkn
      go_wp2
      go_ret2
      have h := hH.out
      rw [HK.out] at h
      exact .inl ⟨h.1, _, _, _, rfl, h.2.1, h.2.2⟩

theorem info_int : (Tryz.prog.info? 3).map (fun i => (i.zero, i.size, i.bytes)) = some (some (.int .i64 0), 1, 8) := by kernel_rfl
/-- Numbers as ints. -/
def asInts (l : List Nat) : List Int := List.map (α := Nat) (β := Int) (fun n => (n : Int)) l
theorem asInts_append (l : List Nat) (n : Nat) : asInts (l ++ [n]) = asInts l ++ [(n : Int)] := by simp [asInts]

/-- What TakeNums tells. -/
def TookN (l : List Nat) (k e : Nat) (w : World) (en : Ending) (w' : World) : Prop :=
  ∃ B j d, en = .returned (.tuple #[.slice B j d, .int .i64 (k : Int), .int .i64 (e : Int)]) ∧ Owns ci 3 w.heap.size w' (.slice B j d) j (asInts l) ∧ Below w.heap.size w w'

set_option maxRecDepth 100000 in
set_option maxHeartbeats 1600000 in
theorem takeNums_at {A : Option Addr} {n c : Nat} {b : List B8} {w : World} (h : Row cb w A n c b) (hn : n ≤ 1000000) (m : Nat) (hm : m ≤ 9223372036854775807) {l : List Nat} {kk ee : Nat} (hi : ints m b = (l, kk, ee)) :
    Calls Tryz.prog 33 #[.slice A n c, .int .i64 m] w (TookN l kk ee w) := by
  have HR := Lib.hid h
  have HI := Lib.hid hi
  clear h hi
  have hneg : decide ((m : Int) < 0) = false := by simp
  go_enter Tryz.func33, Tryz.ntmps33
  go_wp2
  go_loopw [7, 8, 15] (fun s a i wr => ∃ (B : Option Addr) (j d q p : Nat), s = .slice B j d ∧ a = .int .i64 q ∧ i = .int .i64 p ∧ p ≤ m ∧ q ≤ n ∧ j ≤ q ∧
    Hid (∃ acc : List Nat, Owns ci 3 w.heap.size wr (.slice B j d) j (asInts acc) ∧ Below w.heap.size w wr ∧ goOn acc q (ints (m - p) (b.drop q)) = (l, kk, ee))) (fun _ _ i _ => m - (intOf i).toNat)
  case atStart => exact ⟨none, 0, 0, 0, 0, rfl, rfl, rfl, by omega, by omega, by omega, [], Owns.nil _ _ _ _, Below.refl _ _, by rw [List.drop_zero, Nat.sub_zero, goOn_ints]; exact HI.out⟩
  case round =>
    obtain ⟨B, j, d, q, p, rfl, rfl, rfl, hp, hq, hjq, hH⟩ := hrel
    obtain ⟨acc, hown, hbel, hgo⟩ := hH.out
    have HO := Lib.hid hown
    have HB := Lib.hid hbel
    have HG := Lib.hid hgo
    clear hown hbel hgo hH
    by_cases hlt : p < m
    · have hsl := run_tail A n c q hq
      have HT := Lib.hid ((HR.out.below HB.out).tail (k := q) hq)
      rcases h1 : int1 (b.drop q) with ⟨x, y, e⟩
      have H1 := Lib.hid h1
      clear h1
      have hms : m - p = (m - (p + 1)) + 1 := by omega
      by_cases he : e = 0
      · subst he
        obtain ⟨t1, hx⟩ := int1_one H1.out
        obtain ⟨y1, y2, y3, -⟩ := take1_one t1
        have hyn : q + y ≤ n := by rw [List.length_drop] at y2; have := HR.out.len; omega
        have G2 : Hid (goOn (acc ++ [x]) (q + y) (ints (m - (p + 1)) (b.drop (q + y))) = (l, kk, ee)) := by
          have := HG.out
          rw [hms, goOn_step H1.out] at this
          exact this
        clear t1 hx y2 y3 hms
        go_wp2_with (first
          | (go_at_call 51; refine (takeInt_at HT.out H1.out).mono ?_; rintro e w2 ⟨rfl, hb2⟩; have B2 := Lib.hid hb2; clear hb2)
          | (at_builtin
             refine wpList_append_row ci_one Tryz.underlying54 info_int rfl rfl (.tmp 28) (.tmp 30) rfl rfl w.heap.size (.slice B j d) j (asInts acc) rfl (((HO.out.below B2.out)).alloc _) _ 1 1 [(x : Int)] rfl (row_one ci w2 _ _ _ rfl) (by omega) (by omega) (by have := HB.out.size; have := B2.out.size; simp; omega) ?_
             intro A3 c3 w3 hown3 hb3
             have O3 := Lib.hid hown3
             have B3 := Lib.hid hb3
             clear hown3 hb3))
        go_roundw
        case rel =>
          refine ⟨A3, j + 1, c3, q + y, p + 1, rfl, by go_num, by go_num, by omega, hyn, by omega, acc ++ [x], ?_, ?_, G2.out⟩
          · rw [asInts_append]; exact O3.out
          · exact (HB.out.trans ((B2.out.mono HB.out.size).trans (((Below.refl _ w2).alloc (Nat.le_trans HB.out.size B2.out.size) _).trans B3.out)))
        case measure => simp [intOf]; omega
      · obtain ⟨rfl, rfl, h3⟩ := int1_bad H1.out he
        have G2 := HG.out
        rw [hms, goOn_stop H1.out he] at G2
        simp only [Prod.mk.injEq] at G2
        obtain ⟨rfl, rfl, rfl⟩ := G2
        clear hms he HG
        rcases h3 with rfl | rfl
        all_goals
          go_wp2_with (go_at_call 51; refine (takeInt_at HT.out H1.out).mono ?_; rintro e w2 ⟨rfl, hb2⟩; have B2 := Lib.hid hb2; clear hb2)
          go_ret3
          exact ⟨none, 0, 0, rfl, Owns.nil _ _ _ _, HB.out.trans (B2.out.mono HB.out.size)⟩
    · have hpm : m - p = 0 := by omega
      have G2 := HG.out
      rw [hpm, goOn_end] at G2
      simp only [Prod.mk.injEq] at G2
      obtain ⟨rfl, rfl, rfl⟩ := G2
      clear hpm HG
      go_wp2
      go_ret3
      exact ⟨B, j, d, rfl, HO.out, HB.out⟩

end Wire
end Go.Proofs.YtmflngclncidjaaGreat
/-
  WALKS: an event's numbers, the event that numbers are, an event written. (Written by gen_coowrite.py.)
-/
namespace Go.Proofs.YtmflngclncidjaaGreat
open Go.RowKit Mem
namespace Coo
open Lea (Cells But OneBox Lv Tv)
theorem cells_set8 {w : World} {q : Nat} {ty : TypeId} {a0 a1 a2 a3 a4 a5 a6 a7 : Value} (h : Cells w q ty #[a0, a1, a2, a3, a4, a5, a6, a7]) (x y z u v r s t : Value) : Cells ((((((((w.setCell ⟨q, 0, none⟩ x).setCell ⟨q, 1, none⟩ y).setCell ⟨q, 2, none⟩ z).setCell ⟨q, 3, none⟩ u).setCell ⟨q, 4, none⟩ v).setCell ⟨q, 5, none⟩ r).setCell ⟨q, 6, none⟩ s).setCell ⟨q, 7, none⟩ t) q ty #[x, y, z, u, v, r, s, t] := by
  have h1 : Cells (w.setCell ⟨q, 0, none⟩ x) q ty #[x, a1, a2, a3, a4, a5, a6, a7] := Lea.Cells.set_ h 0 x
  generalize w.setCell ⟨q, 0, none⟩ x = w1 at *
  have h2 : Cells (w1.setCell ⟨q, 1, none⟩ y) q ty #[x, y, a2, a3, a4, a5, a6, a7] := Lea.Cells.set_ h1 1 y
  generalize w1.setCell ⟨q, 1, none⟩ y = w2 at *
  have h3 : Cells (w2.setCell ⟨q, 2, none⟩ z) q ty #[x, y, z, a3, a4, a5, a6, a7] := Lea.Cells.set_ h2 2 z
  generalize w2.setCell ⟨q, 2, none⟩ z = w3 at *
  have h4 : Cells (w3.setCell ⟨q, 3, none⟩ u) q ty #[x, y, z, u, a4, a5, a6, a7] := Lea.Cells.set_ h3 3 u
  generalize w3.setCell ⟨q, 3, none⟩ u = w4 at *
  have h5 : Cells (w4.setCell ⟨q, 4, none⟩ v) q ty #[x, y, z, u, v, a5, a6, a7] := Lea.Cells.set_ h4 4 v
  generalize w4.setCell ⟨q, 4, none⟩ v = w5 at *
  have h6 : Cells (w5.setCell ⟨q, 5, none⟩ r) q ty #[x, y, z, u, v, r, a6, a7] := Lea.Cells.set_ h5 5 r
  generalize w5.setCell ⟨q, 5, none⟩ r = w6 at *
  have h7 : Cells (w6.setCell ⟨q, 6, none⟩ s) q ty #[x, y, z, u, v, r, s, a7] := Lea.Cells.set_ h6 6 s
  generalize w6.setCell ⟨q, 6, none⟩ s = w7 at *
  exact Lea.Cells.set_ h7 7 t
theorem but_set8 (w : World) (q : Nat) (x y z u v r s t : Value) : But q w ((((((((w.setCell ⟨q, 0, none⟩ x).setCell ⟨q, 1, none⟩ y).setCell ⟨q, 2, none⟩ z).setCell ⟨q, 3, none⟩ u).setCell ⟨q, 4, none⟩ v).setCell ⟨q, 5, none⟩ r).setCell ⟨q, 6, none⟩ s).setCell ⟨q, 7, none⟩ t) :=
  (Lea.But.set1 _ _ _ _).trans ((Lea.But.set1 _ _ _ _).trans ((Lea.But.set1 _ _ _ _).trans ((Lea.But.set1 _ _ _ _).trans ((Lea.But.set1 _ _ _ _).trans ((Lea.But.set1 _ _ _ _).trans ((Lea.But.set1 _ _ _ _).trans (Lea.But.set1 _ _ _ _)))))))

set_option maxRecDepth 100000 in
set_option maxHeartbeats 3200000 in
theorem numbersOf_any (e : Ev) (w : World) :
    Calls Tryz.prog 29 #[.agg #[.int .i64 e.d, .int .i64 e.host, .int .i64 e.zone, .int .i64 e.epoch, .int .i64 e.fr, .int .i64 e.to, .int .i64 e.now, .int .i64 e.key]] w fun en w' => en = .returned (.agg #[.int .i64 e.d, .int .i64 e.host, .int .i64 e.zone, .int .i64 e.epoch, .int .i64 e.fr, .int .i64 e.to, .int .i64 e.now, .int .i64 e.key]) ∧ Below w.heap.size w w' := by
  have L1 : Hid (Below w.heap.size w ((w.alloc (.cells #[.int .i64 e.d, .int .i64 e.host, .int .i64 e.zone, .int .i64 e.epoch, .int .i64 e.fr, .int .i64 e.to, .int .i64 e.now, .int .i64 e.key] 36)).alloc (.cells #[.int .i64 0, .int .i64 0, .int .i64 0, .int .i64 0, .int .i64 0, .int .i64 0, .int .i64 0, .int .i64 0] 76))) := ((Below.refl w.heap.size w).alloc (Nat.le_refl _) _).alloc (by simp) _
  have B1 : Hid (Cells ((w.alloc (.cells #[.int .i64 e.d, .int .i64 e.host, .int .i64 e.zone, .int .i64 e.epoch, .int .i64 e.fr, .int .i64 e.to, .int .i64 e.now, .int .i64 e.key] 36)).alloc (.cells #[.int .i64 0, .int .i64 0, .int .i64 0, .int .i64 0, .int .i64 0, .int .i64 0, .int .i64 0, .int .i64 0] 76)) w.heap.size 36 #[.int .i64 e.d, .int .i64 e.host, .int .i64 e.zone, .int .i64 e.epoch, .int .i64 e.fr, .int .i64 e.to, .int .i64 e.now, .int .i64 e.key]) := heap_alloc2_old w _ _
  have Z1 : Hid (Cells ((w.alloc (.cells #[.int .i64 e.d, .int .i64 e.host, .int .i64 e.zone, .int .i64 e.epoch, .int .i64 e.fr, .int .i64 e.to, .int .i64 e.now, .int .i64 e.key] 36)).alloc (.cells #[.int .i64 0, .int .i64 0, .int .i64 0, .int .i64 0, .int .i64 0, .int .i64 0, .int .i64 0, .int .i64 0] 76)) (w.heap.size + 1) 76 #[.int .i64 0, .int .i64 0, .int .i64 0, .int .i64 0, .int .i64 0, .int .i64 0, .int .i64 0, .int .i64 0]) := heap_alloc2_new w _ _
  go_enter Tryz.func29, Tryz.ntmps29
  go_upto_region 1 with fail
  generalize (w.alloc (.cells #[.int .i64 e.d, .int .i64 e.host, .int .i64 e.zone, .int .i64 e.epoch, .int .i64 e.fr, .int .i64 e.to, .int .i64 e.now, .int .i64 e.key] 36)).alloc (.cells #[.int .i64 0, .int .i64 0, .int .i64 0, .int .i64 0, .int .i64 0, .int .i64 0, .int .i64 0, .int .i64 0] 76) = w1 at *
  have y0 : w1.cell? ⟨w.heap.size, 0, none⟩ = some _ := Lea.Cells.cell B1.out 0
  have z0 : w1.cell? ⟨w.heap.size + 1, 0, none⟩ = some _ := Lea.Cells.cell Z1.out 0
  have f0 : w1.frozen? ⟨w.heap.size + 1, 0, none⟩ = false := Lea.Cells.frozen Z1.out 0
  have y1 : w1.cell? ⟨w.heap.size, 1, none⟩ = some _ := Lea.Cells.cell B1.out 1
  have z1 : w1.cell? ⟨w.heap.size + 1, 1, none⟩ = some _ := Lea.Cells.cell Z1.out 1
  have f1 : w1.frozen? ⟨w.heap.size + 1, 1, none⟩ = false := Lea.Cells.frozen Z1.out 1
  have y2 : w1.cell? ⟨w.heap.size, 2, none⟩ = some _ := Lea.Cells.cell B1.out 2
  have z2 : w1.cell? ⟨w.heap.size + 1, 2, none⟩ = some _ := Lea.Cells.cell Z1.out 2
  have f2 : w1.frozen? ⟨w.heap.size + 1, 2, none⟩ = false := Lea.Cells.frozen Z1.out 2
  have y3 : w1.cell? ⟨w.heap.size, 3, none⟩ = some _ := Lea.Cells.cell B1.out 3
  have z3 : w1.cell? ⟨w.heap.size + 1, 3, none⟩ = some _ := Lea.Cells.cell Z1.out 3
  have f3 : w1.frozen? ⟨w.heap.size + 1, 3, none⟩ = false := Lea.Cells.frozen Z1.out 3
  have y4 : w1.cell? ⟨w.heap.size, 4, none⟩ = some _ := Lea.Cells.cell B1.out 4
  have z4 : w1.cell? ⟨w.heap.size + 1, 4, none⟩ = some _ := Lea.Cells.cell Z1.out 4
  have f4 : w1.frozen? ⟨w.heap.size + 1, 4, none⟩ = false := Lea.Cells.frozen Z1.out 4
  have y5 : w1.cell? ⟨w.heap.size, 5, none⟩ = some _ := Lea.Cells.cell B1.out 5
  have z5 : w1.cell? ⟨w.heap.size + 1, 5, none⟩ = some _ := Lea.Cells.cell Z1.out 5
  have f5 : w1.frozen? ⟨w.heap.size + 1, 5, none⟩ = false := Lea.Cells.frozen Z1.out 5
  have y6 : w1.cell? ⟨w.heap.size, 6, none⟩ = some _ := Lea.Cells.cell B1.out 6
  have z6 : w1.cell? ⟨w.heap.size + 1, 6, none⟩ = some _ := Lea.Cells.cell Z1.out 6
  have f6 : w1.frozen? ⟨w.heap.size + 1, 6, none⟩ = false := Lea.Cells.frozen Z1.out 6
  have y7 : w1.cell? ⟨w.heap.size, 7, none⟩ = some _ := Lea.Cells.cell B1.out 7
  have z7 : w1.cell? ⟨w.heap.size + 1, 7, none⟩ = some _ := Lea.Cells.cell Z1.out 7
  have f7 : w1.frozen? ⟨w.heap.size + 1, 7, none⟩ = false := Lea.Cells.frozen Z1.out 7
  have hst := cells_set8 Z1.out (.int .i64 e.d) (.int .i64 e.host) (.int .i64 e.zone) (.int .i64 e.epoch) (.int .i64 e.fr) (.int .i64 e.to) (.int .i64 e.now) (.int .i64 e.key)
  have bt := but_set8 w1 (w.heap.size + 1) (.int .i64 e.d) (.int .i64 e.host) (.int .i64 e.zone) (.int .i64 e.epoch) (.int .i64 e.fr) (.int .i64 e.to) (.int .i64 e.now) (.int .i64 e.key)
  go_wp2_with fail
  refine bodyPost_ret_by (Lea.results_c0 rfl _ _ (w.heap.size + 1) _ _ _ _ rfl hst Tryz.underlying76 rfl (by kernel_rfl)) rfl ?_
  exact ⟨rfl, L1.out.trans (bt.below L1.out.size (by omega))⟩

set_option maxRecDepth 100000 in
set_option maxHeartbeats 3200000 in
theorem eventOf_any (e : Ev) (w : World) :
    Calls Tryz.prog 35 #[.agg #[.int .i64 e.d, .int .i64 e.host, .int .i64 e.zone, .int .i64 e.epoch, .int .i64 e.fr, .int .i64 e.to, .int .i64 e.now, .int .i64 e.key]] w fun en w' => en = .returned (.agg #[.int .i64 e.d, .int .i64 e.host, .int .i64 e.zone, .int .i64 e.epoch, .int .i64 e.fr, .int .i64 e.to, .int .i64 e.now, .int .i64 e.key]) ∧ Below w.heap.size w w' := by
  have L1 : Hid (Below w.heap.size w ((w.alloc (.cells #[.int .i64 e.d, .int .i64 e.host, .int .i64 e.zone, .int .i64 e.epoch, .int .i64 e.fr, .int .i64 e.to, .int .i64 e.now, .int .i64 e.key] 76)).alloc (.cells #[.int .i64 0, .int .i64 0, .int .i64 0, .int .i64 0, .int .i64 0, .int .i64 0, .int .i64 0, .int .i64 0] 36))) := ((Below.refl w.heap.size w).alloc (Nat.le_refl _) _).alloc (by simp) _
  have B1 : Hid (Cells ((w.alloc (.cells #[.int .i64 e.d, .int .i64 e.host, .int .i64 e.zone, .int .i64 e.epoch, .int .i64 e.fr, .int .i64 e.to, .int .i64 e.now, .int .i64 e.key] 76)).alloc (.cells #[.int .i64 0, .int .i64 0, .int .i64 0, .int .i64 0, .int .i64 0, .int .i64 0, .int .i64 0, .int .i64 0] 36)) w.heap.size 76 #[.int .i64 e.d, .int .i64 e.host, .int .i64 e.zone, .int .i64 e.epoch, .int .i64 e.fr, .int .i64 e.to, .int .i64 e.now, .int .i64 e.key]) := heap_alloc2_old w _ _
  have Z1 : Hid (Cells ((w.alloc (.cells #[.int .i64 e.d, .int .i64 e.host, .int .i64 e.zone, .int .i64 e.epoch, .int .i64 e.fr, .int .i64 e.to, .int .i64 e.now, .int .i64 e.key] 76)).alloc (.cells #[.int .i64 0, .int .i64 0, .int .i64 0, .int .i64 0, .int .i64 0, .int .i64 0, .int .i64 0, .int .i64 0] 36)) (w.heap.size + 1) 36 #[.int .i64 0, .int .i64 0, .int .i64 0, .int .i64 0, .int .i64 0, .int .i64 0, .int .i64 0, .int .i64 0]) := heap_alloc2_new w _ _
  go_enter Tryz.func35, Tryz.ntmps35
  go_upto_region 1 with fail
  generalize (w.alloc (.cells #[.int .i64 e.d, .int .i64 e.host, .int .i64 e.zone, .int .i64 e.epoch, .int .i64 e.fr, .int .i64 e.to, .int .i64 e.now, .int .i64 e.key] 76)).alloc (.cells #[.int .i64 0, .int .i64 0, .int .i64 0, .int .i64 0, .int .i64 0, .int .i64 0, .int .i64 0, .int .i64 0] 36) = w1 at *
  have y0 : w1.cell? ⟨w.heap.size, 0, none⟩ = some _ := Lea.Cells.cell B1.out 0
  have z0 : w1.cell? ⟨w.heap.size + 1, 0, none⟩ = some _ := Lea.Cells.cell Z1.out 0
  have f0 : w1.frozen? ⟨w.heap.size + 1, 0, none⟩ = false := Lea.Cells.frozen Z1.out 0
  have y1 : w1.cell? ⟨w.heap.size, 1, none⟩ = some _ := Lea.Cells.cell B1.out 1
  have z1 : w1.cell? ⟨w.heap.size + 1, 1, none⟩ = some _ := Lea.Cells.cell Z1.out 1
  have f1 : w1.frozen? ⟨w.heap.size + 1, 1, none⟩ = false := Lea.Cells.frozen Z1.out 1
  have y2 : w1.cell? ⟨w.heap.size, 2, none⟩ = some _ := Lea.Cells.cell B1.out 2
  have z2 : w1.cell? ⟨w.heap.size + 1, 2, none⟩ = some _ := Lea.Cells.cell Z1.out 2
  have f2 : w1.frozen? ⟨w.heap.size + 1, 2, none⟩ = false := Lea.Cells.frozen Z1.out 2
  have y3 : w1.cell? ⟨w.heap.size, 3, none⟩ = some _ := Lea.Cells.cell B1.out 3
  have z3 : w1.cell? ⟨w.heap.size + 1, 3, none⟩ = some _ := Lea.Cells.cell Z1.out 3
  have f3 : w1.frozen? ⟨w.heap.size + 1, 3, none⟩ = false := Lea.Cells.frozen Z1.out 3
  have y4 : w1.cell? ⟨w.heap.size, 4, none⟩ = some _ := Lea.Cells.cell B1.out 4
  have z4 : w1.cell? ⟨w.heap.size + 1, 4, none⟩ = some _ := Lea.Cells.cell Z1.out 4
  have f4 : w1.frozen? ⟨w.heap.size + 1, 4, none⟩ = false := Lea.Cells.frozen Z1.out 4
  have y5 : w1.cell? ⟨w.heap.size, 5, none⟩ = some _ := Lea.Cells.cell B1.out 5
  have z5 : w1.cell? ⟨w.heap.size + 1, 5, none⟩ = some _ := Lea.Cells.cell Z1.out 5
  have f5 : w1.frozen? ⟨w.heap.size + 1, 5, none⟩ = false := Lea.Cells.frozen Z1.out 5
  have y6 : w1.cell? ⟨w.heap.size, 6, none⟩ = some _ := Lea.Cells.cell B1.out 6
  have z6 : w1.cell? ⟨w.heap.size + 1, 6, none⟩ = some _ := Lea.Cells.cell Z1.out 6
  have f6 : w1.frozen? ⟨w.heap.size + 1, 6, none⟩ = false := Lea.Cells.frozen Z1.out 6
  have y7 : w1.cell? ⟨w.heap.size, 7, none⟩ = some _ := Lea.Cells.cell B1.out 7
  have z7 : w1.cell? ⟨w.heap.size + 1, 7, none⟩ = some _ := Lea.Cells.cell Z1.out 7
  have f7 : w1.frozen? ⟨w.heap.size + 1, 7, none⟩ = false := Lea.Cells.frozen Z1.out 7
  have hst := cells_set8 Z1.out (.int .i64 e.d) (.int .i64 e.host) (.int .i64 e.zone) (.int .i64 e.epoch) (.int .i64 e.fr) (.int .i64 e.to) (.int .i64 e.now) (.int .i64 e.key)
  have bt := but_set8 w1 (w.heap.size + 1) (.int .i64 e.d) (.int .i64 e.host) (.int .i64 e.zone) (.int .i64 e.epoch) (.int .i64 e.fr) (.int .i64 e.to) (.int .i64 e.now) (.int .i64 e.key)
  go_wp2_with fail
  refine bodyPost_ret_by (Lea.results_c0 rfl _ _ (w.heap.size + 1) _ _ _ _ rfl hst Tryz.underlying36 rfl (by kernel_rfl)) rfl ?_
  exact ⟨rfl, L1.out.trans (bt.below L1.out.size (by omega))⟩

def lst (e : Ev) : List Int := [e.d, e.host, e.zone, e.epoch, e.fr, e.to, e.now, e.key]
theorem row8 {w : World} {g : Nat} {ty : TypeId} {e : Ev} (h : Cells w g ty #[.int .i64 e.d, .int .i64 e.host, .int .i64 e.zone, .int .i64 e.epoch, .int .i64 e.fr, .int .i64 e.to, .int .i64 e.now, .int .i64 e.key]) : Row ci w (some ⟨g, 0, none⟩) 8 8 (lst e) := by
  refine ⟨rfl, by omega, by omega, fun _ => ⟨_, _, rfl, Lea.Cells.lt h, fun i x hi => ?_⟩⟩
  have hj : i < 8 := by have := (List.getElem?_eq_some_iff.1 hi).1; simpa [lst] using this
  rw [Nat.zero_add]
  match i, hj, hi with
  | 0, _, hi => have := Lea.Cells.cell h 0; simp [lst] at hi; subst hi; exact this
  | 1, _, hi => have := Lea.Cells.cell h 1; simp [lst] at hi; subst hi; exact this
  | 2, _, hi => have := Lea.Cells.cell h 2; simp [lst] at hi; subst hi; exact this
  | 3, _, hi => have := Lea.Cells.cell h 3; simp [lst] at hi; subst hi; exact this
  | 4, _, hi => have := Lea.Cells.cell h 4; simp [lst] at hi; subst hi; exact this
  | 5, _, hi => have := Lea.Cells.cell h 5; simp [lst] at hi; subst hi; exact this
  | 6, _, hi => have := Lea.Cells.cell h 6; simp [lst] at hi; subst hi; exact this
  | 7, _, hi => have := Lea.Cells.cell h 7; simp [lst] at hi; subst hi; exact this
set_option maxRecDepth 100000 in
set_option maxHeartbeats 3200000 in
theorem write_any {e : Ev} (hi : Ints e) (w : World) :
    Calls Tryz.prog 16 #[.agg #[.int .i64 e.d, .int .i64 e.host, .int .i64 e.zone, .int .i64 e.epoch, .int .i64 e.fr, .int .i64 e.to, .int .i64 e.now, .int .i64 e.key]] w fun en w' => (wroteB e = true ∧ ∃ A k c, en = .returned (.tuple #[.slice A k c, .int .i64 0]) ∧ Owns cb 5 w.heap.size w' (.slice A k c) k (bytesE e) ∧ Below w.heap.size w w') ∨ (wroteB e = false ∧ en = .returned (.tuple #[.slice none 0 0, .int .i64 1]) ∧ Below w.heap.size w w') := by
  have HI := Lib.hid hi
  have HN := fun w => Lib.hid (numbersOf_any e w)
  have L1 : Hid (Below w.heap.size w (w.alloc (.cells #[.int .i64 e.d, .int .i64 e.host, .int .i64 e.zone, .int .i64 e.epoch, .int .i64 e.fr, .int .i64 e.to, .int .i64 e.now, .int .i64 e.key] 36))) := (Below.refl w.heap.size w).alloc (Nat.le_refl _) _
  have B1 : Hid (Cells (w.alloc (.cells #[.int .i64 e.d, .int .i64 e.host, .int .i64 e.zone, .int .i64 e.epoch, .int .i64 e.fr, .int .i64 e.to, .int .i64 e.now, .int .i64 e.key] 36)) w.heap.size 36 #[.int .i64 e.d, .int .i64 e.host, .int .i64 e.zone, .int .i64 e.epoch, .int .i64 e.fr, .int .i64 e.to, .int .i64 e.now, .int .i64 e.key]) := Cells.new w _ _
  clear hi
  go_enter Tryz.func16, Tryz.ntmps16
  go_upto_region 1 with fail
  generalize w.alloc (.cells #[.int .i64 e.d, .int .i64 e.host, .int .i64 e.zone, .int .i64 e.epoch, .int .i64 e.fr, .int .i64 e.to, .int .i64 e.now, .int .i64 e.key] 36) = w1 at *
  have y0 : w1.cell? ⟨w.heap.size, 0, none⟩ = some _ := Lea.Cells.cell B1.out 0
  have y1 : w1.cell? ⟨w.heap.size, 1, none⟩ = some _ := Lea.Cells.cell B1.out 1
  have y2 : w1.cell? ⟨w.heap.size, 2, none⟩ = some _ := Lea.Cells.cell B1.out 2
  have y3 : w1.cell? ⟨w.heap.size, 3, none⟩ = some _ := Lea.Cells.cell B1.out 3
  have y4 : w1.cell? ⟨w.heap.size, 4, none⟩ = some _ := Lea.Cells.cell B1.out 4
  have y5 : w1.cell? ⟨w.heap.size, 5, none⟩ = some _ := Lea.Cells.cell B1.out 5
  have y6 : w1.cell? ⟨w.heap.size, 6, none⟩ = some _ := Lea.Cells.cell B1.out 6
  have y7 : w1.cell? ⟨w.heap.size, 7, none⟩ = some _ := Lea.Cells.cell B1.out 7
  go_wp2_with fail
  refine (HN w1).out.mono ?_
  rintro en w2 ⟨rfl, hb⟩
  have bb : Below w2.heap.size w2 (w2.alloc (.cells #[.int .i64 e.d, .int .i64 e.host, .int .i64 e.zone, .int .i64 e.epoch, .int .i64 e.fr, .int .i64 e.to, .int .i64 e.now, .int .i64 e.key] 76)) := (Below.refl _ w2).alloc (Nat.le_refl _) _
  have L3 : Hid (Below w.heap.size w (w2.alloc (.cells #[.int .i64 e.d, .int .i64 e.host, .int .i64 e.zone, .int .i64 e.epoch, .int .i64 e.fr, .int .i64 e.to, .int .i64 e.now, .int .i64 e.key] 76))) := (L1.out.trans (hb.mono L1.out.size)).trans (bb.mono (L1.out.trans (hb.mono L1.out.size)).size)
  have R3 : Hid (Row ci (w2.alloc (.cells #[.int .i64 e.d, .int .i64 e.host, .int .i64 e.zone, .int .i64 e.epoch, .int .i64 e.fr, .int .i64 e.to, .int .i64 e.now, .int .i64 e.key] 76)) (some ⟨w2.heap.size, 0, none⟩) 8 8 (lst e)) := row8 (Cells.new w2 _ _)
  clear bb hb HN
  go_upto_region 2 with fail
  generalize w2.alloc (.cells #[.int .i64 e.d, .int .i64 e.host, .int .i64 e.zone, .int .i64 e.epoch, .int .i64 e.fr, .int .i64 e.to, .int .i64 e.now, .int .i64 e.key] 76) = w3 at *
  generalize w2.heap.size = g at *
  have HNU := Lib.hid (Wire.nums_any R3.out HI.out (by omega))
  go_wp2_with fail
  refine HNU.out.mono ?_
  rintro en w4 (⟨h0, A, k, c, rfl, hO, hb⟩ | ⟨h0, rfl, hb⟩)
  · have OO := Lib.hid (hO.mono L3.out.size)
    have L4 := Lib.hid (L3.out.trans (hb.mono L3.out.size))
    have HW : Hid (wroteB e = true) := List.all_eq_true.2 fun z hz => decide_eq_true (h0 z hz)
    clear h0 hO hb
    go_wp2_with fail
    go_ret2
    exact .inl ⟨HW.out, A, k, c, rfl, OO.out, L4.out⟩
  · have L4 := Lib.hid (L3.out.trans (hb.mono L3.out.size))
    have HW : Hid (wroteB e = false) := by
      obtain ⟨z, hz, hn⟩ := h0
      exact List.all_eq_false.2 ⟨z, hz, by simp only [decide_eq_true_eq]; omega⟩
    clear h0 hb
    go_wp2_with fail
    go_ret2
    exact .inr ⟨HW.out, rfl, L4.out⟩
end Coo
end Go.Proofs.YtmflngclncidjaaGreat
/-
  WALKS: Replay, of a tape whose events are known. (Written by gen_cooreplay.py.)
-/
namespace Go.Proofs.YtmflngclncidjaaGreat
open Go.RowKit Mem
namespace Coo
open Lea (Cells But OneBox Lv Tv)
open Wire (B8 ints asInts)
theorem asInts_nats {e : Ev} (h : wroteB e = true) : asInts (nats e) = lst e := by
  unfold wroteB at h
  simp only [List.all_cons, List.all_nil, Bool.and_true, Bool.and_eq_true, decide_eq_true_eq] at h
  obtain ⟨h1, h2, h3, h4, h5, h6, h7, h8⟩ := h
  show [(e.d.toNat : Int), (e.host.toNat : Int), (e.zone.toNat : Int), (e.epoch.toNat : Int), (e.fr.toNat : Int), (e.to.toNat : Int), (e.now.toNat : Int), (e.key.toNat : Int)] = _
  rw [Int.toNat_of_nonneg h1, Int.toNat_of_nonneg h2, Int.toNat_of_nonneg h3, Int.toNat_of_nonneg h4, Int.toNat_of_nonneg h5, Int.toNat_of_nonneg h6, Int.toNat_of_nonneg h7, Int.toNat_of_nonneg h8]
  rfl
theorem run_at8 (A : Option Addr) (c : Nat) (w : World) : (Instr.arrayAt 76 (.slice A 8 c)).run Tryz.prog w = .ok (.pointer A) w := by
  simp [Instr.arrayAt, run_underlying Tryz.underlying76, Result.andThen]
structure RepI (w : World) (c : Cv) (l : List Ev) (rest : List B8) (base g r : Nat) (wr : World) (j : Nat) (x1 : Cx) (A : Option Addr) (n k : Nat) : Prop where
  p : x1.p = (allC c (l.take j)).1
  d : Desk base wr g x1
  a : Acts wr r g
  b : Below w.heap.size w wr
  z : Cells wr (w.heap.size + 1) 31 #[.int .i64 0, .int .i64 0, .slice none 0 0, .slice none 0 0, .slice none 0 0, .int .i64 0, .int .i64 0]
  t : Row cb w A n k (tapeE (l.drop j) ++ rest)
  len : n ≤ 1000000
theorem RepI.to {w : World} {c : Cv} {l : List Ev} {rest : List B8} {base g r : Nat} {wr w' : World} {j : Nat} {x1 : Cx} {A : Option Addr} {n k : Nat} (h : RepI w c l rest base g r wr j x1 A n k) (hb : Below wr.heap.size wr w') : RepI w c l rest base g r w' j x1 A n k :=
  ⟨h.p, h.d.below hb, h.a.below hb, h.b.trans (hb.mono h.b.size), Lea.Cells.below h.z hb, h.t, h.len⟩
theorem RepI.next {w : World} {c : Cv} {l : List Ev} {rest : List B8} {base g r : Nat} {wr w7 : World} {j : Nat} {x1 x2 : Cx} {A : Option Addr} {n k : Nat} {e : Ev} (h : RepI w c l rest base g r wr j x1 A n k) (he : l[j]? = some e) (hbase : w.heap.size ≤ base)
    (hp : x2.p = (doC x1.p e).1) (hd : Desk base w7 g x2) (hm : Move base g (oL x1) (oW x1) (oL x2) (oW x2) wr w7) :
    RepI w c l rest base g r w7 (j + 1) x2 (tailA A k (bytesE e).length) (n - (bytesE e).length) (k - (bytesE e).length) := by
  have hzoff : Off g (oL x1) (oW x1) (w.heap.size + 1) := ⟨cells_ne h.z h.d.box (by decide), own_ne h.d.l.1 h.z (by decide), own_ne h.d.f.1 h.z (by decide)⟩
  have hz7 := hm.keep _ (Lea.Cells.lt h.z) hzoff
  have hr7 := hm.keep r h.a.lt (h.a.off h.d)
  have hT : l.take (j + 1) = l.take j ++ [e] := by rw [List.take_add_one, he, Option.toList_some]
  have hD : l.drop j = e :: l.drop (j + 1) := by
    obtain ⟨h5, rfl⟩ := List.getElem?_eq_some_iff.1 he
    rw [← List.drop_eq_getElem_cons]
  have hlen : (bytesE e).length ≤ n := by
    have := h.t.len
    rw [hD, tape_cons, List.append_assoc, List.length_append] at this
    omega
  refine ⟨by rw [hT, all_snoc, hp, h.p], hd, hr7.1.trans h.a, h.b.trans (hm.below.mono hbase), hz7.1.trans h.z, ?_, by have := h.len; omega⟩
  have ht := h.t.tail hlen
  rw [hD, tape_cons, List.append_assoc, List.drop_left] at ht
  exact ht

set_option maxRecDepth 100000 in
set_option maxHeartbeats 12800000 in
theorem replay_any {x : Cx} {w : World} {A : Option Addr} {n k : Nat} {l : List Ev} {rest : List B8} (h : CoordAt w x) (hb : Row cb w A n k (tapeE l ++ rest)) (hr : (ints 8 rest).2.2 ≠ 0) (hl : ∀ e ∈ l, wroteB e = true ∧ Ints e) (hnow : ∀ e ∈ l, e.now ≤ 1152921504606846976) (hi : Inv x.p) (hbd : Bd x.p 0) (hm : l.length ≤ 100) (hn : n ≤ 1000000) :
    Calls Tryz.prog 17 #[cxv x, .slice A n k] w fun en w' => ∃ x', en = .returned (.tuple #[cxv x', .int .i64 (l.length : Int)]) ∧ x'.p = (allC x.p l).1 ∧ CoordAt w' x' ∧ Below w.heap.size w w' := by
  have HR := Lib.hid h
  have HB := Lib.hid hb
  have HRS := Lib.hid hr
  have HL := Lib.hid hl
  have HNW := Lib.hid hnow
  have HI := Lib.hid hi
  have HBD := Lib.hid hbd
  have HM := Lib.hid hm
  have HNN := Lib.hid hn
  have hn1 : x.n ≤ 1000000 := by have h1 := h.l.len; have h2 := hbd.len; omega
  have hn2 : x.m ≤ 1000000 := by have h1 := h.s.len; have h2 := hi.slen hbd; omega
  have hn3 : x.q ≤ 1000000 := by have h1 := h.f.len; have h2 := hbd.wlen; omega
  have HN := fun w (h : CoordAt w x) => Lib.hid (newDesk_any h hn1 hn2 hn3)
  have HA := fun g w => Lib.hid (acts_any g w)
  have L1 : Hid (Below w.heap.size w ((w.alloc (.cells #[.int .i64 x.p.t.last, .int .i64 x.p.t.now, .slice x.A x.n x.a, .slice x.S x.m x.s, .slice x.W x.q x.k, .int .i64 x.p.ttl, .int .i64 x.p.zones] 31)).alloc (.cells #[.int .i64 0, .int .i64 0, .slice none 0 0, .slice none 0 0, .slice none 0 0, .int .i64 0, .int .i64 0] 31))) := ((Below.refl w.heap.size w).alloc (Nat.le_refl _) _).alloc (by simp) _
  have B1 : Hid (CBox ((w.alloc (.cells #[.int .i64 x.p.t.last, .int .i64 x.p.t.now, .slice x.A x.n x.a, .slice x.S x.m x.s, .slice x.W x.q x.k, .int .i64 x.p.ttl, .int .i64 x.p.zones] 31)).alloc (.cells #[.int .i64 0, .int .i64 0, .slice none 0 0, .slice none 0 0, .slice none 0 0, .int .i64 0, .int .i64 0] 31)) w.heap.size x) := heap_alloc2_old w _ _
  have Z1 : Hid (Cells ((w.alloc (.cells #[.int .i64 x.p.t.last, .int .i64 x.p.t.now, .slice x.A x.n x.a, .slice x.S x.m x.s, .slice x.W x.q x.k, .int .i64 x.p.ttl, .int .i64 x.p.zones] 31)).alloc (.cells #[.int .i64 0, .int .i64 0, .slice none 0 0, .slice none 0 0, .slice none 0 0, .int .i64 0, .int .i64 0] 31)) (w.heap.size + 1) 31 #[.int .i64 0, .int .i64 0, .slice none 0 0, .slice none 0 0, .slice none 0 0, .int .i64 0, .int .i64 0]) := heap_alloc2_new w _ _
  clear h hb hr hl hnow hi hbd hm hn hn1 hn2 hn3
  go_enter Tryz.func17, Tryz.ntmps17
  go_upto_region 1 with fail
  generalize (w.alloc (.cells #[.int .i64 x.p.t.last, .int .i64 x.p.t.now, .slice x.A x.n x.a, .slice x.S x.m x.s, .slice x.W x.q x.k, .int .i64 x.p.ttl, .int .i64 x.p.zones] 31)).alloc (.cells #[.int .i64 0, .int .i64 0, .slice none 0 0, .slice none 0 0, .slice none 0 0, .int .i64 0, .int .i64 0] 31) = w1 at *
  obtain ⟨m0, m1, m2, m3, m4, m5, m6⟩ := seven B1.out
  go_wp2_with fail
  refine (HN w1 (HR.out.below L1.out)).out.mono ?_
  rintro e w2 ⟨g, x1, rfl, hp, hd, hb⟩
  have D2 := Lib.hid hd
  have P2 := Lib.hid hp
  have L2 := Lib.hid (L1.out.trans (hb.mono L1.out.size))
  have Z2 := Lib.hid (Lea.Cells.below Z1.out hb)
  have GB : Hid (w.heap.size ≤ w1.heap.size) := L1.out.size
  clear hb hd hp m0 m1 m2 m3 m4 m5 m6 L1 B1 Z1 HN
  generalize w1.heap.size = base at *
  go_wp2_with fail
  refine (HA g w2).out.mono ?_
  rintro e w3 ⟨rfl, hac, hb⟩
  have I3 : Hid (RepI w x.p l rest base g w2.heap.size w3 0 x1 A n k) := ⟨P2.out, D2.out.below hb, hac, L2.out.trans (hb.mono L2.out.size), Lea.Cells.below Z2.out hb, HB.out, HNN.out⟩
  clear hb hac D2 L2 Z2 HA P2
  generalize w2.heap.size = r at *
  go_wp2
  go_loopw [1, 8] (fun s i wr => ∃ (j : Nat) (A' : Option Addr) (n' k' : Nat), s = .slice A' n' k' ∧ i = .int .i64 j ∧ j ≤ l.length ∧ Hid (∃ x1, RepI w x.p l rest base g r wr j x1 A' n' k')) (fun _ i _ => l.length + 1 - (intOf i).toNat)
  case atStart => exact ⟨0, A, n, k, rfl, rfl, by omega, _, I3.out⟩
  case round =>
    obtain ⟨j, A', n', k', rfl, rfl, hj, hI⟩ := hrel
    obtain ⟨x2, hi1⟩ := hI.out
    have I5 := Lib.hid hi1
    clear hI hi1 I3
    have hjb : j ≤ 100 := by have := HM.out; omega
    by_cases hlt : j < l.length
    · obtain ⟨e, he⟩ : ∃ e, l[j]? = some e := ⟨_, List.getElem?_eq_getElem hlt⟩
      have hw := HL.out e (List.mem_of_getElem? he)
      have hno := HNW.out e (List.mem_of_getElem? he)
      have hD : l.drop j = e :: l.drop (j + 1) := by
        obtain ⟨h5, rfl⟩ := List.getElem?_eq_some_iff.1 he
        rw [← List.drop_eq_getElem_cons]
      have hint : ints 8 (tapeE (l.drop j) ++ rest) = (nats e, (bytesE e).length, 0) := by rw [hD, tape_cons, List.append_assoc]; exact one_read hw.2 _
      have hle : (bytesE e).length ≤ n' := by
        have := I5.out.t.len
        rw [hD, tape_cons, List.append_assoc, List.length_append] at this
        omega
      have HT := Lib.hid (Wire.takeNums_at (I5.out.t.below I5.out.b) I5.out.len 8 (by omega) hint)
      have HTL := Lib.hid (fun W => run_tail A' n' k' (bytesE e).length hle W)
      have HIJ : Hid (Inv x2.p) := by show Inv _; rw [I5.out.p]; exact all_inv _ HI.out
      have HBJ : Hid (Bd x2.p 100) := by
        show Bd _ _
        rw [I5.out.p]
        have := all_bd (l.take j) HI.out HBD.out (fun e he => HNW.out e (List.mem_of_mem_take he))
        exact this.mono (by rw [List.length_take]; omega)
      have HEV := fun W => Lib.hid (eventOf_any e W)
      have HEJ := Lib.hid he
      have HW := Lib.hid hw
      unfold Wire.TookN at HT
      rw [asInts_nats hw.1] at HT
      have hzz : (((0 : Nat) : Int) != 0) = false := rfl
      generalize hL : (bytesE e).length = L8 at *
      clear hint hD he hw hno hle
      go_wp2_with fail
      refine HT.out.mono ?_
      rintro e' w6 ⟨B, q, d, rfl, hO, hb⟩
      have hq : q = 8 := by have := hO.len; simpa [lst] using this.symm
      subst hq
      obtain ⟨A2, c2, hs2, hrow⟩ := Owns.row hO (by omega)
      injection hs2 with hs2 hs3 hs4
      subst hs2 hs4
      obtain ⟨bb, oo, rfl, -, hc⟩ := hrow.at_ (by omega)
      have I6 := Lib.hid (I5.out.to hb)
      have c0 : w6.cell? ⟨bb, oo, none⟩ = some (.int .i64 e.d) := hc 0 _ rfl
      have c1 : w6.cell? ⟨bb, oo + 1, none⟩ = some (.int .i64 e.host) := hc 1 _ rfl
      have c2 : w6.cell? ⟨bb, oo + 2, none⟩ = some (.int .i64 e.zone) := hc 2 _ rfl
      have c3 : w6.cell? ⟨bb, oo + 3, none⟩ = some (.int .i64 e.epoch) := hc 3 _ rfl
      have c4 : w6.cell? ⟨bb, oo + 4, none⟩ = some (.int .i64 e.fr) := hc 4 _ rfl
      have c5 : w6.cell? ⟨bb, oo + 5, none⟩ = some (.int .i64 e.to) := hc 5 _ rfl
      have c6 : w6.cell? ⟨bb, oo + 6, none⟩ = some (.int .i64 e.now) := hc 6 _ rfl
      have c7 : w6.cell? ⟨bb, oo + 7, none⟩ = some (.int .i64 e.key) := hc 7 _ rfl
      have hat := fun W => run_at8 (some ⟨bb, oo, none⟩) d W
      have htl := HTL.out
      clear hc hrow hO hb HT I5
      go_wp2_with fail
      refine (HEV w6).out.mono ?_
      rintro e' w7 ⟨rfl, hb⟩
      have I7 := Lib.hid (I6.out.to hb)
      clear hb I6 HEV c0 c1 c2 c3 c4 c5 c6 c7
      have HD := Lib.hid (do_any (e := e) I7.out.d I7.out.a HIJ.out HBJ.out (by omega))
      unfold Acted at HD
      go_wp2_with fail
      refine HD.out.mono ?_
      rintro e' w8 ⟨x3, Bq, nq, dq, rfl, hx, hd, -, -, hm8⟩
      have I8 := Lib.hid (I7.out.next HEJ.out GB.out hx hd hm8)
      rw [hL] at I8
      clear hx hd hm8 HD
      go_wp2_with fail
      go_roundw
      case rel => exact ⟨j + 1, _, _, _, rfl, by go_num, by omega, _, I8.out⟩
      case measure => simp [intOf]; omega
    · obtain rfl : j = l.length := by omega
      obtain ⟨ll, kk, ee, hint, hee⟩ : ∃ ll kk ee, ints 8 rest = (ll, kk, ee) ∧ ee ≠ 0 := ⟨_, _, _, rfl, HRS.out⟩
      have ht := I5.out.t
      rw [List.drop_length] at ht
      have HT := Lib.hid (Wire.takeNums_at (ht.below I5.out.b) I5.out.len 8 (by omega) hint)
      unfold Wire.TookN at HT
      have hne : ((ee : Int) != 0) = true := by simp only [bne_iff_ne, ne_eq]; omega
      clear ht hint hee
      go_wp2_with fail
      refine HT.out.mono ?_
      rintro e' w6 ⟨B, q, d, rfl, -, hb⟩
      have I6 := Lib.hid (I5.out.to hb)
      clear hb HT I5
      obtain ⟨d0, d1, d2, d3, d4, d5, d6⟩ := seven I6.out.d.box
      have hz := I6.out.z
      have v0 : w6.cell? ⟨w.heap.size + 1, 0, none⟩ = some (.int .i64 0) := Lea.Cells.cell hz 0
      have v1 : w6.cell? ⟨w.heap.size + 1, 1, none⟩ = some (.int .i64 0) := Lea.Cells.cell hz 1
      have v2 : w6.cell? ⟨w.heap.size + 1, 2, none⟩ = some (.slice none 0 0) := Lea.Cells.cell hz 2
      have v3 : w6.cell? ⟨w.heap.size + 1, 3, none⟩ = some (.slice none 0 0) := Lea.Cells.cell hz 3
      have v4 : w6.cell? ⟨w.heap.size + 1, 4, none⟩ = some (.slice none 0 0) := Lea.Cells.cell hz 4
      have v5 : w6.cell? ⟨w.heap.size + 1, 5, none⟩ = some (.int .i64 0) := Lea.Cells.cell hz 5
      have v6 : w6.cell? ⟨w.heap.size + 1, 6, none⟩ = some (.int .i64 0) := Lea.Cells.cell hz 6
      obtain ⟨f0, f1, f2, f3, f4, f5, f6⟩ := seven_frozen hz
      have HZ := Lib.hid hz
      clear hz
      go_wp2_with fail
      have hst := cells_set7 HZ.out (.int .i64 x2.p.t.last) (.int .i64 x2.p.t.now) (.slice x2.A x2.n x2.a) (.slice x2.S x2.m x2.s) (.slice x2.W x2.q x2.k) (.int .i64 x2.p.ttl) (.int .i64 x2.p.zones)
      have bt := but_set7 w6 (w.heap.size + 1) (.int .i64 x2.p.t.last) (.int .i64 x2.p.t.now) (.slice x2.A x2.n x2.a) (.slice x2.S x2.m x2.s) (.slice x2.W x2.q x2.k) (.int .i64 x2.p.ttl) (.int .i64 x2.p.zones)
      refine bodyPost_ret_by (Lea.results_c1 rfl _ _ (w.heap.size + 1) _ _ _ _ rfl hst Tryz.underlying31 rfl (by kernel_rfl)) rfl ?_
      have D9 := I6.out.d.but HZ.out bt (by decide) (by decide) (by decide) (by decide)
      have hp := I6.out.p
      rw [List.take_length] at hp
      have hij : Inv x2.p := by rw [hp]; exact all_inv _ HI.out
      have hbj : Bd x2.p 100 := by
        rw [hp]
        exact (all_bd l HI.out HBD.out HNW.out).mono (by have := HM.out; omega)
      refine ⟨x2, rfl, hp, ⟨Lea.OwnsL.row D9.l ?_, Spa.OwnsL.row D9.s ?_, OwnsF.row D9.f ?_⟩, I6.out.b.trans (bt.below I6.out.b.size (by omega))⟩
      · have h1 := D9.l.2; have h2 := hbj.len; omega
      · have h1 := D9.s.2; have h2 := hij.slen hbj; omega
      · have h1 := D9.f.2; have h2 := hbj.wlen; omega
end Coo
end Go.Proofs.YtmflngclncidjaaGreat
/-
  ROWS OF STRUCTS OF ONE'S OWN, IN ONE FOR ALL TYPES: an element's cells by a function of the prover's own.
-/
namespace Go.Proofs.YtmflngclncidjaaGreat
open Go.RowKit Mem
namespace OwnS
/-- Each element has k cells, each of one. -/
structure Fit {α : Type} (cells : α → List Value) (k : Nat) : Prop where
  pos : 0 < k
  len : ∀ x, (cells x).length = k
  one : ∀ x, ∀ u ∈ cells x, u.oneCell' = true
variable {α : Type} {cells : α → List Value} {k : Nat}
theorem flat_len (F : Fit cells k) (xs : List α) : (xs.flatMap cells).length = xs.length * k := by
  induction xs with
  | nil => simp
  | cons x xs ih => rw [List.flatMap_cons, List.length_append, ih, F.len, List.length_cons, Nat.succ_mul]; omega
theorem flat_one (F : Fit cells k) (xs : List α) : ∀ u ∈ xs.flatMap cells, u.oneCell' = true := by
  intro u hu
  obtain ⟨x, _, hx⟩ := List.mem_flatMap.1 hu
  exact F.one x u hx
theorem flat_get (F : Fit cells k) (xs : List α) (i j : Nat) (x : α) (v : Value) (hx : xs[i]? = some x) (hv : (cells x)[j]? = some v) : (xs.flatMap cells)[i * k + j]? = some v := by
  induction xs generalizing i with
  | nil => simp at hx
  | cons y xs ih =>
    have hj : j < k := by have := (List.getElem?_eq_some_iff.1 hv).1; rwa [F.len] at this
    rw [List.flatMap_cons]
    rcases i with _ | i
    · simp only [List.getElem?_cons_zero, Option.some.injEq] at hx
      subst hx
      rw [Nat.zero_mul, Nat.zero_add, List.getElem?_append_left (by rw [F.len]; exact hj)]
      exact hv
    · rw [Nat.succ_mul, List.getElem?_append_right (by rw [F.len]; omega), F.len]
      rw [show i * k + k + j - k = i * k + j by omega]
      exact ih i (by simpa using hx)
theorem flat_inv (F : Fit cells k) (xs : List α) (q : Nat) (v : Value) (h : (xs.flatMap cells)[q]? = some v) : ∃ x, xs[q / k]? = some x ∧ (cells x)[q % k]? = some v := by
  have hl : q < xs.length * k := by rw [← flat_len F]; exact (List.getElem?_eq_some_iff.1 h).1
  have hlt : q / k < xs.length := (Nat.div_lt_iff_lt_mul F.pos).2 hl
  have hx : xs[q / k]? = some xs[q / k] := List.getElem?_eq_getElem hlt
  have hm : q % k < (cells xs[q / k]).length := by rw [F.len]; exact Nat.mod_lt _ F.pos
  obtain ⟨u, hu⟩ : ∃ u, (cells xs[q / k])[q % k]? = some u := ⟨_, List.getElem?_eq_getElem hm⟩
  have := flat_get F xs (q / k) (q % k) _ u hx hu
  rw [show q / k * k + q % k = q by rw [Nat.mul_comm]; exact Nat.div_add_mod q k, h] at this
  injection this with this
  exact ⟨_, hx, by rw [this]; exact hu⟩
theorem row_flat (F : Fit cells k) {w : World} {A : Option Addr} {n c : Nat} {l : List α} (h : RowS cells k w A n c l) {b o : Nat} (hA : A = some ⟨b, o, none⟩) : ∀ j u, (l.flatMap cells)[j]? = some u → w.cell? ⟨b, o + j, none⟩ = some u := by
  intro j u hj
  obtain ⟨x, hx, hu⟩ := flat_inv F l j u hj
  have hn : j / k < l.length := (List.getElem?_eq_some_iff.1 hx).1
  obtain ⟨b', o', e, -, hc⟩ := h.at_ (Nat.lt_of_le_of_lt (Nat.zero_le _) (h.len ▸ hn))
  rw [hA] at e
  injection e with e
  injection e with e1 e2
  subst e1 e2
  have := hc (j / k) x hx (j % k) u hu
  rwa [show o + j / k * k + j % k = o + j by rw [Nat.add_assoc, Nat.mul_comm, Nat.div_add_mod]] at this
/-- A row of one's own. -/
def Owns (cells : α → List Value) (k : Nat) (e : TypeId) (base : Nat) (w : World) (s : Value) (n : Nat) (xs : List α) : Prop := w.ownsRow base e k s n (xs.flatMap cells) ∧ xs.length = n
section
variable {e : TypeId} {base : Nat} {w w' : World} {s : Value} {n : Nat} {xs : List α}
theorem Owns.nil (cells : α → List Value) (k : Nat) (e : TypeId) (base : Nat) (w : World) : Owns cells k e base w (.slice none 0 0) 0 [] := ⟨World.ownsRow_nil _ _ _ _, rfl⟩
theorem Owns.kept {row : Option Nat} (h : Owns cells k e base w s n xs) (hg : w.grownBy w' row) (hne : s.ownBlock = none ∨ s.ownBlock ≠ row) : Owns cells k e base w' s n xs := ⟨World.ownsRow.kept h.1 hg hne, h.2⟩
theorem Owns.below (h : Owns cells k e base w s n xs) (hb : Below w.heap.size w w') : Owns cells k e base w' s n xs := by
  refine ⟨⟨h.1.1, ?_⟩, h.2⟩
  rcases h.1.2 with hn | ⟨q, cap, cur, e', hbg, hq, r⟩
  · exact .inl hn
  · exact .inr ⟨q, cap, cur, e', hbg, (hb.block _ (Array.getElem?_eq_some_iff.1 hq).1).trans hq, r⟩
theorem Owns.alloc (h : Owns cells k e base w s n xs) (o : Obj) : Owns cells k e base (w.alloc o) s n xs := h.below ((Below.refl _ w).alloc (Nat.le_refl _) o)
theorem Owns.drew (h : Owns cells k e base w s n xs) : Owns cells k e base w.drew s n xs := h.below (Below.refl _ w).drew
theorem Owns.slice (h : Owns cells k e base w s n xs) : ∃ A c, s = .slice A n c := by
  rcases h.1.2 with ⟨rfl, rfl⟩ | ⟨g, cap, cur, rfl, _⟩
  · exact ⟨none, 0, rfl⟩
  · exact ⟨_, _, rfl⟩
theorem Owns.row (F : Fit cells k) {A : Option Addr} {c : Nat} (h : Owns cells k e base w (.slice A n c) n xs) (hn : n ≤ 140737488351232) : RowS cells k w A n c xs := by
  rcases h.1.2 with ⟨e, h0⟩ | ⟨g, cap, cur, e, _, hg, hnc, hcm, hs, ht⟩
  · subst h0
    injection e with e1 _ e3
    subst e1 e3
    exact ⟨h.2, by omega, by omega, fun h => absurd h (by omega)⟩
  · injection e with e1 _ e3
    subst e1 e3
    refine ⟨h.2, hnc, hn, fun _ => ⟨g, 0, rfl, (Array.getElem?_eq_some_iff.1 hg).1, fun i x hx j v hv => ?_⟩⟩
    have := World.ownsRow.cells (g := g) (h.1 : w.ownsRow base _ k _ n (xs.flatMap cells)) rfl (i * k + j) v (flat_get F xs i j x v hx hv)
    simpa [Mem.add_none, Nat.add_assoc] using this
theorem Owns.lt (h : Owns cells k e base w s n xs) : ∀ q, s.ownBlock = some q → base ≤ q ∧ q < w.heap.size := World.ownsRow.lt h.1
theorem below_row (h : Owns cells k e base w s n xs) (hg : w.grownBy w' s.ownBlock) (hb : base ≤ w.heap.size) : Below base w w' :=
  (Below.refl base w).grown hg hb (fun q hk => (h.lt q hk).1)
end
set_option maxRecDepth 100000 in
/-- append(s, x...) onto a row of the call's own; x nil, empty or not. -/
theorem run_append {P : Program} (F : Fit cells k) {t e : TypeId} (ht : P.underlying t = some (.slice e)) {z : Value} {bytes : Nat} (hinfo : (P.info? e).map (fun i => (i.zero, i.size, i.bytes)) = some (some z, k, bytes)) (hzs : z.cells.size = k) (hb1 : bytes ≤ 256)
    (w : World) (base : Nat) (s : Value) (n : Nat) (l : List α) (hown : Owns cells k e base w s n l) (A : Option Addr) (m c : Nat) (l' : List α) (hx : RowS cells k w A m c l') (hbig : n + m ≤ 1099511627) (hbase : base ≤ w.heap.size) :
    ∃ s' w', (Builtin.append_ #[t, t] t #[s, .slice A m c]).run P w = .ok s' w' ∧ Owns cells k e base w' s' (n + m) (l ++ l') ∧ w.grownBy w' s.ownBlock ∧ (s'.ownBlock = s.ownBlock ∨ s'.ownBlock = some w.heap.size) := by
  obtain ⟨i, hi, hz0, hz1, hz2⟩ := info_parts hinfo
  rcases A with _ | ad
  · have hm : m = 0 := by
      rcases Nat.eq_zero_or_pos m with h0 | h0
      · exact h0
      · obtain ⟨b, o, e, _⟩ := hx.at_ h0
        cases e
    have hl : l' = [] := List.eq_nil_of_length_eq_zero (by rw [hx.len, hm])
    subst hm hl
    refine ⟨s, w, ?_, by simpa using hown, ⟨rfl, rfl, rfl, Nat.le_refl _, fun _ _ _ => rfl⟩, .inl rfl⟩
    rcases hown.1.2 with ⟨rfl, rfl⟩ | ⟨b, cap, cur, rfl, _, _, hnc, _⟩
    · simp [Builtin.append_, run_underlying ht, sizeOf, typeInfo, hi, Builtin.lenOf, Builtin.firstCells]
    · simp [Builtin.append_, run_underlying ht, sizeOf, typeInfo, hi, Builtin.lenOf, Builtin.firstCells, hnc, storeCells]
  · have hcells : ∀ j q, (l'.flatMap cells)[j]? = some q → w.cell? (ad.add j) = some q := by
      intro j q hq
      have hlt : j < (l'.flatMap cells).length := (List.getElem?_eq_some_iff.1 hq).1
      rw [flat_len F] at hlt
      obtain ⟨b, o, e, _⟩ := hx.at_ (by have := hx.len; rcases Nat.eq_zero_or_pos m with h0 | h0; · rw [this, h0, Nat.zero_mul] at hlt; omega
                                        · exact h0)
      have := row_flat F hx e j q hq
      injection e with e
      subst e
      rw [Mem.add_none]
      exact this
    have hby : (n + m) * bytes ≤ 140737488355328 := Nat.le_trans (Nat.mul_le_mul_left _ hb1) (by omega)
    obtain ⟨s', w', hrun, h2, h3, -, h5⟩ := run_append_own_at (P := P) w base t t e i _ k bytes ht hi hz0 hz1 hz2 hzs F.pos s n _ hown.1 ad m c (l'.flatMap cells) (by rw [flat_len F, hx.len]) hcells (flat_one F l') (by unfold maxLen; omega) hby hbase
    exact ⟨s', w', hrun, ⟨by rw [List.flatMap_append]; exact h2, by rw [List.length_append, hown.2, hx.len]⟩, h3, h5⟩
theorem wpList_append {P : Program} (F : Fit cells k) {t e : TypeId} (ht : P.underlying t = some (.slice e)) {z : Value} {bytes : Nat} (hinfo : (P.info? e).map (fun i => (i.zero, i.size, i.bytes)) = some (some z, k, bytes)) (hzs : z.cells.size = k) (hb1 : bytes ≤ 256)
    {w : World} {ops : Array Oper} {rest : List Oper} {o : Oper} {a : Act} {Q : Exit → Act → World → Prop} (hgd : o.guard = none) (s x : Operand)
    (ho : o.op = .call { callee := .builtin .append, args := #[s, x], argTypes := #[t, t] }) (hty : o.type = t)
    (base : Nat) (sv : Value) (n : Nat) (l : List α) (hs : a.eval s = sv) (hown : Owns cells k e base w sv n l) (A : Option Addr) (m c : Nat) (l' : List α) (hx : a.eval x = .slice A m c) (h : RowS cells k w A m c l')
    (hbig : n + m ≤ 1099511627) (hbase : base ≤ w.heap.size)
    (hk : ∀ A' c' w', Owns cells k e base w' (.slice A' (n + m) c') (n + m) (l ++ l') → w.grownBy w' sv.ownBlock → ((Value.slice A' (n + m) c').ownBlock = sv.ownBlock ∨ (Value.slice A' (n + m) c').ownBlock = some w.heap.size) → wpList P ops Q rest (a.put o.dst (.slice A' (n + m) c')) w') :
    wpList P ops Q (o :: rest) a w := by
  refine wpList_plain hgd fun K hK => ?_
  obtain ⟨s', w', hrun, h2, h3, h4⟩ := run_append F ht hinfo hzs hb1 w base sv n l hown A m c l' h hbig hbase
  obtain ⟨A', c', rfl⟩ := h2.slice
  unfold Oper.wp execOp
  simp only [ho, hty, resolve, invoke, builtin, Sem.run_bind, Sem.run_pure, Result.andThen_ok, List.map_toArray, List.map_cons, List.map_nil, hs, hx, hrun]
  exact hK _ _ (hk A' c' w' h2 h3 h4)
end OwnS
end Go.Proofs.YtmflngclncidjaaGreat
