/-
  SEVERAL TEXTS IN ONE FILE: CooNew, CooEq.
-/
import Derived.Test.YtcpkgcckjphbfaaGreatJ31
import Derived.Test.YtcpkgcckjphbfaaGreatJ21
import Derived.Test.YtcpkgcckjphbfaaGreatJ08
import Derived.Laws.StructEq
/-
  WALKS: New, and the beginning of the laws. (Written by gen_cooeq.py.)
-/
namespace Go.Proofs.YtcpkgcckjphbfaaGreat
open Go.RowKit Mem
namespace Coo
open Lea (Cells But OneBox Lv Tv)
open Spa (Sp)

theorem CoordAt.butBox {w w' : World} {x : Cx} {p : Nat} (h : CoordAt w x) (hb : But p w w') (h1 : ∀ k o, x.A = some ⟨k, o, none⟩ → k ≠ p) (h2 : ∀ k o, x.S = some ⟨k, o, none⟩ → k ≠ p) (h3 : ∀ k o, x.W = some ⟨k, o, none⟩ → k ≠ p) : CoordAt w' x :=
  ⟨RowS.butBlock h.l (fun q o e _ => h1 q o e) hb, RowS.butBlock h.s (fun q o e _ => h2 q o e) hb, RowS.butBlock h.f (fun q o e _ => h3 q o e) hb⟩

set_option maxRecDepth 100000 in
set_option maxHeartbeats 3200000 in
theorem new_any {zones blocks ttl : Int} (w : World) (hz : 1 ≤ zones ∧ zones ≤ 64) (hb : 1 ≤ blocks ∧ blocks ≤ 1099511627776) (ht : 1 ≤ ttl ∧ ttl ≤ 1073741824) :
    Calls Tryz.prog 20 #[.int .i64 zones, .int .i64 blocks, .int .i64 ttl] w fun e w' => ∃ x', e = .returned (.tuple #[cxv x', .int .i64 0]) ∧ x'.p = newC zones blocks ttl ∧ CoordAt w' x' ∧ Below w.heap.size w w' ∧ Fresh w x' := by
  have hnp : Spa.newP blocks = ([⟨0, blocks, -1, 0⟩], 0) := by
    unfold Spa.newP Spa.newB
    rw [decide_eq_true hb.1, decide_eq_true hb.2]; rfl
  have HN := fun w => Lib.hid (Spa.new_any blocks w)
  unfold Spa.GaveS at HN
  rw [hnp] at HN
  have L1 : Hid (Below w.heap.size w (w.alloc (.cells #[.int .i64 0, .int .i64 0, .slice none 0 0, .slice none 0 0, .slice none 0 0, .int .i64 0, .int .i64 0] 31))) := (Below.refl w.heap.size w).alloc (Nat.le_refl _) _
  have Z1 : Hid (Cells (w.alloc (.cells #[.int .i64 0, .int .i64 0, .slice none 0 0, .slice none 0 0, .slice none 0 0, .int .i64 0, .int .i64 0] 31)) w.heap.size 31 #[.int .i64 0, .int .i64 0, .slice none 0 0, .slice none 0 0, .slice none 0 0, .int .i64 0, .int .i64 0]) := Cells.new w _ _
  have h1 : decide (zones < 1) = false := decide_eq_false (by omega)
  have h2 : decide ((64 : Int) < zones) = false := decide_eq_false (by omega)
  have h3 : decide (ttl < 1) = false := decide_eq_false (by omega)
  have h4 : decide ((1073741824 : Int) < ttl) = false := decide_eq_false (by omega)
  clear hz hb ht hnp
  go_enter Tryz.func20, Tryz.ntmps20
  go_upto_region 1 with fail
  generalize w.alloc (.cells #[.int .i64 0, .int .i64 0, .slice none 0 0, .slice none 0 0, .slice none 0 0, .int .i64 0, .int .i64 0] 31) = w1 at *
  go_wp2_with fail
  refine (HN w1).out.mono ?_
  rintro e w2 ⟨B, d, rfl, hO, hb⟩
  have L2 := Lib.hid (L1.out.trans (hb.mono L1.out.size))
  have Z2 := Lib.hid (Lea.Cells.below Z1.out hb)
  have S2 := Lib.hid (hO.mono L1.out.size)
  have S2' := Lib.hid hO
  have G1 : Hid (w.heap.size < w1.heap.size) := Lea.Cells.lt Z1.out
  clear hb hO Z1 L1 HN
  have v0 : w2.cell? ⟨w.heap.size, 0, none⟩ = some (.int .i64 0) := Lea.Cells.cell Z2.out 0
  have v1 : w2.cell? ⟨w.heap.size, 1, none⟩ = some (.int .i64 0) := Lea.Cells.cell Z2.out 1
  have v2 : w2.cell? ⟨w.heap.size, 2, none⟩ = some (.slice none 0 0) := Lea.Cells.cell Z2.out 2
  have v3 : w2.cell? ⟨w.heap.size, 3, none⟩ = some (.slice none 0 0) := Lea.Cells.cell Z2.out 3
  have v4 : w2.cell? ⟨w.heap.size, 4, none⟩ = some (.slice none 0 0) := Lea.Cells.cell Z2.out 4
  have v5 : w2.cell? ⟨w.heap.size, 5, none⟩ = some (.int .i64 0) := Lea.Cells.cell Z2.out 5
  have v6 : w2.cell? ⟨w.heap.size, 6, none⟩ = some (.int .i64 0) := Lea.Cells.cell Z2.out 6
  obtain ⟨f0, f1, f2, f3, f4, f5, f6⟩ := seven_frozen Z2.out
  go_wp2_with fail
  have hst := cells_set7 Z2.out (.int .i64 0) (.int .i64 0) (.slice none 0 0) (.slice B 1 d) (.slice none 0 0) (.int .i64 ttl) (.int .i64 zones)
  have bt := but_set7 w2 w.heap.size (.int .i64 0) (.int .i64 0) (.slice none 0 0) (.slice B 1 d) (.slice none 0 0) (.int .i64 ttl) (.int .i64 zones)
  refine bodyPost_ret_by (Lea.results_c1 rfl _ _ w.heap.size _ _ _ _ rfl hst Tryz.underlying31 rfl (by kernel_rfl)) rfl ?_
  exact ⟨⟨newC zones blocks ttl, none, 0, 0, B, 1, d, none, 0, 0⟩, rfl, rfl, ⟨RowS.nil _ _ _, Spa.OwnsL.row (Spa.OwnsL.but S2'.out ⟨bt.by_⟩ G1.out) (by show (1 : Nat) ≤ _; omega), RowS.nil _ _ _⟩, L2.out.trans (bt.below L2.out.size (Nat.le_refl _)), ⟨fun k o e => (by cases e), fun k o e => Nat.le_trans (Nat.le_of_lt G1.out) (Spa.OwnsL.lt S2'.out k (by rw [show B = some ⟨k, o, none⟩ from e]; rfl)).1, fun k o e => (by cases e)⟩⟩

set_option maxRecDepth 100000 in
set_option maxHeartbeats 3200000 in
theorem begin_any (zones ttl : Int) (w : World) :
    Calls Tryz.prog 9 #[.int .i64 zones, .int .i64 ttl] w fun e w' => ∃ x' z t, e = .returned (.tuple #[cxv x', .bool true]) ∧ (1 ≤ z ∧ z ≤ 8) ∧ (1 ≤ t ∧ t ≤ 50) ∧ x'.p = newC z 60 t ∧ CoordAt w' x' ∧ Below w.heap.size w w' ∧ Fresh w x' := by
  obtain ⟨r1, j1, a1, a2, a3, a4, a5, a6⟩ : ∃ (r : Int) (j : Nat), Int.tmod zones 8 = r ∧ -8 < r ∧ r < 8 ∧ Int.tmod (r + 8) 8 = j ∧ (r + 8) % 8 = j ∧ j < 8 := Cut.cut_at zones 8 (by omega)
  obtain ⟨r2, j2, b1, b2, b3, b4, b5, b6⟩ : ∃ (r : Int) (j : Nat), Int.tmod ttl 50 = r ∧ -50 < r ∧ r < 50 ∧ Int.tmod (r + 50) 50 = j ∧ (r + 50) % 50 = j ∧ j < 50 := Cut.cut_at ttl 50 (by omega)
  obtain ⟨z, hz⟩ : ∃ z : Int, z = 1 + (j1 : Int) := ⟨_, rfl⟩
  obtain ⟨t, ht⟩ : ∃ t : Int, t = 1 + (j2 : Int) := ⟨_, rfl⟩
  have hw1 : IntKind.i64.wrap (r1 + 8) = r1 + 8 := by rw [IntKind.wrap_i64]; omega
  have hw2 : IntKind.i64.wrap (r2 + 50) = r2 + 50 := by rw [IntKind.wrap_i64]; omega
  have hw3 : IntKind.i64.wrap (1 + (j1 : Int)) = z := by rw [IntKind.wrap_i64]; omega
  have hw4 : IntKind.i64.wrap (1 + (j2 : Int)) = t := by rw [IntKind.wrap_i64]; omega
  have HZ : Hid (1 ≤ z ∧ z ≤ 8) := ⟨by omega, by omega⟩
  have HT : Hid (1 ≤ t ∧ t ≤ 50) := ⟨by omega, by omega⟩
  have HN := fun w => Lib.hid (new_any (zones := z) (blocks := 60) (ttl := t) w ⟨HZ.out.1, by have := HZ.out; omega⟩ ⟨by omega, by omega⟩ ⟨HT.out.1, by have := HT.out; omega⟩)
  have L1 : Hid (Below w.heap.size w (w.alloc (.cells #[.int .i64 0, .int .i64 0, .slice none 0 0, .slice none 0 0, .slice none 0 0, .int .i64 0, .int .i64 0] 31))) := (Below.refl w.heap.size w).alloc (Nat.le_refl _) _
  have Z1 : Hid (Cells (w.alloc (.cells #[.int .i64 0, .int .i64 0, .slice none 0 0, .slice none 0 0, .slice none 0 0, .int .i64 0, .int .i64 0] 31)) w.heap.size 31 #[.int .i64 0, .int .i64 0, .slice none 0 0, .slice none 0 0, .slice none 0 0, .int .i64 0, .int .i64 0]) := Cells.new w _ _
  clear hz ht
  go_enter Tryz.func9, Tryz.ntmps9
  go_upto_region 1 with fail
  generalize w.alloc (.cells #[.int .i64 0, .int .i64 0, .slice none 0 0, .slice none 0 0, .slice none 0 0, .int .i64 0, .int .i64 0] 31) = w1 at *
  go_wp2_with fail
  refine (HN w1).out.mono ?_
  rintro e w2 ⟨x', rfl, hp, hat, hb, hfr⟩
  have FR := Lib.hid hfr
  have G1 : Hid (w.heap.size < w1.heap.size) := Lea.Cells.lt Z1.out
  have L2 := Lib.hid (L1.out.trans (hb.mono L1.out.size))
  have Z2 := Lib.hid (Lea.Cells.below Z1.out hb)
  have A2 := Lib.hid hat
  have P2 := Lib.hid hp
  have b3 : Below w2.heap.size w2 (w2.alloc (.cells #[.int .i64 x'.p.t.last, .int .i64 x'.p.t.now, .slice x'.A x'.n x'.a, .slice x'.S x'.m x'.s, .slice x'.W x'.q x'.k, .int .i64 x'.p.ttl, .int .i64 x'.p.zones] 31)) := (Below.refl _ w2).alloc (Nat.le_refl _) _
  have C3 : Hid (CBox (w2.alloc (.cells #[.int .i64 x'.p.t.last, .int .i64 x'.p.t.now, .slice x'.A x'.n x'.a, .slice x'.S x'.m x'.s, .slice x'.W x'.q x'.k, .int .i64 x'.p.ttl, .int .i64 x'.p.zones] 31)) w2.heap.size x') := Cells.new w2 _ _
  have L3 := Lib.hid (L2.out.trans (b3.mono L2.out.size))
  have Z3 := Lib.hid (Lea.Cells.below Z2.out b3)
  have A3 := Lib.hid (A2.out.below b3)
  have G2 : Hid (w.heap.size < w2.heap.size) := Lea.Cells.lt Z2.out
  clear hb hp hat hfr b3 Z2 L2 A2 Z1 L1 HN
  go_upto_region 2 with fail
  generalize w2.alloc (.cells #[.int .i64 x'.p.t.last, .int .i64 x'.p.t.now, .slice x'.A x'.n x'.a, .slice x'.S x'.m x'.s, .slice x'.W x'.q x'.k, .int .i64 x'.p.ttl, .int .i64 x'.p.zones] 31) = w3 at *
  generalize w2.heap.size = pC at *
  obtain ⟨m0, m1, m2, m3, m4, m5, m6⟩ := seven C3.out
  have v0 : w3.cell? ⟨w.heap.size, 0, none⟩ = some (.int .i64 0) := Lea.Cells.cell Z3.out 0
  have v1 : w3.cell? ⟨w.heap.size, 1, none⟩ = some (.int .i64 0) := Lea.Cells.cell Z3.out 1
  have v2 : w3.cell? ⟨w.heap.size, 2, none⟩ = some (.slice none 0 0) := Lea.Cells.cell Z3.out 2
  have v3 : w3.cell? ⟨w.heap.size, 3, none⟩ = some (.slice none 0 0) := Lea.Cells.cell Z3.out 3
  have v4 : w3.cell? ⟨w.heap.size, 4, none⟩ = some (.slice none 0 0) := Lea.Cells.cell Z3.out 4
  have v5 : w3.cell? ⟨w.heap.size, 5, none⟩ = some (.int .i64 0) := Lea.Cells.cell Z3.out 5
  have v6 : w3.cell? ⟨w.heap.size, 6, none⟩ = some (.int .i64 0) := Lea.Cells.cell Z3.out 6
  obtain ⟨f0, f1, f2, f3, f4, f5, f6⟩ := seven_frozen Z3.out
  go_wp2_with fail
  have hst := cells_set7 Z3.out (.int .i64 x'.p.t.last) (.int .i64 x'.p.t.now) (.slice x'.A x'.n x'.a) (.slice x'.S x'.m x'.s) (.slice x'.W x'.q x'.k) (.int .i64 x'.p.ttl) (.int .i64 x'.p.zones)
  have bt := but_set7 w3 w.heap.size (.int .i64 x'.p.t.last) (.int .i64 x'.p.t.now) (.slice x'.A x'.n x'.a) (.slice x'.S x'.m x'.s) (.slice x'.W x'.q x'.k) (.int .i64 x'.p.ttl) (.int .i64 x'.p.zones)
  refine bodyPost_ret_by (Lea.results_c1 rfl _ _ w.heap.size _ _ _ _ rfl hst Tryz.underlying31 rfl (by kernel_rfl)) rfl ?_
  have hq : ∀ k, w1.heap.size ≤ k → k ≠ w.heap.size := fun k hk => by have := G1.out; omega
  exact ⟨x', z, t, rfl, HZ.out, HT.out, P2.out, A3.out.butBox bt (fun k o e => hq k (FR.out.l k o e)) (fun k o e => hq k (FR.out.s k o e)) (fun k o e => hq k (FR.out.f k o e)), L3.out.trans (bt.below L3.out.size (Nat.le_refl _)), ⟨fun k o e => Nat.le_trans (Nat.le_of_lt G1.out) (FR.out.l k o e), fun k o e => Nat.le_trans (Nat.le_of_lt G1.out) (FR.out.s k o e), fun k o e => Nat.le_trans (Nat.le_of_lt G1.out) (FR.out.f k o e)⟩⟩

/-! ### few -/
def fewE (l : List Ev) : Bool := l.all (fun e => decide (e.now ≤ 1152921504606846976)) && decide (l.length ≤ 100)
theorem fewE_iff {l : List Ev} : fewE l = true ↔ (∀ e ∈ l, e.now ≤ 1152921504606846976) ∧ l.length ≤ 100 := by
  unfold fewE; simp only [Bool.and_eq_true, List.all_eq_true, decide_eq_true_eq]

set_option maxRecDepth 100000 in
set_option maxHeartbeats 3200000 in
theorem few_any {L : Option Addr} {m lc : Nat} {l : List Ev} {w : World} (hl : RowS cellsE 8 w L m lc l) :
    Calls Tryz.prog 8 #[.slice L m lc] w fun e w' => e = .returned (.bool (fewE l)) ∧ Below w.heap.size w w' := by
  have HL := Lib.hid hl
  have hbig := hl.big
  have HLN := Lib.hid hl.len
  clear hl
  go_enter Tryz.func8, Tryz.ntmps8
  go_wp2
  go_loopw [7] (fun i wr => ∃ j : Nat, i = .int .i64 j ∧ j ≤ m ∧ Hid (Below w.heap.size w wr ∧ ∀ k e, k < j → l[k]? = some e → e.now ≤ 1152921504606846976)) (fun i _ => m - (intOf i).toNat)
  case atStart => exact ⟨0, rfl, by omega, Below.refl _ _, fun k e hk => by omega⟩
  case round =>
    obtain ⟨j, rfl, hj, hH⟩ := hrel
    by_cases hlt : j < m
    · obtain ⟨e, he⟩ := HL.out.get hlt
      obtain ⟨b, o, rfl, c0, c1, c2, c3, c4, c5, c6, c7⟩ := ev_cells HL.out he hH.out.1
      have HE := Lib.hid he
      have hk0 : (0 : Int) ≤ (j : Int) := by omega
      have hk1 : (j : Int) < (m : Int) := by omega
      have b6 : Below wr.heap.size wr (wr.alloc (.cells #[.int .i64 e.d, .int .i64 e.host, .int .i64 e.zone, .int .i64 e.epoch, .int .i64 e.fr, .int .i64 e.to, .int .i64 e.now, .int .i64 e.key] 36)) := (Below.refl _ wr).alloc (Nat.le_refl _) _
      have L6 := Lib.hid (hH.out.1.trans (b6.mono hH.out.1.size))
      have X6 : Hid (EBox (wr.alloc (.cells #[.int .i64 e.d, .int .i64 e.host, .int .i64 e.zone, .int .i64 e.epoch, .int .i64 e.fr, .int .i64 e.to, .int .i64 e.now, .int .i64 e.key] 36)) wr.heap.size e) := Cells.new wr _ _
      clear he b6
      go_upto_region 4 with fail
      clear c0 c1 c2 c3 c4 c5 c6 c7
      generalize wr.alloc (.cells #[.int .i64 e.d, .int .i64 e.host, .int .i64 e.zone, .int .i64 e.epoch, .int .i64 e.fr, .int .i64 e.to, .int .i64 e.now, .int .i64 e.key] 36) = w6 at *
      generalize wr.heap.size = gx at *
      obtain ⟨y0, y1, y2, y3, y4, y5, y6, y7⟩ := EBox.cells X6.out
      rcases e1 : decide ((1152921504606846976 : Int) < e.now)
      · have HN : Hid (e.now ≤ 1152921504606846976) := by have := of_decide_eq_false e1; show _ ≤ _; omega
        go_wp2_with fail
        go_roundw
        case rel =>
          refine ⟨j + 1, by go_num, by omega, L6.out, fun k e' hk he' => ?_⟩
          by_cases h1 : k = j
          · subst h1
            have := HE.out.symm.trans he'
            injection this with this
            rw [← this]; exact HN.out
          · exact hH.out.2 k e' (by omega) he'
        case measure => simp [intOf]; omega
      · have HF : Hid (fewE l = false) := by
          show _ = _
          rcases e2 : fewE l
          · rfl
          · have := (fewE_iff.1 e2).1 e (List.mem_of_getElem? HE.out)
            have := of_decide_eq_true e1
            omega
        go_wp2_with fail
        go_ret
        exact ⟨by rw [HF.out]; rfl, L6.out⟩
    · obtain rfl : m = j := by omega
      have HF : Hid (fewE l = decide ((m : Int) ≤ 100)) := by
        show _ = _
        have hall : l.all (fun e => decide (e.now ≤ 1152921504606846976)) = true := List.all_eq_true.2 fun e he => by
          obtain ⟨i, hi⟩ := List.mem_iff_getElem?.1 he
          exact decide_eq_true (hH.out.2 i e (by have := (List.getElem?_eq_some_iff.1 hi).1; have := HLN.out; omega) hi)
        unfold fewE
        rw [hall, HLN.out, Bool.true_and]
        exact decide_eq_decide.2 (by omega)
      rcases e1 : decide ((m : Int) ≤ 100)
      all_goals
        go_wp2_with fail
        go_ret
        exact ⟨by rw [HF.out, e1]; rfl, hH.out.1⟩
end Coo
end Go.Proofs.YtcpkgcckjphbfaaGreat
/-
  WALKS: slices.Equal over leases, spans, fences that are the same; Same. (Written by gen_cooeq.py.)
-/
namespace Go.Proofs.YtcpkgcckjphbfaaGreat
open Go.RowKit Mem
namespace Coo
open Lea (Cells But OneBox Lv Tv)
open Spa (Sp)

theorem lease_guard : Tryz.prog.eqGuardType Tryz.prog.depth 65 = false := by kernel_rfl
theorem lease_equal (x : Lv) (w : World) : (Op.equalIn 10000 65 (.agg #[.int .i64 x.key, .int .i64 x.host, .int .i64 x.epoch, .int .i64 x.til]) (.agg #[.int .i64 x.key, .int .i64 x.host, .int .i64 x.epoch, .int .i64 x.til])).run Tryz.prog w = .ok true w := by
  have u3 := Tryz.underlying3
  have a3 := Tryz.isAgg3
  have z3 := Tryz.sizeOf3
  have hS : Tryz.prog.underlying 65 = some (.struct (Tryz.prog.fieldsOf 65)) := by kernel_rfl
  have hp : Tryz.prog.stoodInHeld 65 = false := by kernel_rfl
  rw [show (10000 : Nat) = 9999 + 1 from rfl, run_equalIn_agg w 9999 65 _ _ hS hp]
  simp only [Program.fieldsOf, Tryz.underlying65]
  go_simp
  try simp
theorem lease_eql (x : Lv) (w : World) : (binOp .eql 65 (.agg #[.int .i64 x.key, .int .i64 x.host, .int .i64 x.epoch, .int .i64 x.til]) (.agg #[.int .i64 x.key, .int .i64 x.host, .int .i64 x.epoch, .int .i64 x.til])).run Tryz.prog w = .ok (.bool true) w := by
  rw [run_eql_struct, lease_equal]; rfl
theorem lease_neq (x : Lv) (w : World) : (binOp .neq 65 (.agg #[.int .i64 x.key, .int .i64 x.host, .int .i64 x.epoch, .int .i64 x.til]) (.agg #[.int .i64 x.key, .int .i64 x.host, .int .i64 x.epoch, .int .i64 x.til])).run Tryz.prog w = .ok (.bool false) w := by
  rw [run_neq_struct, lease_equal]; rfl

set_option maxRecDepth 100000 in
set_option maxHeartbeats 3200000 in
theorem lease_same {w : World} {A B : Option Addr} {n c d : Nat} {l : List Lv} (h : Lea.RowL w A n c l) (h2 : Lea.RowL w B n d l) (hn : n ≤ 1000000) :
    Calls Tryz.prog 21 #[.slice A n c, .slice B n d] w fun e w' => e = .returned (.bool true) ∧ Below w.heap.size w w' := by
  have HA := Lib.hid h
  have HB := Lib.hid h2
  have hbig := h.big
  clear h h2
  go_enter Tryz.func21, Tryz.ntmps21
  go_wp2
  go_loopw [5, 13] (fun _ i wr => ∃ k : Nat, i = .int .i64 k ∧ k ≤ n ∧ Hid (Below w.heap.size w wr)) (fun _ i _ => n - (intOf i).toNat)
  case atStart => exact ⟨0, rfl, by omega, Below.refl _ _⟩
  case round =>
    obtain ⟨k, rfl, hk, hH⟩ := hrel
    by_cases hlt : k < n
    · obtain ⟨x, hx⟩ := HA.out.get hlt
      obtain ⟨b, o, hA, c0, c1, c2, c3⟩ := Lea.RowS.lease_at (RowS.below HA.out hH.out) hx
      obtain ⟨b', o', hB, d0, d1, d2, d3⟩ := Lea.RowS.lease_at (RowS.below HB.out hH.out) hx
      subst hA hB
      have hk0 : (0 : Int) ≤ (k : Int) := by omega
      have hkn : (k : Int) < (n : Int) := by omega
      have hne := fun w => lease_neq x w
      have hgd := lease_guard
      clear hx
      go_upto_region 6 with fail
      refine wp_region_held_drew (S := fun W => (W.cell? ⟨b, o + k * 4, none⟩ = some (.int .i64 x.key) ∧ W.cell? ⟨b, o + k * 4 + 1, none⟩ = some (.int .i64 x.host) ∧ W.cell? ⟨b, o + k * 4 + 2, none⟩ = some (.int .i64 x.epoch) ∧ W.cell? ⟨b, o + k * 4 + 3, none⟩ = some (.int .i64 x.til)) ∧ (W.cell? ⟨b', o' + k * 4, none⟩ = some (.int .i64 x.key) ∧ W.cell? ⟨b', o' + k * 4 + 1, none⟩ = some (.int .i64 x.host) ∧ W.cell? ⟨b', o' + k * 4 + 2, none⟩ = some (.int .i64 x.epoch) ∧ W.cell? ⟨b', o' + k * 4 + 3, none⟩ = some (.int .i64 x.til))) (by kernel_rfl) ⟨⟨c0, c1, c2, c3⟩, ⟨d0, d1, d2, d3⟩⟩ (fun hHeld => ?_)
      (first | (refine Reg.take 0 (v := ?_) rfl (by kernel_rfl) (by kernel_rfl) (by kernel_rfl) (fun _ _ _ h => h) (Or.inl ⟨by rfl, ?_⟩) (by assumption) ?_; rotate_left; (focus ((intro W hSW); (try dsimp only at hSW); (try go_split_ands); go_simp; (try (with_reducible rfl)); done))) | (refine Reg.take 0 (v := undef) rfl (by kernel_rfl) (by kernel_rfl) (by kernel_rfl) (fun _ _ _ h => h) (Or.inr ⟨by rfl, rfl⟩) (by assumption) ?_))
      (try simp only [Act.put, List.setIfInBounds_toArray, List.set_cons_zero, List.set_cons_succ])
      (first | (refine Reg.take 1 (v := ?_) rfl (by kernel_rfl) (by kernel_rfl) (by kernel_rfl) (fun _ _ _ h => h) (Or.inl ⟨by rfl, ?_⟩) (by assumption) ?_; rotate_left; (focus ((intro W hSW); (try dsimp only at hSW); (try go_split_ands); go_simp; (try (with_reducible rfl)); done))) | (refine Reg.take 1 (v := undef) rfl (by kernel_rfl) (by kernel_rfl) (by kernel_rfl) (fun _ _ _ h => h) (Or.inr ⟨by rfl, rfl⟩) (by assumption) ?_))
      (try simp only [Act.put, List.setIfInBounds_toArray, List.set_cons_zero, List.set_cons_succ])
      (first | (refine Reg.take 2 (v := ?_) rfl (by kernel_rfl) (by kernel_rfl) (by kernel_rfl) (fun _ _ _ h => h) (Or.inl ⟨by rfl, ?_⟩) (by assumption) ?_; rotate_left; (focus ((intro W hSW); (try dsimp only at hSW); (try go_split_ands); go_simp; (try (with_reducible rfl)); done))) | (refine Reg.take 2 (v := undef) rfl (by kernel_rfl) (by kernel_rfl) (by kernel_rfl) (fun _ _ _ h => h) (Or.inr ⟨by rfl, rfl⟩) (by assumption) ?_))
      (try simp only [Act.put, List.setIfInBounds_toArray, List.set_cons_zero, List.set_cons_succ])
      (first | (refine Reg.take 3 (v := ?_) rfl (by kernel_rfl) (by kernel_rfl) (by kernel_rfl) (fun _ _ _ h => h) (Or.inl ⟨by rfl, ?_⟩) (by assumption) ?_; rotate_left; (focus ((intro W hSW); (try dsimp only at hSW); (try go_split_ands); go_simp; (try (with_reducible rfl)); done))) | (refine Reg.take 3 (v := undef) rfl (by kernel_rfl) (by kernel_rfl) (by kernel_rfl) (fun _ _ _ h => h) (Or.inr ⟨by rfl, rfl⟩) (by assumption) ?_))
      (try simp only [Act.put, List.setIfInBounds_toArray, List.set_cons_zero, List.set_cons_succ])
      (first | (refine Reg.take 4 (v := ?_) rfl (by kernel_rfl) (by kernel_rfl) (by kernel_rfl) (fun _ _ _ h => h) (Or.inl ⟨by rfl, ?_⟩) (by assumption) ?_; rotate_left; (focus ((intro W hSW); (try dsimp only at hSW); (try go_split_ands); go_simp; (try (with_reducible rfl)); done))) | (refine Reg.take 4 (v := undef) rfl (by kernel_rfl) (by kernel_rfl) (by kernel_rfl) (fun _ _ _ h => h) (Or.inr ⟨by rfl, rfl⟩) (by assumption) ?_))
      (try simp only [Act.put, List.setIfInBounds_toArray, List.set_cons_zero, List.set_cons_succ])
      (first | (refine Reg.take 5 (v := ?_) rfl (by kernel_rfl) (by kernel_rfl) (by kernel_rfl) (fun _ _ _ h => h) (Or.inl ⟨by rfl, ?_⟩) (by assumption) ?_; rotate_left; (focus ((intro W hSW); (try dsimp only at hSW); (try go_split_ands); go_simp; (try (with_reducible rfl)); done))) | (refine Reg.take 5 (v := undef) rfl (by kernel_rfl) (by kernel_rfl) (by kernel_rfl) (fun _ _ _ h => h) (Or.inr ⟨by rfl, rfl⟩) (by assumption) ?_))
      (try simp only [Act.put, List.setIfInBounds_toArray, List.set_cons_zero, List.set_cons_succ])
      (first | (refine Reg.take 6 (v := ?_) rfl (by kernel_rfl) (by kernel_rfl) (by kernel_rfl) (fun _ _ _ h => h) (Or.inl ⟨by rfl, ?_⟩) (by assumption) ?_; rotate_left; (focus ((intro W hSW); (try dsimp only at hSW); (try go_split_ands); go_simp; (try (with_reducible rfl)); done))) | (refine Reg.take 6 (v := undef) rfl (by kernel_rfl) (by kernel_rfl) (by kernel_rfl) (fun _ _ _ h => h) (Or.inr ⟨by rfl, rfl⟩) (by assumption) ?_))
      (try simp only [Act.put, List.setIfInBounds_toArray, List.set_cons_zero, List.set_cons_succ])
      (first | (refine Reg.take 7 (v := ?_) rfl (by kernel_rfl) (by kernel_rfl) (by kernel_rfl) (fun _ _ _ h => h) (Or.inl ⟨by rfl, ?_⟩) (by assumption) ?_; rotate_left; (focus ((intro W hSW); (try dsimp only at hSW); (try go_split_ands); go_simp; (try (with_reducible rfl)); done))) | (refine Reg.take 7 (v := undef) rfl (by kernel_rfl) (by kernel_rfl) (by kernel_rfl) (fun _ _ _ h => h) (Or.inr ⟨by rfl, rfl⟩) (by assumption) ?_))
      (try simp only [Act.put, List.setIfInBounds_toArray, List.set_cons_zero, List.set_cons_succ])
      refine Reg.step 8 rfl (by kernel_rfl) (by rfl) (fun K hK => ?_)
      go_simp
      refine hK.out _ _ hHeld (fun hHeld2 => ?_)
      clear hK K
      (try simp only [Act.put, List.setIfInBounds_toArray, List.set_cons_zero, List.set_cons_succ])
      refine wpAnyH_done (by kernel_rfl) ?_ _
      go_wp2_with fail
      go_roundw
      case rel => exact ⟨k + 1, by go_num, by omega, hH.out.drew⟩
      case measure => simp [intOf]; omega
    · go_wp2_with fail
      go_ret
      exact ⟨rfl, hH.out⟩

theorem span_guard : Tryz.prog.eqGuardType Tryz.prog.depth 48 = false := by kernel_rfl
theorem span_equal (x : Sp) (w : World) : (Op.equalIn 10000 48 (.agg #[.int .i64 x.fr, .int .i64 x.to, .int .i64 x.own, .int .i64 x.ep]) (.agg #[.int .i64 x.fr, .int .i64 x.to, .int .i64 x.own, .int .i64 x.ep])).run Tryz.prog w = .ok true w := by
  have u3 := Tryz.underlying3
  have a3 := Tryz.isAgg3
  have z3 := Tryz.sizeOf3
  have hS : Tryz.prog.underlying 48 = some (.struct (Tryz.prog.fieldsOf 48)) := by kernel_rfl
  have hp : Tryz.prog.stoodInHeld 48 = false := by kernel_rfl
  rw [show (10000 : Nat) = 9999 + 1 from rfl, run_equalIn_agg w 9999 48 _ _ hS hp]
  simp only [Program.fieldsOf, Tryz.underlying48]
  go_simp
  try simp
theorem span_eql (x : Sp) (w : World) : (binOp .eql 48 (.agg #[.int .i64 x.fr, .int .i64 x.to, .int .i64 x.own, .int .i64 x.ep]) (.agg #[.int .i64 x.fr, .int .i64 x.to, .int .i64 x.own, .int .i64 x.ep])).run Tryz.prog w = .ok (.bool true) w := by
  rw [run_eql_struct, span_equal]; rfl
theorem span_neq (x : Sp) (w : World) : (binOp .neq 48 (.agg #[.int .i64 x.fr, .int .i64 x.to, .int .i64 x.own, .int .i64 x.ep]) (.agg #[.int .i64 x.fr, .int .i64 x.to, .int .i64 x.own, .int .i64 x.ep])).run Tryz.prog w = .ok (.bool false) w := by
  rw [run_neq_struct, span_equal]; rfl

set_option maxRecDepth 100000 in
set_option maxHeartbeats 3200000 in
theorem span_same {w : World} {A B : Option Addr} {n c d : Nat} {l : List Sp} (h : Spa.RowL w A n c l) (h2 : Spa.RowL w B n d l) (hn : n ≤ 1000000) :
    Calls Tryz.prog 22 #[.slice A n c, .slice B n d] w fun e w' => e = .returned (.bool true) ∧ Below w.heap.size w w' := by
  have HA := Lib.hid h
  have HB := Lib.hid h2
  have hbig := h.big
  clear h h2
  go_enter Tryz.func22, Tryz.ntmps22
  go_wp2
  go_loopw [5, 13] (fun _ i wr => ∃ k : Nat, i = .int .i64 k ∧ k ≤ n ∧ Hid (Below w.heap.size w wr)) (fun _ i _ => n - (intOf i).toNat)
  case atStart => exact ⟨0, rfl, by omega, Below.refl _ _⟩
  case round =>
    obtain ⟨k, rfl, hk, hH⟩ := hrel
    by_cases hlt : k < n
    · obtain ⟨x, hx⟩ := HA.out.get hlt
      obtain ⟨b, o, hA, c0, c1, c2, c3⟩ := Spa.RowS.span_at (RowS.below HA.out hH.out) hx
      obtain ⟨b', o', hB, d0, d1, d2, d3⟩ := Spa.RowS.span_at (RowS.below HB.out hH.out) hx
      subst hA hB
      have hk0 : (0 : Int) ≤ (k : Int) := by omega
      have hkn : (k : Int) < (n : Int) := by omega
      have hne := fun w => span_neq x w
      have hgd := span_guard
      clear hx
      go_upto_region 6 with fail
      refine wp_region_held_drew (S := fun W => (W.cell? ⟨b, o + k * 4, none⟩ = some (.int .i64 x.fr) ∧ W.cell? ⟨b, o + k * 4 + 1, none⟩ = some (.int .i64 x.to) ∧ W.cell? ⟨b, o + k * 4 + 2, none⟩ = some (.int .i64 x.own) ∧ W.cell? ⟨b, o + k * 4 + 3, none⟩ = some (.int .i64 x.ep)) ∧ (W.cell? ⟨b', o' + k * 4, none⟩ = some (.int .i64 x.fr) ∧ W.cell? ⟨b', o' + k * 4 + 1, none⟩ = some (.int .i64 x.to) ∧ W.cell? ⟨b', o' + k * 4 + 2, none⟩ = some (.int .i64 x.own) ∧ W.cell? ⟨b', o' + k * 4 + 3, none⟩ = some (.int .i64 x.ep))) (by kernel_rfl) ⟨⟨c0, c1, c2, c3⟩, ⟨d0, d1, d2, d3⟩⟩ (fun hHeld => ?_)
      (first | (refine Reg.take 0 (v := ?_) rfl (by kernel_rfl) (by kernel_rfl) (by kernel_rfl) (fun _ _ _ h => h) (Or.inl ⟨by rfl, ?_⟩) (by assumption) ?_; rotate_left; (focus ((intro W hSW); (try dsimp only at hSW); (try go_split_ands); go_simp; (try (with_reducible rfl)); done))) | (refine Reg.take 0 (v := undef) rfl (by kernel_rfl) (by kernel_rfl) (by kernel_rfl) (fun _ _ _ h => h) (Or.inr ⟨by rfl, rfl⟩) (by assumption) ?_))
      (try simp only [Act.put, List.setIfInBounds_toArray, List.set_cons_zero, List.set_cons_succ])
      (first | (refine Reg.take 1 (v := ?_) rfl (by kernel_rfl) (by kernel_rfl) (by kernel_rfl) (fun _ _ _ h => h) (Or.inl ⟨by rfl, ?_⟩) (by assumption) ?_; rotate_left; (focus ((intro W hSW); (try dsimp only at hSW); (try go_split_ands); go_simp; (try (with_reducible rfl)); done))) | (refine Reg.take 1 (v := undef) rfl (by kernel_rfl) (by kernel_rfl) (by kernel_rfl) (fun _ _ _ h => h) (Or.inr ⟨by rfl, rfl⟩) (by assumption) ?_))
      (try simp only [Act.put, List.setIfInBounds_toArray, List.set_cons_zero, List.set_cons_succ])
      (first | (refine Reg.take 2 (v := ?_) rfl (by kernel_rfl) (by kernel_rfl) (by kernel_rfl) (fun _ _ _ h => h) (Or.inl ⟨by rfl, ?_⟩) (by assumption) ?_; rotate_left; (focus ((intro W hSW); (try dsimp only at hSW); (try go_split_ands); go_simp; (try (with_reducible rfl)); done))) | (refine Reg.take 2 (v := undef) rfl (by kernel_rfl) (by kernel_rfl) (by kernel_rfl) (fun _ _ _ h => h) (Or.inr ⟨by rfl, rfl⟩) (by assumption) ?_))
      (try simp only [Act.put, List.setIfInBounds_toArray, List.set_cons_zero, List.set_cons_succ])
      (first | (refine Reg.take 3 (v := ?_) rfl (by kernel_rfl) (by kernel_rfl) (by kernel_rfl) (fun _ _ _ h => h) (Or.inl ⟨by rfl, ?_⟩) (by assumption) ?_; rotate_left; (focus ((intro W hSW); (try dsimp only at hSW); (try go_split_ands); go_simp; (try (with_reducible rfl)); done))) | (refine Reg.take 3 (v := undef) rfl (by kernel_rfl) (by kernel_rfl) (by kernel_rfl) (fun _ _ _ h => h) (Or.inr ⟨by rfl, rfl⟩) (by assumption) ?_))
      (try simp only [Act.put, List.setIfInBounds_toArray, List.set_cons_zero, List.set_cons_succ])
      (first | (refine Reg.take 4 (v := ?_) rfl (by kernel_rfl) (by kernel_rfl) (by kernel_rfl) (fun _ _ _ h => h) (Or.inl ⟨by rfl, ?_⟩) (by assumption) ?_; rotate_left; (focus ((intro W hSW); (try dsimp only at hSW); (try go_split_ands); go_simp; (try (with_reducible rfl)); done))) | (refine Reg.take 4 (v := undef) rfl (by kernel_rfl) (by kernel_rfl) (by kernel_rfl) (fun _ _ _ h => h) (Or.inr ⟨by rfl, rfl⟩) (by assumption) ?_))
      (try simp only [Act.put, List.setIfInBounds_toArray, List.set_cons_zero, List.set_cons_succ])
      (first | (refine Reg.take 5 (v := ?_) rfl (by kernel_rfl) (by kernel_rfl) (by kernel_rfl) (fun _ _ _ h => h) (Or.inl ⟨by rfl, ?_⟩) (by assumption) ?_; rotate_left; (focus ((intro W hSW); (try dsimp only at hSW); (try go_split_ands); go_simp; (try (with_reducible rfl)); done))) | (refine Reg.take 5 (v := undef) rfl (by kernel_rfl) (by kernel_rfl) (by kernel_rfl) (fun _ _ _ h => h) (Or.inr ⟨by rfl, rfl⟩) (by assumption) ?_))
      (try simp only [Act.put, List.setIfInBounds_toArray, List.set_cons_zero, List.set_cons_succ])
      (first | (refine Reg.take 6 (v := ?_) rfl (by kernel_rfl) (by kernel_rfl) (by kernel_rfl) (fun _ _ _ h => h) (Or.inl ⟨by rfl, ?_⟩) (by assumption) ?_; rotate_left; (focus ((intro W hSW); (try dsimp only at hSW); (try go_split_ands); go_simp; (try (with_reducible rfl)); done))) | (refine Reg.take 6 (v := undef) rfl (by kernel_rfl) (by kernel_rfl) (by kernel_rfl) (fun _ _ _ h => h) (Or.inr ⟨by rfl, rfl⟩) (by assumption) ?_))
      (try simp only [Act.put, List.setIfInBounds_toArray, List.set_cons_zero, List.set_cons_succ])
      (first | (refine Reg.take 7 (v := ?_) rfl (by kernel_rfl) (by kernel_rfl) (by kernel_rfl) (fun _ _ _ h => h) (Or.inl ⟨by rfl, ?_⟩) (by assumption) ?_; rotate_left; (focus ((intro W hSW); (try dsimp only at hSW); (try go_split_ands); go_simp; (try (with_reducible rfl)); done))) | (refine Reg.take 7 (v := undef) rfl (by kernel_rfl) (by kernel_rfl) (by kernel_rfl) (fun _ _ _ h => h) (Or.inr ⟨by rfl, rfl⟩) (by assumption) ?_))
      (try simp only [Act.put, List.setIfInBounds_toArray, List.set_cons_zero, List.set_cons_succ])
      refine Reg.step 8 rfl (by kernel_rfl) (by rfl) (fun K hK => ?_)
      go_simp
      refine hK.out _ _ hHeld (fun hHeld2 => ?_)
      clear hK K
      (try simp only [Act.put, List.setIfInBounds_toArray, List.set_cons_zero, List.set_cons_succ])
      refine wpAnyH_done (by kernel_rfl) ?_ _
      go_wp2_with fail
      go_roundw
      case rel => exact ⟨k + 1, by go_num, by omega, hH.out.drew⟩
      case measure => simp [intOf]; omega
    · go_wp2_with fail
      go_ret
      exact ⟨rfl, hH.out⟩

theorem fence_guard : Tryz.prog.eqGuardType Tryz.prog.depth 51 = false := by kernel_rfl
theorem fence_equal (x : Fv) (w : World) : (Op.equalIn 10000 51 (.agg #[.int .i64 x.zone, .int .i64 x.host, .int .i64 x.epoch]) (.agg #[.int .i64 x.zone, .int .i64 x.host, .int .i64 x.epoch])).run Tryz.prog w = .ok true w := by
  have u3 := Tryz.underlying3
  have a3 := Tryz.isAgg3
  have z3 := Tryz.sizeOf3
  have hS : Tryz.prog.underlying 51 = some (.struct (Tryz.prog.fieldsOf 51)) := by kernel_rfl
  have hp : Tryz.prog.stoodInHeld 51 = false := by kernel_rfl
  rw [show (10000 : Nat) = 9999 + 1 from rfl, run_equalIn_agg w 9999 51 _ _ hS hp]
  simp only [Program.fieldsOf, Tryz.underlying51]
  go_simp
  try simp
theorem fence_eql (x : Fv) (w : World) : (binOp .eql 51 (.agg #[.int .i64 x.zone, .int .i64 x.host, .int .i64 x.epoch]) (.agg #[.int .i64 x.zone, .int .i64 x.host, .int .i64 x.epoch])).run Tryz.prog w = .ok (.bool true) w := by
  rw [run_eql_struct, fence_equal]; rfl
theorem fence_neq (x : Fv) (w : World) : (binOp .neq 51 (.agg #[.int .i64 x.zone, .int .i64 x.host, .int .i64 x.epoch]) (.agg #[.int .i64 x.zone, .int .i64 x.host, .int .i64 x.epoch])).run Tryz.prog w = .ok (.bool false) w := by
  rw [run_neq_struct, fence_equal]; rfl

set_option maxRecDepth 100000 in
set_option maxHeartbeats 3200000 in
theorem fence_same {w : World} {A B : Option Addr} {n c d : Nat} {l : List Fv} (h : RowF w A n c l) (h2 : RowF w B n d l) (hn : n ≤ 1000000) :
    Calls Tryz.prog 23 #[.slice A n c, .slice B n d] w fun e w' => e = .returned (.bool true) ∧ Below w.heap.size w w' := by
  have HA := Lib.hid h
  have HB := Lib.hid h2
  have hbig := h.big
  clear h h2
  go_enter Tryz.func23, Tryz.ntmps23
  go_wp2
  go_loopw [5, 13] (fun _ i wr => ∃ k : Nat, i = .int .i64 k ∧ k ≤ n ∧ Hid (Below w.heap.size w wr)) (fun _ i _ => n - (intOf i).toNat)
  case atStart => exact ⟨0, rfl, by omega, Below.refl _ _⟩
  case round =>
    obtain ⟨k, rfl, hk, hH⟩ := hrel
    by_cases hlt : k < n
    · obtain ⟨x, hx⟩ := HA.out.get hlt
      obtain ⟨b, o, hA, c0, c1, c2⟩ := RowS.fence_at (RowS.below HA.out hH.out) hx
      obtain ⟨b', o', hB, d0, d1, d2⟩ := RowS.fence_at (RowS.below HB.out hH.out) hx
      subst hA hB
      have hk0 : (0 : Int) ≤ (k : Int) := by omega
      have hkn : (k : Int) < (n : Int) := by omega
      have hne := fun w => fence_neq x w
      have hgd := fence_guard
      clear hx
      go_upto_region 6 with fail
      refine wp_region_held_drew (S := fun W => (W.cell? ⟨b, o + k * 3, none⟩ = some (.int .i64 x.zone) ∧ W.cell? ⟨b, o + k * 3 + 1, none⟩ = some (.int .i64 x.host) ∧ W.cell? ⟨b, o + k * 3 + 2, none⟩ = some (.int .i64 x.epoch)) ∧ (W.cell? ⟨b', o' + k * 3, none⟩ = some (.int .i64 x.zone) ∧ W.cell? ⟨b', o' + k * 3 + 1, none⟩ = some (.int .i64 x.host) ∧ W.cell? ⟨b', o' + k * 3 + 2, none⟩ = some (.int .i64 x.epoch))) (by kernel_rfl) ⟨⟨c0, c1, c2⟩, ⟨d0, d1, d2⟩⟩ (fun hHeld => ?_)
      (first | (refine Reg.take 0 (v := ?_) rfl (by kernel_rfl) (by kernel_rfl) (by kernel_rfl) (fun _ _ _ h => h) (Or.inl ⟨by rfl, ?_⟩) (by assumption) ?_; rotate_left; (focus ((intro W hSW); (try dsimp only at hSW); (try go_split_ands); go_simp; (try (with_reducible rfl)); done))) | (refine Reg.take 0 (v := undef) rfl (by kernel_rfl) (by kernel_rfl) (by kernel_rfl) (fun _ _ _ h => h) (Or.inr ⟨by rfl, rfl⟩) (by assumption) ?_))
      (try simp only [Act.put, List.setIfInBounds_toArray, List.set_cons_zero, List.set_cons_succ])
      (first | (refine Reg.take 1 (v := ?_) rfl (by kernel_rfl) (by kernel_rfl) (by kernel_rfl) (fun _ _ _ h => h) (Or.inl ⟨by rfl, ?_⟩) (by assumption) ?_; rotate_left; (focus ((intro W hSW); (try dsimp only at hSW); (try go_split_ands); go_simp; (try (with_reducible rfl)); done))) | (refine Reg.take 1 (v := undef) rfl (by kernel_rfl) (by kernel_rfl) (by kernel_rfl) (fun _ _ _ h => h) (Or.inr ⟨by rfl, rfl⟩) (by assumption) ?_))
      (try simp only [Act.put, List.setIfInBounds_toArray, List.set_cons_zero, List.set_cons_succ])
      (first | (refine Reg.take 2 (v := ?_) rfl (by kernel_rfl) (by kernel_rfl) (by kernel_rfl) (fun _ _ _ h => h) (Or.inl ⟨by rfl, ?_⟩) (by assumption) ?_; rotate_left; (focus ((intro W hSW); (try dsimp only at hSW); (try go_split_ands); go_simp; (try (with_reducible rfl)); done))) | (refine Reg.take 2 (v := undef) rfl (by kernel_rfl) (by kernel_rfl) (by kernel_rfl) (fun _ _ _ h => h) (Or.inr ⟨by rfl, rfl⟩) (by assumption) ?_))
      (try simp only [Act.put, List.setIfInBounds_toArray, List.set_cons_zero, List.set_cons_succ])
      (first | (refine Reg.take 3 (v := ?_) rfl (by kernel_rfl) (by kernel_rfl) (by kernel_rfl) (fun _ _ _ h => h) (Or.inl ⟨by rfl, ?_⟩) (by assumption) ?_; rotate_left; (focus ((intro W hSW); (try dsimp only at hSW); (try go_split_ands); go_simp; (try (with_reducible rfl)); done))) | (refine Reg.take 3 (v := undef) rfl (by kernel_rfl) (by kernel_rfl) (by kernel_rfl) (fun _ _ _ h => h) (Or.inr ⟨by rfl, rfl⟩) (by assumption) ?_))
      (try simp only [Act.put, List.setIfInBounds_toArray, List.set_cons_zero, List.set_cons_succ])
      (first | (refine Reg.take 4 (v := ?_) rfl (by kernel_rfl) (by kernel_rfl) (by kernel_rfl) (fun _ _ _ h => h) (Or.inl ⟨by rfl, ?_⟩) (by assumption) ?_; rotate_left; (focus ((intro W hSW); (try dsimp only at hSW); (try go_split_ands); go_simp; (try (with_reducible rfl)); done))) | (refine Reg.take 4 (v := undef) rfl (by kernel_rfl) (by kernel_rfl) (by kernel_rfl) (fun _ _ _ h => h) (Or.inr ⟨by rfl, rfl⟩) (by assumption) ?_))
      (try simp only [Act.put, List.setIfInBounds_toArray, List.set_cons_zero, List.set_cons_succ])
      (first | (refine Reg.take 5 (v := ?_) rfl (by kernel_rfl) (by kernel_rfl) (by kernel_rfl) (fun _ _ _ h => h) (Or.inl ⟨by rfl, ?_⟩) (by assumption) ?_; rotate_left; (focus ((intro W hSW); (try dsimp only at hSW); (try go_split_ands); go_simp; (try (with_reducible rfl)); done))) | (refine Reg.take 5 (v := undef) rfl (by kernel_rfl) (by kernel_rfl) (by kernel_rfl) (fun _ _ _ h => h) (Or.inr ⟨by rfl, rfl⟩) (by assumption) ?_))
      (try simp only [Act.put, List.setIfInBounds_toArray, List.set_cons_zero, List.set_cons_succ])
      (first | (refine Reg.take 6 (v := ?_) rfl (by kernel_rfl) (by kernel_rfl) (by kernel_rfl) (fun _ _ _ h => h) (Or.inl ⟨by rfl, ?_⟩) (by assumption) ?_; rotate_left; (focus ((intro W hSW); (try dsimp only at hSW); (try go_split_ands); go_simp; (try (with_reducible rfl)); done))) | (refine Reg.take 6 (v := undef) rfl (by kernel_rfl) (by kernel_rfl) (by kernel_rfl) (fun _ _ _ h => h) (Or.inr ⟨by rfl, rfl⟩) (by assumption) ?_))
      (try simp only [Act.put, List.setIfInBounds_toArray, List.set_cons_zero, List.set_cons_succ])
      (first | (refine Reg.take 7 (v := ?_) rfl (by kernel_rfl) (by kernel_rfl) (by kernel_rfl) (fun _ _ _ h => h) (Or.inl ⟨by rfl, ?_⟩) (by assumption) ?_; rotate_left; (focus ((intro W hSW); (try dsimp only at hSW); (try go_split_ands); go_simp; (try (with_reducible rfl)); done))) | (refine Reg.take 7 (v := undef) rfl (by kernel_rfl) (by kernel_rfl) (by kernel_rfl) (fun _ _ _ h => h) (Or.inr ⟨by rfl, rfl⟩) (by assumption) ?_))
      (try simp only [Act.put, List.setIfInBounds_toArray, List.set_cons_zero, List.set_cons_succ])
      refine Reg.step 8 rfl (by kernel_rfl) (by rfl) (fun K hK => ?_)
      go_simp
      refine hK.out _ _ hHeld (fun hHeld2 => ?_)
      clear hK K
      (try simp only [Act.put, List.setIfInBounds_toArray, List.set_cons_zero, List.set_cons_succ])
      refine wpAnyH_done (by kernel_rfl) ?_ _
      go_wp2_with fail
      go_roundw
      case rel => exact ⟨k + 1, by go_num, by omega, hH.out.drew⟩
      case measure => simp [intOf]; omega
    · go_wp2_with fail
      go_ret
      exact ⟨rfl, hH.out⟩

set_option maxRecDepth 100000 in
set_option maxHeartbeats 3200000 in
theorem same_any {x y : Cx} {w : World} (h : CoordAt w x) (h' : CoordAt w y) (hp : y.p = x.p) (h1 : x.n ≤ 1000000) (h2 : x.m ≤ 1000000) (h3 : x.q ≤ 1000000) :
    Calls Tryz.prog 11 #[cxv x, cxv y] w fun e w' => e = .returned (.bool true) ∧ Below w.heap.size w w' := by
  obtain ⟨p, A, n, a, S, m, s, W, q, k⟩ := y
  dsimp only at hp
  subst hp
  have hn : n = x.n := by have := h.l.len; have := h'.l.len; dsimp only at *; omega
  have hm : m = x.m := by have := h.s.len; have := h'.s.len; dsimp only at *; omega
  have hq : q = x.q := by have := h.f.len; have := h'.f.len; dsimp only at *; omega
  subst hn hm hq
  have HX := Lib.hid h
  have HY := Lib.hid h'
  have HL := fun w (h : CoordAt w x) (h' : CoordAt w ⟨x.p, A, x.n, a, S, x.m, s, W, x.q, k⟩) => Lib.hid (lease_same h.l h'.l h1)
  have HS := fun w (h : CoordAt w x) (h' : CoordAt w ⟨x.p, A, x.n, a, S, x.m, s, W, x.q, k⟩) => Lib.hid (span_same h.s h'.s h2)
  have HF := fun w (h : CoordAt w x) (h' : CoordAt w ⟨x.p, A, x.n, a, S, x.m, s, W, x.q, k⟩) => Lib.hid (fence_same h.f h'.f h3)
  have L1 : Hid (Below w.heap.size w ((w.alloc (.cells #[.int .i64 x.p.t.last, .int .i64 x.p.t.now, .slice x.A x.n x.a, .slice x.S x.m x.s, .slice x.W x.q x.k, .int .i64 x.p.ttl, .int .i64 x.p.zones] 31)).alloc (.cells #[.int .i64 x.p.t.last, .int .i64 x.p.t.now, .slice A x.n a, .slice S x.m s, .slice W x.q k, .int .i64 x.p.ttl, .int .i64 x.p.zones] 31))) := ((Below.refl w.heap.size w).alloc (Nat.le_refl _) _).alloc (by simp) _
  have B1 : Hid (CBox ((w.alloc (.cells #[.int .i64 x.p.t.last, .int .i64 x.p.t.now, .slice x.A x.n x.a, .slice x.S x.m x.s, .slice x.W x.q x.k, .int .i64 x.p.ttl, .int .i64 x.p.zones] 31)).alloc (.cells #[.int .i64 x.p.t.last, .int .i64 x.p.t.now, .slice A x.n a, .slice S x.m s, .slice W x.q k, .int .i64 x.p.ttl, .int .i64 x.p.zones] 31)) w.heap.size x) := heap_alloc2_old w _ _
  have C1 : Hid (CBox ((w.alloc (.cells #[.int .i64 x.p.t.last, .int .i64 x.p.t.now, .slice x.A x.n x.a, .slice x.S x.m x.s, .slice x.W x.q x.k, .int .i64 x.p.ttl, .int .i64 x.p.zones] 31)).alloc (.cells #[.int .i64 x.p.t.last, .int .i64 x.p.t.now, .slice A x.n a, .slice S x.m s, .slice W x.q k, .int .i64 x.p.ttl, .int .i64 x.p.zones] 31)) (w.heap.size + 1) ⟨x.p, A, x.n, a, S, x.m, s, W, x.q, k⟩) := heap_alloc2_new w _ _
  clear h h'
  go_enter Tryz.func11, Tryz.ntmps11
  go_upto_region 1 with fail
  generalize (w.alloc (.cells #[.int .i64 x.p.t.last, .int .i64 x.p.t.now, .slice x.A x.n x.a, .slice x.S x.m x.s, .slice x.W x.q x.k, .int .i64 x.p.ttl, .int .i64 x.p.zones] 31)).alloc (.cells #[.int .i64 x.p.t.last, .int .i64 x.p.t.now, .slice A x.n a, .slice S x.m s, .slice W x.q k, .int .i64 x.p.ttl, .int .i64 x.p.zones] 31) = w1 at *
  obtain ⟨m0, m1, m2, m3, m4, m5, m6⟩ := seven B1.out
  obtain ⟨n0, n1, n2, n3, n4, n5, n6⟩ := seven C1.out
  dsimp only at n0 n1 n2 n3 n4 n5 n6
  go_wp2_with fail
  refine (HL w1 (HX.out.below L1.out) (HY.out.below L1.out)).out.mono ?_
  rintro e w2 ⟨rfl, hb⟩
  have L2 := Lib.hid (L1.out.trans (hb.mono L1.out.size))
  have B2 := Lib.hid (Lea.Cells.below B1.out hb)
  have C2 := Lib.hid (Lea.Cells.below C1.out hb)
  clear hb m0 m1 m2 m3 m4 m5 m6 n0 n1 n2 n3 n4 n5 n6 B1 C1 L1 HL
  obtain ⟨m0, m1, m2, m3, m4, m5, m6⟩ := seven B2.out
  obtain ⟨n0, n1, n2, n3, n4, n5, n6⟩ := seven C2.out
  dsimp only at n0 n1 n2 n3 n4 n5 n6
  go_wp2_with fail
  refine (HS w2 (HX.out.below L2.out) (HY.out.below L2.out)).out.mono ?_
  rintro e w3 ⟨rfl, hb⟩
  have L3 := Lib.hid (L2.out.trans (hb.mono L2.out.size))
  have B3 := Lib.hid (Lea.Cells.below B2.out hb)
  have C3 := Lib.hid (Lea.Cells.below C2.out hb)
  clear hb m0 m1 m2 m3 m4 m5 m6 n0 n1 n2 n3 n4 n5 n6 B2 C2 L2 HS
  obtain ⟨m0, m1, m2, m3, m4, m5, m6⟩ := seven B3.out
  obtain ⟨n0, n1, n2, n3, n4, n5, n6⟩ := seven C3.out
  dsimp only at n0 n1 n2 n3 n4 n5 n6
  go_wp2_with fail
  refine (HF w3 (HX.out.below L3.out) (HY.out.below L3.out)).out.mono ?_
  rintro e w4 ⟨rfl, hb⟩
  have L4 := Lib.hid (L3.out.trans (hb.mono L3.out.size))
  have B4 := Lib.hid (Lea.Cells.below B3.out hb)
  have C4 := Lib.hid (Lea.Cells.below C3.out hb)
  clear hb m0 m1 m2 m3 m4 m5 m6 n0 n1 n2 n3 n4 n5 n6 B3 C3 L3 HF
  obtain ⟨m0, m1, m2, m3, m4, m5, m6⟩ := seven B4.out
  obtain ⟨n0, n1, n2, n3, n4, n5, n6⟩ := seven C4.out
  dsimp only at n0 n1 n2 n3 n4 n5 n6
  go_wp2_with fail
  go_ret
  exact ⟨rfl, L4.out⟩
end Coo
end Go.Proofs.YtcpkgcckjphbfaaGreat
