/-
  SEVERAL TEXTS IN ONE FILE: WireFix, SegCheck, SegTab, SegCheckB, WireLive, WireInts.
-/
import Derived.Test.YtedandbkdjmfhaaGreatJ12
import Derived.Laws.MakeOwn
import Derived.Deep.QuietTactic
import Derived.BigQuiet
import Derived.Test.YtedandbkdjmfhaaGreatJ01
import Derived.LoopTactic
import Derived.Deep.LoopGhost
import Derived.Test.YtedandbkdjmfhaaGreatJ11
import Derived.Deep.RegionHeld3
import Derived.DeepKeys
import Derived.Deep.MidRow
import Derived.Deep.DeepCutAuto
import Derived.Lib.LazyBuf
set_option linter.unusedSimpArgs false
set_option linter.unusedVariables false
/-
  wire: Fixed AND TakeFixed, AND THE DOCUMENT's OWN.
-/
namespace Go.Proofs.YtedandbkdjmfhaaGreat
open Go.RowKit Go.Shelf Mem
namespace Wire

/-- The four bytes of a number. -/
def enc4 (n : Nat) : List B8 := [BitVec.ofNat 8 n, BitVec.ofNat 8 (n / 256), BitVec.ofNat 8 (n / 65536), BitVec.ofNat 8 (n / 16777216)]
/-- The cells when k of them are written. -/
def cells4 (n k : Nat) : Array Value := #[if 0 < k then cb (BitVec.ofNat 8 n) else .int .u8 0, if 1 < k then cb (BitVec.ofNat 8 (n / 256)) else .int .u8 0, if 2 < k then cb (BitVec.ofNat 8 (n / 65536)) else .int .u8 0, if 3 < k then cb (BitVec.ofNat 8 (n / 16777216)) else .int .u8 0]

theorem heap_set {w : World} {g : Nat} {cs : Array Value} {e : TypeId} (h : w.heap[g]? = some (.cells cs e (0, 0))) (i : Nat) (v : Value) : (w.setCell ⟨g, i, none⟩ v).heap[g]? = some (.cells (cs.setIfInBounds i v) e (0, 0)) := by
  simp [World.setCell, Array.getElem?_modify, h]
theorem cells4_0 (n : Nat) : (cells4 n 0).setIfInBounds 0 (.int .u8 ((n : Int) % 256)) = cells4 n 1 := by
  have : Value.int .u8 ((n : Int) % 256) = cb (BitVec.ofNat 8 n) := by unfold cb u; rw [BitVec.toNat_ofNat]; congr 1
  rw [this]; rfl
theorem cells4_1 (n : Nat) : (cells4 n 1).setIfInBounds 1 (.int .u8 ((n : Int) / 256 % 256)) = cells4 n 2 := by
  have : Value.int .u8 ((n : Int) / 256 % 256) = cb (BitVec.ofNat 8 (n / 256)) := by unfold cb u; rw [BitVec.toNat_ofNat]; congr 1
  rw [this]; rfl
theorem cells4_2 (n : Nat) : (cells4 n 2).setIfInBounds 2 (.int .u8 ((n : Int) / 65536 % 256)) = cells4 n 3 := by
  have : Value.int .u8 ((n : Int) / 65536 % 256) = cb (BitVec.ofNat 8 (n / 65536)) := by unfold cb u; rw [BitVec.toNat_ofNat]; congr 1
  rw [this]; rfl
theorem top_u (n : Nat) (hn : n < 4294967296) : (n : Int) / 16777216 = u (BitVec.ofNat 8 (n / 16777216)) := by unfold u; rw [BitVec.toNat_ofNat]; omega
theorem cells4_3 (n : Nat) (hn : n < 4294967296) : (cells4 n 3).setIfInBounds 3 (.int .u8 ((n : Int) / 16777216)) = cells4 n 4 := by
  have : Value.int .u8 ((n : Int) / 16777216) = cb (BitVec.ofNat 8 (n / 16777216)) := by unfold cb; rw [top_u n hn]
  rw [this]; rfl
theorem cells4_made (n : Nat) : madeCells #[Value.int IntKind.u8 0] 4 = cells4 n 0 := by
  apply Array.toList_inj.1
  simp [madeCells, cells4, List.range_succ]
theorem own4 {w : World} {g base n : Nat} (h : w.heap[g]? = some (.cells (cells4 n 4) 5 (0, 0))) (hb : base ≤ g) : Owns cb 5 base w (.slice (some ⟨g, 0, none⟩) 4 4) 4 (enc4 n) :=
  ⟨rfl, .inr ⟨g, 4, cells4 n 4, rfl, hb, h, Nat.le_refl _, by decide, rfl, rfl⟩⟩

theorem own4_new {w : World} {n : Nat} {a b c d : Int} (ha : a = u (BitVec.ofNat 8 n)) (hb : b = u (BitVec.ofNat 8 (n / 256))) (hc : c = u (BitVec.ofNat 8 (n / 65536))) (hd : d = u (BitVec.ofNat 8 (n / 16777216))) :
    Owns cb 5 w.heap.size (w.alloc (.cells #[.int .u8 a, .int .u8 b, .int .u8 c, .int .u8 d] 5)) (.slice (some ⟨w.heap.size, 0, none⟩) 4 4) 4 (enc4 n) := by
  subst ha hb hc hd
  exact own4 (heap_alloc_new w _) (Nat.le_refl _)

set_option maxRecDepth 100000 in
set_option maxHeartbeats 800000 in
theorem fixed_any (n : Nat) (hn : n < 4294967296) (w : World) :
    Calls Tryz.prog 65 #[.int .u32 n] w (Gave cb 5 w.heap.size w (enc4 n)) := by
  obtain ⟨i, hi, hz0, hz1, hz2⟩ := info_parts info_byte
  have hmk := run_makeSlice (P := Tryz.prog) w 32 5 i _ Tryz.underlying32 hi hz0
  go_enter Tryz.func65, Tryz.ntmps65
  go_wp2
  go_loopw [8] (fun i wr => ∃ k : Nat, k ≤ 4 ∧ i = .int .i64 k ∧ Hid (wr.heap[w.heap.size]? = some (.cells (cells4 n k) 5 (0, 0)) ∧ Below w.heap.size w wr)) (fun i _ => 4 - (intOf i).toNat)
  case atStart => exact ⟨0, by omega, rfl, by rw [heap_alloc_new, cells4_made n], (Below.refl _ _).alloc (Nat.le_refl _) _⟩
  case round =>
    obtain ⟨k, hk, rfl, hH⟩ := hrel
    have hb := hH.out.1
    by_cases h4 : k = 4
    · subst h4
      clear hb
      go_wp2
      go_ret
      exact ⟨_, _, _, rfl, own4 hH.out.1 (Nat.le_refl _), hH.out.2⟩
    · have hc : ∀ i, wr.cell? ⟨w.heap.size, i, none⟩ = (cells4 n k)[i]? := fun i => cell_of_row wr w.heap.size i _ _ (0, 0) hb
      have hf : ∀ i, wr.frozen? ⟨w.heap.size, i, none⟩ = false := fun i => by simp [World.frozen?, hb]
      have h3 : k = 0 ∨ k = 1 ∨ k = 2 ∨ k = 3 := by omega
      clear hb h4
      rcases h3 with rfl | rfl | rfl | rfl
      · have c0 := hc 0
        have f0 := hf 0
        clear hc hf
        go_wp2
        go_roundw
        case rel => exact ⟨1, by omega, rfl, by rw [heap_set hH.out.1, cells4_0], hH.out.2.setCell (p := ⟨w.heap.size, 0, none⟩) (Nat.le_refl _) _⟩
        case measure => simp [intOf]
      · have c0 := hc 1
        have f0 := hf 1
        clear hc hf
        go_wp2
        go_roundw
        case rel => exact ⟨2, by omega, rfl, by rw [heap_set hH.out.1, cells4_1], hH.out.2.setCell (p := ⟨w.heap.size, 1, none⟩) (Nat.le_refl _) _⟩
        case measure => simp [intOf]
      · have c0 := hc 2
        have f0 := hf 2
        clear hc hf
        go_wp2
        go_roundw
        case rel => exact ⟨3, by omega, rfl, by rw [heap_set hH.out.1, cells4_2], hH.out.2.setCell (p := ⟨w.heap.size, 2, none⟩) (Nat.le_refl _) _⟩
        case measure => simp [intOf]
      · have c0 := hc 3
        have f0 := hf 3
        clear hc hf
        go_wp2
        go_roundw
        case rel => exact ⟨4, by omega, rfl, by rw [heap_set hH.out.1, cells4_3 n hn], hH.out.2.setCell (p := ⟨w.heap.size, 3, none⟩) (Nat.le_refl _) _⟩
        case measure => simp [intOf]


/-- The number of four bytes. -/
def dec4 (a b c d : B8) : Nat := a.toNat + 256 * b.toNat + 65536 * c.toNat + 16777216 * d.toNat
theorem dec4_lt (a b c d : B8) : dec4 a b c d < 4294967296 := by
  have := a.isLt; have := b.isLt; have := c.isLt; have := d.isLt
  unfold dec4; omega
theorem enc4_dec4 (a b c d : B8) : enc4 (dec4 a b c d) = [a, b, c, d] := by
  have ha := a.isLt; have hb := b.isLt; have hc := c.isLt; have hd := d.isLt
  unfold enc4
  have e0 : BitVec.ofNat 8 (dec4 a b c d) = a := by apply BitVec.eq_of_toNat_eq; rw [BitVec.toNat_ofNat]; unfold dec4; omega
  have e1 : BitVec.ofNat 8 (dec4 a b c d / 256) = b := by apply BitVec.eq_of_toNat_eq; rw [BitVec.toNat_ofNat]; unfold dec4; omega
  have e2 : BitVec.ofNat 8 (dec4 a b c d / 65536) = c := by apply BitVec.eq_of_toNat_eq; rw [BitVec.toNat_ofNat]; unfold dec4; omega
  have e3 : BitVec.ofNat 8 (dec4 a b c d / 16777216) = d := by apply BitVec.eq_of_toNat_eq; rw [BitVec.toNat_ofNat]; unfold dec4; omega
  rw [e0, e1, e2, e3]
theorem dec4_enc4 (n : Nat) (hn : n < 4294967296) : dec4 (BitVec.ofNat 8 n) (BitVec.ofNat 8 (n / 256)) (BitVec.ofNat 8 (n / 65536)) (BitVec.ofNat 8 (n / 16777216)) = n := by
  unfold dec4
  simp only [BitVec.toNat_ofNat]
  omega
theorem four_of (l : List B8) (h : 4 ≤ l.length) : ∃ a b c d r, l = a :: b :: c :: d :: r := by
  match l, h with
  | a :: b :: c :: d :: r, _ => exact ⟨a, b, c, d, r, rfl⟩

def acc4 (pre : List B8) : Nat := (pre.foldl (fun a x => a * 256 + x.toNat) 0) % 4294967296
theorem acc4_snoc (pre : List B8) (x : B8) : acc4 (pre ++ [x]) = (acc4 pre * 256 + x.toNat) % 4294967296 := by
  unfold acc4
  rw [List.foldl_append]
  simp only [List.foldl_cons, List.foldl_nil]
  omega
theorem acc4_lt (pre : List B8) : acc4 pre < 4294967296 := Nat.mod_lt _ (by omega)
theorem acc4_rev (a b c d : B8) : acc4 [d, c, b, a] = dec4 a b c d := by
  have := dec4_lt a b c d
  unfold acc4 dec4 at *
  simp only [List.foldl_cons, List.foldl_nil]
  omega
theorem or_step4 (a : Nat) (x : B8) : bits .or .u32 (IntKind.u32.wrap ((a : Int) * 256)) (IntKind.u32.wrap (u x)) = (((a * 256 + x.toNat) % 4294967296 : Nat) : Int) := by
  have hx := x.isLt
  have hw : ∀ n : Int, IntKind.u32.wrap n = n % 4294967296 := fun n => by simp [IntKind.wrap, IntKind.bits, IntKind.signed]
  rw [hw, hw]
  have e2 : (a : Int) * 256 % 4294967296 = ((a * 256 % 4294967296 : Nat) : Int) := by omega
  have e3 : u x % 4294967296 = ((x.toNat : Nat) : Int) := by unfold u; omega
  rw [e2, e3, u32_or_nat _ _ (by omega) (by omega)]
  have := nat_join 8 (a * 256 % 4294967296) x.toNat (by omega) (by omega)
  rw [this]
  omega

theorem below_drewN (B : Nat) (w : World) (n : Nat) : Below B w (w.drewN n) := ⟨rfl, rfl, rfl, Nat.le_refl _, fun _ _ => rfl⟩
/-- TakeFixed, by an answer. -/
def TookF (n e : Int) (w : World) (en : Ending) (w' : World) : Prop := en = .returned (.tuple #[.int .u32 n, .int .i64 e]) ∧ Below w.heap.size w w'

set_option maxRecDepth 100000 in
theorem takeFixed_short {A : Option Addr} {len cap : Nat} {l : List B8} {w : World} (h : Row cb w A len cap l) (h4 : len < 4) :
    Calls Tryz.prog 39 #[.slice A len cap] w (TookF 0 20 w) := by
  have hb := h.big
  clear h
  go_enter Tryz.func39, Tryz.ntmps39
  go_wp2
  go_ret2
  exact ⟨rfl, Below.refl _ _⟩



attribute [local go_sem] Oper.semAt_some
set_option maxRecDepth 100000 in
set_option maxHeartbeats 2000000 in
theorem takeFixed_in (F : Fence) (n : Nat) (hw : F = Fence.wide) (hn : 3 ≤ n) {A : Option Addr} {len cap : Nat} {x y z v : B8} {r : List B8} {w : World} (h : Row cb w A len cap (x :: y :: z :: v :: r)) :
    CallsIn F n Tryz.prog 39 #[.slice A len cap] w (TookF (dec4 x y z v) 0 w) := by
  subst hw
  have h1 : 1 ≤ n := by omega
  refine callsIn_of_wp_marks Tryz.func39 rfl trivial ?_ rfl
  simp only [Tryz.ntmps39, List.size_toArray, List.length_cons, List.length_nil, Nat.reduceAdd, Nat.reduceSub, Array.replicate_succ, Array.replicate_zero, List.push_toArray, List.append_toArray, List.nil_append, List.cons_append]
  have hbig := h.big
  have hcap := h.cap
  have h4 : 4 ≤ len := by have := h.len; simp at this; omega
  obtain ⟨b, o, rfl, hblt, hcell⟩ := h.at_ (by omega)
  have HC := Lib.hid hcell
  clear hcell
  have hd : decide ((len : Int) < 4) = false := by simp; omega
  have hslice := run_head (some ⟨b, o, none⟩) len cap 4 (by omega)
  gi_wp2_with (refine ⟨trivial, ?_⟩; gi_at_call 60; refine (back_in Fence.wide (n - 1) trivial rfl _ _ _ _).mono ?_; rintro e w' ⟨rfl, rfl⟩)
  have bN := Boxed.new w 98 (.int .u32 0)
  have bS := Boxed.new (w.alloc (.cells #[.int .u32 0] 98)) 32 (.slice (some ⟨b, o, none⟩) 4 cap)
  rw [World.size_alloc] at bS
  have hB0 : Below w.heap.size w ((w.alloc (.cells #[.int .u32 0] 98)).alloc (.cells #[.slice (some ⟨b, o, none⟩) 4 cap] 32)) := ((Below.refl _ w).alloc (Nat.le_refl _) _).alloc (by simp) _
  clear hslice
  refine wpIn_rangeFunc_ownF rfl h1 (gf := 80) (lb := #[.pointer (some ⟨w.heap.size + 1, 0, none⟩)]) rfl trivial (enters_of Tryz.func80 (by kernel_rfl) rfl)
    (back_stops Fence.wide (n - 1) trivial rfl (by omega) (w.heap.size + 1) (w.heap.size + 2) w.heap.size (by omega) (by omega) b o 4 cap (by omega) (by omega) [x, y, z, v] rfl (by omega) _ (by simp) bS.cell
      (fun j q hx => by
        have hx2 : (x :: y :: z :: v :: r)[j]? = some q := by
          match j, hx with
          | 0, hx => simpa using hx
          | 1, hx => simpa using hx
          | 2, hx => simpa using hx
          | 3, hx => simpa using hx
        exact (hB0.cell (p := ⟨b, o + j, none⟩) hblt).trans (HC.out j q hx2)))
    (fun h k => h.trans k) (kept_b (by simp)) (Below.refl _ _) (fun _ => rfl)
    (fun pre W => (W.cell? ⟨w.heap.size, 0, none⟩ = some (.int .u32 (acc4 (pre.map (·.2)) : Int)) ∧ W.frozen? ⟨w.heap.size, 0, none⟩ = false) ∧ Below w.heap.size w W)
    (fun _ _ _ => False)
    (OwnFrom.and (Own.from (fun s A B row hs hg hr => ⟨cell_kept hs.1 hg hr, (frozen_kept hs.1 hg hr).trans hs.2⟩) _) (ownFrom_below (Nat.le_refl _) (by simp; omega)))
    (fun _ _ _ _ _ hs _ _ => hs)
    ⟨⟨(bN.alloc _).cell, (bN.alloc _).frozen⟩, hB0⟩
    (fun q => { tmps := #[.slice (some ⟨b, o, none⟩) len cap, undef, .int .u32 0, .int .i64 0, .pointer (some ⟨w.heap.size, 0, none⟩), undef, .int .u8 (u q.2), .slice (some ⟨b, o, none⟩) len cap, .int .i64 len, .bool false, .slice (some ⟨b, o, none⟩) len cap,
        .slice (some ⟨b, o, none⟩) 4 cap, .func (.func 80) #[] #[.pointer (some ⟨w.heap.size + 1, 0, none⟩)], .int .i64 (q.1 : Int), .int .u8 (u q.2), undef, undef, undef, undef, undef, undef], defers := [] }) ?assign ?body ?done ?stop
  case assign =>
    intro l x W K hK
    gi_wp2
    exact hK
  case body =>
    rintro l pre q W ⟨⟨hc, hf⟩, hB⟩ _
    have E := Lib.hid (or_step4 (acc4 (pre.map (·.2))) q.2)
    have hlt := acc4_lt (pre.map (·.2))
    have E2 : Hid (acc4 ((pre ++ [q]).map (·.2)) = (acc4 (pre.map (·.2)) * 256 + q.2.toNat) % 4294967296) := by show _ = _; rw [List.map_append]; exact acc4_snoc _ _
    generalize acc4 (pre.map (·.2)) = a at *
    gi_wp2
    exact ⟨KeepsOthers.setCell _ _ _, Kept.setCell _ _ _, ⟨by rw [E2.out, ← E.out]; exact World.cell?_setCell_same' _ _ _ (by rw [hc]; rfl), by rw [World.frozen?_setCell]; exact hf⟩, hB.setCell (p := ⟨w.heap.size, 0, none⟩) (Nat.le_refl _) _⟩
  case done =>
    rintro D ys W hD hys ⟨⟨hc, _⟩, hB⟩ hK
    rw [hys, show [x, y, z, v].reverse = [v, z, y, x] from rfl, acc4_rev] at hc
    gi_wp2
    refine ⟨by simp, .inl ⟨_, _, rfl, run_takeDeferred hK, ?_⟩⟩
    refine ⟨.tuple #[.int .u32 (dec4 x y z v : Int), .int .i64 0], by simp [results, Tryz.f39, go_sem], rfl, ?_⟩
    exact hB.trans (belowK_b (w := w) (Nat.le_refl _) W D _ _ (by simp at hD; omega) hK rfl rfl)
  case stop =>
    rintro D c pre W _ _ h _
    exact h.elim
theorem takeFixed_long {A : Option Addr} {len cap : Nat} {x y z v : B8} {r : List B8} {w : World} (h : Row cb w A len cap (x :: y :: z :: v :: r)) :
    Calls Tryz.prog 39 #[.slice A len cap] w (TookF (dec4 x y z v) 0 w) := (callsIn_wide (n := 3)).1 (takeFixed_in Fence.wide 3 rfl (Nat.le_refl _) h)
end Wire
end Go.Proofs.YtedandbkdjmfhaaGreat
/-
  WALKS OVER seg'S TESTS OF A RECORD: numbersOf, nowhere, blocksMayBe, bytesOf, numbersMayBe, Check, Sameness.
-/
namespace Go.Proofs.YtedandbkdjmfhaaGreat
open Go.RowKit Mem
namespace Seg
open Wire

/-- A record as a value. -/
def recV (r : Rc) (D : Option Addr) (n c : Nat) : Value := .agg #[.int .i64 r.kind, .int .i64 r.lba, .int .i64 r.n, .int .i64 r.ver, .int .i64 r.zone, .int .i64 r.off, .slice D n c]
/-- Its numbers as a value. -/
def numsV (r : Rc) : Value := .agg #[.int .i64 r.kind, .int .i64 r.lba, .int .i64 r.n, .int .i64 r.ver, .int .i64 r.zone, .int .i64 r.off]

set_option maxRecDepth 100000 in
set_option maxHeartbeats 800000 in
theorem numbersOf_any (r : Rc) (D : Option Addr) (n c : Nat) (w : World) :
    Calls Tryz.prog 54 #[recV r D n c] w fun e w' => e = .returned (numsV r) ∧ Below w.heap.size w w' := by
  obtain ⟨a0, a1, a2, a3, a4, a5, dd⟩ := r
  unfold recV numsV
  go_enter Tryz.func54, Tryz.ntmps54
  go_wp2
  refine bodyPost_ret_by (results_cell_row rfl _ _ (w.heap.size + 1) _ _ _ _ rfl (heap_alloc2_new w _ _) Tryz.underlying111 rfl (by kernel_rfl)) rfl ?_
  exact ⟨rfl, ((Below.refl _ w).alloc (Nat.le_refl _) _).alloc (by simp) _⟩

set_option maxRecDepth 100000 in
set_option maxHeartbeats 800000 in
theorem nowhere_any (r : Rc) (D : Option Addr) (n c : Nat) (w : World) :
    Calls Tryz.prog 57 #[recV r D n c] w fun e w' => e = .returned (.bool (nowhereB r)) ∧ Below w.heap.size w w' := by
  obtain ⟨a0, a1, a2, a3, a4, a5, dd⟩ := r
  unfold recV nowhereB
  go_enter Tryz.func57, Tryz.ntmps57
  go_wp2
  all_goals (go_ret; refine ⟨ret_bool ?_, (Below.refl _ _).alloc (Nat.le_refl _) _⟩; simp_all)

set_option maxRecDepth 100000 in
set_option maxHeartbeats 800000 in
theorem blocksMayBe_any (r : Rc) (h0 : 0 ≤ r.n) (D : Option Addr) (n c : Nat) (m : Int) (w : World) (hf : fits (nums r)) :
    Calls Tryz.prog 56 #[recV r D n c, .int .i64 m] w fun e w' => e = .returned (.bool (blocksB r m)) ∧ Below w.heap.size w w' := by
  obtain ⟨a0, a1, a2, a3, a4, a5, dd⟩ := r
  have h2 : a2 < 9223372036854775808 := hf _ (by simp [nums])
  simp only at h0
  unfold recV blocksB
  go_enter Tryz.func56, Tryz.ntmps56
  go_wp2
  all_goals (go_ret; refine ⟨ret_bool ?_, (Below.refl _ _).alloc (Nat.le_refl _) _⟩)
  all_goals (rw [Bool.eq_iff_iff]; simp only [Bool.and_eq_true, decide_eq_true_eq, Bool.false_eq_true]; constructor <;> intro hq <;> first | omega | exact hq.elim)

set_option maxRecDepth 100000 in
set_option maxHeartbeats 800000 in
/-- 16 n goes into an int. -/
theorem bytesOf_any (r : Rc) (D : Option Addr) (n c : Nat) (w : World) (h : r.kind = 1 ∨ r.kind = 5 → 0 ≤ r.n ∧ r.n ≤ 256) :
    Calls Tryz.prog 34 #[recV r D n c] w fun e w' => e = .returned (.int .i64 (bytesOf r)) ∧ Below w.heap.size w w' := by
  obtain ⟨a0, a1, a2, a3, a4, a5, dd⟩ := r
  simp only at h
  unfold recV bytesOf
  simp only
  by_cases h1 : a0 = 1
  · subst h1
    obtain ⟨h2, h3⟩ := h (.inl rfl)
    go_enter Tryz.func34, Tryz.ntmps34
    go_wp2
    all_goals (go_ret; exact ⟨rfl, (Below.refl _ _).alloc (Nat.le_refl _) _⟩)
  · by_cases h5 : a0 = 5
    · subst h5
      obtain ⟨h2, h3⟩ := h (.inr rfl)
      go_enter Tryz.func34, Tryz.ntmps34
      go_wp2
      all_goals (go_ret; exact ⟨rfl, (Below.refl _ _).alloc (Nat.le_refl _) _⟩)
    · rw [if_neg h1, if_neg h5]
      have e1 : (a0 == 1) = false := beq_eq_false_iff_ne.2 h1
      have e5 : (a0 == 5) = false := beq_eq_false_iff_ne.2 h5
      clear h h1 h5
      go_enter Tryz.func34, Tryz.ntmps34
      go_wp2
      all_goals (go_ret; exact ⟨rfl, (Below.refl _ _).alloc (Nat.le_refl _) _⟩)

set_option maxRecDepth 100000 in
set_option maxHeartbeats 800000 in
/-- slices.Min of a row that is not empty: below 0 where one of them is. -/
theorem min_any {A : Option Addr} {n c : Nat} {l : List Int} {w : World} (h : Row ci w A n c l) (h0 : 0 < n) :
    Calls Tryz.prog 55 #[.slice A n c] w fun e w' => (∃ m, e = .returned (.int .i64 m) ∧ (0 ≤ m ↔ nn l)) ∧ w = w' := by
  have HR := Lib.hid h
  have hb := h.big
  obtain ⟨b, o, rfl, hlt, -⟩ := h.at_ h0
  obtain ⟨z0, hz0⟩ := h.get h0
  have hc0 : w.cell? ⟨b, o, none⟩ = some (.int .i64 z0) := by
    obtain ⟨b', o', e, hc⟩ := h.cell hz0
    injection e with e
    injection e with e1 e2
    subst e1 e2
    exact hc
  clear h
  have HZ := Lib.hid hz0
  clear hz0
  go_enter Tryz.func55, Tryz.ntmps55
  go_wp2
  go_loop [3, 4] (fun x i => ∃ (k : Nat) (m : Int), 1 ≤ k ∧ k ≤ n ∧ i = .int .i64 k ∧ x = .int .i64 m ∧ Hid (0 ≤ m ↔ nn (l.take k))) (fun _ i => n - (intOf i).toNat)
  case atStart =>
    refine ⟨1, z0, by omega, by omega, rfl, rfl, ?_⟩
    show 0 ≤ z0 ↔ nn _
    rw [show l.take 1 = [z0] by have := HZ.out; rw [List.take_add_one, this]; simp]
    simp [nn]
  case round =>
    obtain ⟨k, m, hk1, hk, rfl, rfl, hM⟩ := hrel
    by_cases hkn : k < n
    · obtain ⟨z, hz⟩ := HR.out.get hkn
      have hcell : w.cell? ⟨b, o + k, none⟩ = some (.int .i64 z) := by
        obtain ⟨b', o', e, hc⟩ := HR.out.cell hz
        injection e with e
        injection e with e1 e2
        subst e1 e2
        exact hc
      have HZ2 := Lib.hid hz
      clear hz
      go_wp2
      go_round
      case rel =>
        refine ⟨k + 1, _, by omega, by omega, by go_num, rfl, ?_⟩
        have hm := hM.out
        have hz := HZ2.out
        show _ ↔ nn _
        rw [show l.take (k + 1) = l.take k ++ [z] by rw [List.take_add_one, hz]; rfl]
        have : nn (l.take k ++ [z]) ↔ nn (l.take k) ∧ 0 ≤ z := by
          unfold nn
          constructor
          · intro h
            exact ⟨fun x hx => h x (by simp [hx]), h z (by simp)⟩
          · rintro ⟨h1, h2⟩ x hx
            rcases List.mem_append.1 hx with hx | hx
            · exact h1 x hx
            · simp at hx; omega
        rw [this, ← hm]
        split <;> omega
      case measure => simp [intOf]; omega
    · have hkn : l.take k = l := List.take_of_length_le (by have := HR.out.len; omega)
      have HK := Lib.hid hkn
      clear hkn
      go_wp2
      go_ret
      exact ⟨⟨m, rfl, by have := hM.out; rwa [HK.out] at this⟩, rfl⟩

theorem fits_of {r : Rc} (h : fits (nums r)) : r.n < 9223372036854775808 := h _ (by simp [nums])
theorem nn_n {r : Rc} (h : nn (nums r)) : 0 ≤ r.n := h _ (by simp [nums])
/-- The six numbers in a block. -/
theorem row_nums {w : World} {g : Nat} {t : TypeId} {a0 a1 a2 a3 a4 a5 : Int} (h : w.heap[g]? = some (.cells #[.int .i64 a0, .int .i64 a1, .int .i64 a2, .int .i64 a3, .int .i64 a4, .int .i64 a5] t (0, 0))) :
    Row ci w (some ⟨g, 0, none⟩) 6 6 [a0, a1, a2, a3, a4, a5] := by
  refine ⟨rfl, by omega, by omega, fun _ => ⟨g, 0, rfl, (Array.getElem?_eq_some_iff.1 h).1, fun i x hi => ?_⟩⟩
  rw [cell_of_row w g (0 + i) _ _ _ h]
  match i, hi with
  | 0, hi => simp at hi; subst hi; rfl
  | 1, hi => simp at hi; subst hi; rfl
  | 2, hi => simp at hi; subst hi; rfl
  | 3, hi => simp at hi; subst hi; rfl
  | 4, hi => simp at hi; subst hi; rfl
  | 5, hi => simp at hi; subst hi; rfl

/-- A record in a block of its own: the seven cells. -/
def Box (w : World) (g : Nat) (r : Rc) (D : Option Addr) (n c : Nat) : Prop := w.heap[g]? = some (.cells #[.int .i64 r.kind, .int .i64 r.lba, .int .i64 r.n, .int .i64 r.ver, .int .i64 r.zone, .int .i64 r.off, .slice D n c] 57 (0, 0))
theorem Box.lt {w : World} {g : Nat} {r : Rc} {D : Option Addr} {n c : Nat} (h : Box w g r D n c) : g < w.heap.size := (Array.getElem?_eq_some_iff.1 h).1
theorem Box.below {w w' : World} {g : Nat} {r : Rc} {D : Option Addr} {n c : Nat} (h : Box w g r D n c) (hb : Below w.heap.size w w') : Box w' g r D n c := (hb.block g h.lt).trans h
theorem Box.alloc {w : World} {g : Nat} {r : Rc} {D : Option Addr} {n c : Nat} (h : Box w g r D n c) (o : Obj) : Box (w.alloc o) g r D n c := h.below ((Below.refl _ w).alloc (Nat.le_refl _) o)
theorem Box.cells {w : World} {g : Nat} {r : Rc} {D : Option Addr} {n c : Nat} (h : Box w g r D n c) :
    w.cell? ⟨g, 0, none⟩ = some (.int .i64 r.kind) ∧ w.cell? ⟨g, 1, none⟩ = some (.int .i64 r.lba) ∧ w.cell? ⟨g, 2, none⟩ = some (.int .i64 r.n) ∧ w.cell? ⟨g, 3, none⟩ = some (.int .i64 r.ver) ∧ w.cell? ⟨g, 4, none⟩ = some (.int .i64 r.zone) ∧ w.cell? ⟨g, 5, none⟩ = some (.int .i64 r.off) ∧ w.cell? ⟨g, 6, none⟩ = some (.slice D n c) := by
  have hc := fun i => cell_of_row w g i _ _ _ (h : w.heap[g]? = some (.cells _ _ (0, 0)))
  exact ⟨hc 0, hc 1, hc 2, hc 3, hc 4, hc 5, hc 6⟩
theorem Box.new (w : World) (r : Rc) (D : Option Addr) (n c : Nat) : Box (w.alloc (.cells #[.int .i64 r.kind, .int .i64 r.lba, .int .i64 r.n, .int .i64 r.ver, .int .i64 r.zone, .int .i64 r.off, .slice D n c] 57)) w.heap.size r D n c := heap_alloc_new w _

/-- What may be of the numbers, once none is below 0. -/
def kindB (r : Rc) : Bool :=
  if r.kind = 1 then blocksB r 256 && nowhereB r
  else if r.kind = 2 then blocksB r 1099511627776 && nowhereB r
  else if r.kind = 3 then blocksB r 1099511627776
  else if r.kind = 4 then (r.lba == 0) && ((r.n == 0) && nowhereB r)
  else if r.kind = 5 then blocksB r 256
  else false

set_option maxRecDepth 100000 in
set_option maxHeartbeats 1600000 in
theorem numbersMayBe_any (r : Rc) (hf : fits (nums r)) (D : Option Addr) (n c : Nat) (w : World) :
    Calls Tryz.prog 33 #[recV r D n c] w fun e w' => e = .returned (.bool (mayB r)) ∧ Below w.heap.size w w' := by
  have HF := Lib.hid hf
  have HO := fun w => Lib.hid (numbersOf_any r D n c w)
  have HW := fun w => Lib.hid (nowhere_any r D n c w)
  have HB := fun (h0 : 0 ≤ r.n) m w => Lib.hid (blocksMayBe_any r h0 D n c m w hf)
  have B1 := Lib.hid (Box.new w r D n c)
  have L1 := Lib.hid ((Below.refl w.heap.size w).alloc (Nat.le_refl _) (.cells #[.int .i64 r.kind, .int .i64 r.lba, .int .i64 r.n, .int .i64 r.ver, .int .i64 r.zone, .int .i64 r.off, .slice D n c] 57))
  have hm : Hid (mayB r = if nn (nums r) then kindB r else false) := by show _ = _; unfold mayB kindB; rfl
  unfold recV numsV at *
  clear hf
  go_enter Tryz.func33, Tryz.ntmps33
  go_wp2_with fail
  generalize hw1 : w.alloc (.cells #[.int .i64 r.kind, .int .i64 r.lba, .int .i64 r.n, .int .i64 r.ver, .int .i64 r.zone, .int .i64 r.off, .slice D n c] 57) = w1 at *
  refine (HO w1).out.mono ?_
  rintro e w2 ⟨rfl, hb2⟩
  have L2 := Lib.hid (L1.out.trans (hb2.mono L1.out.size))
  have B2 := Lib.hid (B1.out.below hb2)
  clear hb2 hw1 B1 L1
  go_wp2_with fail
  refine (min_any (row_nums (heap_alloc_new w2 _)) (by omega)).mono ?_
  rintro e w3 ⟨⟨m, rfl, hm0⟩, rfl⟩
  have L3 := Lib.hid (L2.out.alloc L2.out.size (.cells #[.int .i64 r.kind, .int .i64 r.lba, .int .i64 r.n, .int .i64 r.ver, .int .i64 r.zone, .int .i64 r.off] 111))
  have B3 := Lib.hid (B2.out.alloc (.cells #[.int .i64 r.kind, .int .i64 r.lba, .int .i64 r.n, .int .i64 r.ver, .int .i64 r.zone, .int .i64 r.off] 111))
  generalize w2.alloc (.cells #[.int .i64 r.kind, .int .i64 r.lba, .int .i64 r.n, .int .i64 r.ver, .int .i64 r.zone, .int .i64 r.off] 111) = w3 at *
  have HM := Lib.hid hm0
  obtain ⟨c0, c1, c2, c3, c4, c5, c6⟩ := B3.out.cells
  clear L2 B2 hm0
  by_cases hneg : m < 0
  · go_wp2_with fail
    go_ret
    refine ⟨ret_bool ?_, L3.out⟩
    have := HM.out
    rw [hm.out, if_neg (fun h => by have := this.2 h; omega)]
  · have hnn : Hid (nn (nums r)) := HM.out.1 (by omega)
    have h0 := nn_n hnn.out
    have hmay : Hid (mayB r = kindB r) := by show _ = _; rw [hm.out, if_pos hnn.out]
    have HB := HB h0
    clear hm HM
    have ek : Hid (kindB r = if (r.kind == 1) = true then blocksB r 256 && nowhereB r else if (r.kind == 2) = true then blocksB r 1099511627776 && nowhereB r else if (r.kind == 3) = true then blocksB r 1099511627776
      else if (r.kind == 4) = true then (r.lba == 0) && ((r.n == 0) && nowhereB r) else if (r.kind == 5) = true then blocksB r 256 else false) := by show _ = _; unfold kindB; simp only [beq_iff_eq]
    rcases e1 : (r.kind == 1)
    · rcases e2 : (r.kind == 2)
      · rcases e3 : (r.kind == 3)
        · rcases e4 : (r.kind == 4)
          · rcases e5 : (r.kind == 5)
            · go_wp2_with fail
              go_ret
              exact ⟨ret_bool (by rw [hmay.out, ek.out]; simp [e1, e2, e3, e4, e5]), L3.out⟩
            · go_wp2_with (go_at_call 56; refine (HB _ _).out.mono ?_; rintro e w4 ⟨rfl, hb⟩; have L4 := Lib.hid (L3.out.trans (hb.mono L3.out.size)); have B4 := Lib.hid (B3.out.below hb); obtain ⟨d0, d1, d2, d3, d4, d5, d6⟩ := B4.out.cells; clear hb)
              go_ret
              exact ⟨ret_bool (by rw [hmay.out, ek.out]; simp [e1, e2, e3, e4, e5]), L4.out⟩
          · rcases f1 : (r.lba == 0)
            · go_wp2_with fail
              go_ret
              exact ⟨ret_bool (by rw [hmay.out, ek.out]; simp [e1, e2, e3, e4, f1]), L3.out⟩
            · rcases f2 : (r.n == 0)
              · go_wp2_with fail
                go_ret
                exact ⟨ret_bool (by rw [hmay.out, ek.out]; simp [e1, e2, e3, e4, f1, f2]), L3.out⟩
              · go_wp2_with (go_at_call 57; refine (HW _).out.mono ?_; rintro e w5 ⟨rfl, hb⟩; have L5 := Lib.hid (L3.out.trans (hb.mono L3.out.size)); clear hb)
                go_ret
                exact ⟨ret_bool (by rw [hmay.out, ek.out]; simp [e1, e2, e3, e4, f1, f2]), L5.out⟩
        · go_wp2_with (go_at_call 56; refine (HB _ _).out.mono ?_; rintro e w4 ⟨rfl, hb⟩; have L4 := Lib.hid (L3.out.trans (hb.mono L3.out.size)); have B4 := Lib.hid (B3.out.below hb); obtain ⟨d0, d1, d2, d3, d4, d5, d6⟩ := B4.out.cells; clear hb)
          go_ret
          exact ⟨ret_bool (by rw [hmay.out, ek.out]; simp [e1, e2, e3]), L4.out⟩
      · rcases hbb : blocksB r 1099511627776
        · go_wp2_with (go_at_call 56; refine (HB _ _).out.mono ?_; rintro e w4 ⟨rfl, hb⟩; have L4 := Lib.hid (L3.out.trans (hb.mono L3.out.size)); have B4 := Lib.hid (B3.out.below hb); obtain ⟨d0, d1, d2, d3, d4, d5, d6⟩ := B4.out.cells; clear hb)
          go_ret
          exact ⟨ret_bool (by rw [hmay.out, ek.out]; simp [e1, e2, hbb]), L4.out⟩
        · go_wp2_with (first | (go_at_call 56; refine (HB _ _).out.mono ?_; rintro e w4 ⟨rfl, hb⟩; have L4 := Lib.hid (L3.out.trans (hb.mono L3.out.size)); have B4 := Lib.hid (B3.out.below hb); obtain ⟨d0, d1, d2, d3, d4, d5, d6⟩ := B4.out.cells; clear hb) | (go_at_call 57; refine (HW _).out.mono ?_; rintro e w5 ⟨rfl, hb⟩; have L5 := Lib.hid (L4.out.trans (hb.mono L4.out.size)); clear hb))
          go_ret
          exact ⟨ret_bool (by rw [hmay.out, ek.out]; simp [e1, e2, hbb]), L5.out⟩
    · rcases hbb : blocksB r 256
      · go_wp2_with (go_at_call 56; refine (HB _ _).out.mono ?_; rintro e w4 ⟨rfl, hb⟩; have L4 := Lib.hid (L3.out.trans (hb.mono L3.out.size)); have B4 := Lib.hid (B3.out.below hb); obtain ⟨d0, d1, d2, d3, d4, d5, d6⟩ := B4.out.cells; clear hb)
        go_ret
        exact ⟨ret_bool (by rw [hmay.out, ek.out]; simp [e1, hbb]), L4.out⟩
      · go_wp2_with (first | (go_at_call 56; refine (HB _ _).out.mono ?_; rintro e w4 ⟨rfl, hb⟩; have L4 := Lib.hid (L3.out.trans (hb.mono L3.out.size)); have B4 := Lib.hid (B3.out.below hb); obtain ⟨d0, d1, d2, d3, d4, d5, d6⟩ := B4.out.cells; clear hb) | (go_at_call 57; refine (HW _).out.mono ?_; rintro e w5 ⟨rfl, hb⟩; have L5 := Lib.hid (L4.out.trans (hb.mono L4.out.size)); clear hb))
        go_ret
        exact ⟨ret_bool (by rw [hmay.out, ek.out]; simp [e1, hbb]), L5.out⟩
end Seg
end Go.Proofs.YtedandbkdjmfhaaGreat
/-
  A TABLE FOR SUMS IN A BLOCK OF ITS OWN, AND WHAT STANDS OUTSIDE THAT BLOCK.
-/
namespace Go.Proofs.YtedandbkdjmfhaaGreat
open Go.RowKit Mem
namespace Seg
open Wire

/-- A table that was asked at most k times. -/
def Tk (g k : Nat) (w : World) : Prop := ∃ (q : Int) (made : Bool), Crc.Tab w g q made ∧ 0 ≤ q ∧ q ≤ k
theorem Tk.lt {g k : Nat} {w : World} (h : Tk g k w) : g < w.heap.size := by
  obtain ⟨q, m, ⟨cs, hb, r⟩, -⟩ := h
  exact Crc.Blk.lt (cs := cs) hb
theorem Tk.heap {g k : Nat} {w w' : World} (h : Tk g k w) (e : w'.heap[g]? = w.heap[g]?) : Tk g k w' := by
  obtain ⟨q, m, ⟨cs, hb, r⟩, h0, h1⟩ := h
  exact ⟨q, m, ⟨cs, (show w'.heap[g]? = _ from e.trans hb), r⟩, h0, h1⟩
theorem Tk.below {g k : Nat} {w w' : World} (h : Tk g k w) (hb : Below w.heap.size w w') : Tk g k w' := h.heap (hb.block g h.lt)
theorem Tk.alloc {g k : Nat} {w : World} (h : Tk g k w) (o : Obj) : Tk g k (w.alloc o) := h.below ((Below.refl _ w).alloc (Nat.le_refl _) o)
theorem Tk.drew {g k : Nat} {w : World} (h : Tk g k w) : Tk g k w.drew := h.heap rfl
theorem Tk.mono {g k k' : Nat} {w : World} (h : Tk g k w) (hk : k ≤ k') : Tk g k' w := by
  obtain ⟨q, m, t, h0, h1⟩ := h
  exact ⟨q, m, t, h0, by omega⟩
theorem keep_of_below {g : Nat} {w w' : World} (hb : Below w.heap.size w w') : Crc.Keep g w w' :=
  ⟨⟨hb.os, hb.tape, hb.output, hb.size, fun i hi _ => hb.block i hi⟩⟩
theorem Keep.then_below {g : Nat} {a b c : World} (h : Crc.Keep g a b) (k : Below a.heap.size b c) : Crc.Keep g a c :=
  ⟨⟨k.os.trans h.1.os, k.tape.trans h.1.tape, k.output.trans h.1.output, Nat.le_trans h.1.size k.size, fun i hi hn => (k.block i hi).trans (h.1.block i hi hn)⟩⟩
theorem Keep.block {g : Nat} {w w' : World} (h : Crc.Keep g w w') {b : Nat} (hb : b < w.heap.size) (hn : b ≠ g) : w'.heap[b]? = w.heap[b]? := h.1.block b hb (fun e => hn (by injection e))

/-- Bytes outside block g. -/
structure RowO (g : Nat) (w : World) (A : Option Addr) (n c : Nat) (l : List B8) : Prop where
  row : Row cb w A n c l
  off : 0 < n → ∀ b, A = some b → b.block ≠ g
section
variable {g : Nat} {w w' : World} {A : Option Addr} {n c : Nat} {l : List B8}
theorem Row.keepG {α : Type} {f : α → Value} {l : List α} (h : Row f w A n c l) (ho : 0 < n → ∀ b, A = some b → b.block ≠ g) (k : Crc.Keep g w w') : Row f w' A n c l := by
  refine ⟨h.len, h.cap, h.big, fun h0 => ?_⟩
  obtain ⟨b, o, e, hx, hc⟩ := h.at_ h0
  have hne := ho h0 _ e
  refine ⟨b, o, e, Nat.lt_of_lt_of_le hx k.1.size, fun i x hi => ?_⟩
  exact k.cell (p := ⟨b, o + i, none⟩) (hc i x hi) hne
theorem RowO.keep (h : RowO g w A n c l) (k : Crc.Keep g w w') : RowO g w' A n c l := ⟨Row.keepG h.row h.off k, h.off⟩
theorem RowO.below (h : RowO g w A n c l) (hb : Below w.heap.size w w') : RowO g w' A n c l := h.keep (keep_of_below hb)
theorem RowO.alloc (h : RowO g w A n c l) (o : Obj) : RowO g (w.alloc o) A n c l := h.below ((Below.refl _ w).alloc (Nat.le_refl _) o)
theorem RowO.drew (h : RowO g w A n c l) : RowO g w.drew A n c l := ⟨h.row.drew, h.off⟩
theorem RowO.bytes (h : RowO g w A n c l) : Crc.Bytes w g A n l := by
  refine ⟨h.row.len, h.row.big, fun h0 => ?_⟩
  obtain ⟨b, o, e, hx, hc⟩ := h.row.at_ h0
  refine ⟨⟨b, o, none⟩, e, h.off h0 _ e, fun i x hi => ?_⟩
  rw [Crc.add_none]
  exact hc i x hi
theorem RowO.of_low (h : Row cb w A n c l) (hg : w.heap.size ≤ g) : RowO g w A n c l := by
  refine ⟨h, fun h0 b e => ?_⟩
  obtain ⟨b', o, e', hx, -⟩ := h.at_ h0
  rw [e] at e'
  injection e' with e'
  subst e'
  show b' ≠ g
  omega
theorem RowO.of_own {e : TypeId} {base : Nat} (h : Owns cb e base w (.slice A n c) n l) (hn : n ≤ 140737488351232) (hg : g < base) : RowO g w A n c l := by
  obtain ⟨A', c', e', hr⟩ := h.row hn
  injection e' with e1 e2 e3
  subst e1 e3
  refine ⟨hr, fun h0 b eb => ?_⟩
  rcases h.2 with ⟨hs, -⟩ | ⟨q, cap, cur, hs, hb, -⟩
  · injection hs with h1 h2 h3; omega
  · injection hs with h1 h2 h3
    rw [h1] at eb
    injection eb with eb
    subst eb
    show q ≠ g
    omega
theorem RowO.tail (h : RowO g w A n c l) {k : Nat} (hk : k ≤ n) : RowO g w (tailA A c k) (n - k) (c - k) (l.drop k) := by
  refine ⟨h.row.tail hk, fun h0 b e => ?_⟩
  have hc := h.row.cap
  unfold tailA at e
  rw [if_neg (by omega)] at e
  rcases A with _ | x
  · cases e
  · simp only [Option.map_some, Option.some.injEq] at e
    subst e
    have := h.off (by omega) x rfl
    rwa [show (x.add k).block = x.block from by unfold Addr.add; split <;> rfl]
theorem Owns.keepG {α : Type} {f : α → Value} {e : TypeId} {base : Nat} {s : Value} {l : List α} (h : Owns f e base w s n l) (hg : g < base) (k : Crc.Keep g w w') : Owns f e base w' s n l := by
  refine ⟨h.1, ?_⟩
  rcases h.2 with hn | ⟨q, cap, cur, e', hbg, hq, r⟩
  · exact .inl hn
  · exact .inr ⟨q, cap, cur, e', hbg, (Keep.block k (Array.getElem?_eq_some_iff.1 hq).1 (by omega)).trans hq, r⟩
theorem Box.keep {g' : Nat} {r : Rc} {D : Option Addr} {m d : Nat} (h : Box w g' r D m d) (hn : g' ≠ g) (k : Crc.Keep g w w') : Box w' g' r D m d := (Keep.block k h.lt hn).trans h
end

/-- append(s, x...) onto a row of one's own, as one operation. -/
theorem wp_append_row {α : Type} {P : Program} {f : α → Value} (hf : ∀ x, (f x).oneCell' = true) {t e : TypeId} (ht : P.underlying t = some (.slice e)) {z : Value} {bytes : Nat} (hinfo : (P.info? e).map (fun i => (i.zero, i.size, i.bytes)) = some (some z, 1, bytes)) (hzs : z.cells.size = 1)
    {w : World} {o : Oper} {a : Act} {K : Act → World → Prop} {Q : Exit → Act → World → Prop} (s x : Operand)
    (ho : o.op = .call { callee := .builtin .append, args := #[s, x], argTypes := #[t, t] }) (hty : o.type = t)
    (base : Nat) (sv : Value) (n : Nat) (l : List α) (hs : a.eval s = sv) (hown : Owns f e base w sv n l) (A : Option Addr) (m c : Nat) (l' : List α) (hx : a.eval x = .slice A m c) (h : Row f w A m c l')
    (hbig : n + m ≤ 281474976710656) (hby : ((n + m) + (n + m) / 4 + 192) * bytes ≤ 281474976710656) (hbase : base ≤ w.heap.size)
    (hk : ∀ A' c' w', Owns f e base w' (.slice A' (n + m) c') (n + m) (l ++ l') → Below base w w' → K (a.put o.dst (.slice A' (n + m) c')) w') :
    o.wp P a w K Q := by
  obtain ⟨s', w', hrun, h2, h3, -⟩ := run_append hf ht hinfo hzs w base sv n l hown A m c l' h hbig hby hbase
  obtain ⟨A', c', rfl⟩ := h2.slice
  unfold Oper.wp execOp
  simp only [ho, hty, resolve, invoke, builtin, Sem.run_bind, Sem.run_pure, Result.andThen_ok, List.map_toArray, List.map_cons, List.map_nil, hs, hx, hrun]
  exact hk A' c' w' h2 h3

/-- One piece in a new block behind all. -/
theorem pieces_one {w : World} {g : Nat} {a : Option Addr} {n c : Nat} {l : List (BitVec 8)} (t : TypeId) (h : Crc.Bytes w g a n l) (hg : g ≠ w.heap.size) :
    Crc.Pieces (w.alloc (.cells #[.slice a n c] t)) g (some ⟨w.heap.size, 0, none⟩) 1 [l] := by
  refine ⟨rfl, by omega, fun _ => ⟨w.heap.size, 0, rfl, Ne.symm hg, fun i l' hl => ?_⟩⟩
  match i, hl with
  | 0, hl =>
    simp at hl
    subst hl
    exact ⟨a, n, c, by simp, h.keep ((Crc.Keep.refl g w).alloc _)⟩
/-- Sum of one piece, as the text calls it: the piece lies in a new block. -/
theorem sum_one {w : World} {g k : Nat} (ht : Tk g k w) (hk : k ≤ 4611686018427387904) {a : Option Addr} {n c : Nat} {l : List (BitVec 8)} (h : RowO g w a n c l) {b : Nat} (hb : b = w.heap.size) :
    Calls Tryz.prog 40 #[.pointer (some ⟨g, 0, none⟩), .slice (some ⟨b, 0, none⟩) 1 1] (w.alloc (.cells #[.slice a n c] 32)) fun e w' => e = .returned (.int .u32 (sumOf l : Nat)) ∧ Crc.Keep g w w' ∧ Tk g (k + 1) w' := by
  subst hb
  have hlt := ht.lt
  obtain ⟨q, made, t, h0, h1⟩ := ht.alloc (.cells #[.slice a n c] 32)
  refine (Crc.sum_any g q made _ 1 1 [l] _ t h0 (by omega) (pieces_one _ h.bytes (Nat.ne_of_lt hlt))).mono ?_
  rintro e w' ⟨he, hT, hK⟩
  refine ⟨he, ((Crc.Keep.refl g w).alloc _).trans hK, q + 1, true, hT, by omega, by omega⟩
end Seg
end Go.Proofs.YtedandbkdjmfhaaGreat
/-
  WALKS OVER seg'S Check AND Sameness.
-/
namespace Go.Proofs.YtedandbkdjmfhaaGreat
open Go.RowKit Mem
namespace Seg
open Wire

theorem may_n {r : Rc} (h : mayB r = true) : r.kind = 1 ∨ r.kind = 5 → 0 ≤ r.n ∧ r.n ≤ 256 := by
  intro hk
  unfold mayB at h
  split at h
  · rename_i hn
    have := nn_n hn
    refine ⟨this, ?_⟩
    rcases hk with hk | hk
    · rw [if_pos hk] at h
      simp only [blocksB, Bool.and_eq_true, decide_eq_true_eq] at h
      omega
    · rw [if_neg (by omega), if_neg (by omega), if_neg (by omega), if_neg (by omega), if_pos hk] at h
      simp only [blocksB, Bool.and_eq_true, decide_eq_true_eq] at h
      omega
  · cases h

set_option maxRecDepth 100000 in
set_option maxHeartbeats 3200000 in
theorem check_any (r : Rc) (hf : fits (nums r)) (D : Option Addr) (n c : Nat) (hn : r.data.length = n) (hb : n ≤ 140737488351232) (w : World) :
    Calls Tryz.prog 17 #[recV r D n c] w fun e w' => e = .returned (.int .i64 (check r : Nat)) ∧ Below w.heap.size w w' := by
  have HM := fun w => Lib.hid (numbersMayBe_any r hf D n c w)
  have HB := fun h w => Lib.hid (bytesOf_any r D n c w h)
  have B1 := Lib.hid (Box.new w r D n c)
  have L1 := Lib.hid ((Below.refl w.heap.size w).alloc (Nat.le_refl _) (.cells #[.int .i64 r.kind, .int .i64 r.lba, .int .i64 r.n, .int .i64 r.ver, .int .i64 r.zone, .int .i64 r.off, .slice D n c] 57))
  have hck : Hid (check r = if mayB r = true then (if (r.kind == 4) = true then (if 32768 < (n : Int) then 2 else 0) else if (n : Int) = bytesOf r then 0 else 1) else 1) := by
    show _ = _
    unfold check
    rw [hn]
    simp only [beq_iff_eq]
    by_cases h : 32768 < n
    · rw [if_pos h, if_pos (show (32768 : Int) < (n : Int) by omega)]
    · rw [if_neg h, if_neg (show ¬ (32768 : Int) < (n : Int) by omega)]
  unfold recV at *
  clear hf hn
  go_enter Tryz.func17, Tryz.ntmps17
  go_wp2_with fail
  generalize w.alloc (.cells #[.int .i64 r.kind, .int .i64 r.lba, .int .i64 r.n, .int .i64 r.ver, .int .i64 r.zone, .int .i64 r.off, .slice D n c] 57) = w1 at *
  refine (HM w1).out.mono ?_
  rintro e w2 ⟨rfl, hb2⟩
  have L2 := Lib.hid (L1.out.trans (hb2.mono L1.out.size))
  have B2 := Lib.hid (B1.out.below hb2)
  obtain ⟨c0, c1, c2, c3, c4, c5, c6⟩ := B2.out.cells
  clear hb2 B1 L1
  have hmn := Lib.hid (may_n (r := r))
  rcases hm : mayB r
  · go_wp2_with fail
    go_ret
    exact ⟨ret_int (by rw [hck.out, hm]; rfl), L2.out⟩
  · rcases e4 : (r.kind == 4)
    · have hbs := Lib.hid (HB (hmn.out hm))
      have e4' : (r.kind != 4) = true := by unfold bne; rw [e4]; rfl
      have hck2 : Hid (check r = if (n : Int) = bytesOf r then 0 else 1) := by show _ = _; rw [hck.out, hm, e4, if_pos rfl]; rfl
      generalize bytesOf r = q at *
      go_wp2_with fail
      go_region_held3 (fun W => W.cell? ⟨w.heap.size, 0, none⟩ = some (.int .i64 r.kind) ∧ W.cell? ⟨w.heap.size, 1, none⟩ = some (.int .i64 r.lba) ∧ W.cell? ⟨w.heap.size, 2, none⟩ = some (.int .i64 r.n) ∧ W.cell? ⟨w.heap.size, 3, none⟩ = some (.int .i64 r.ver) ∧ W.cell? ⟨w.heap.size, 4, none⟩ = some (.int .i64 r.zone) ∧ W.cell? ⟨w.heap.size, 5, none⟩ = some (.int .i64 r.off) ∧ W.cell? ⟨w.heap.size, 6, none⟩ = some (.slice D n c))
        (first | exact ⟨c0, c1, c2, c3, c4, c5, c6⟩ | exact ⟨d0, d1, d2, d3, d4, d5, d6⟩)
        ((first | (go_at_call 34; refine (hbs.out _).out.mono ?_; rintro e w3 ⟨rfl, hb3⟩; have L3 := Lib.hid (L2.out.trans ((Below.refl _ w2).drew.trans (hb3.mono (by simpa using L2.out.size)))); obtain ⟨d0, d1, d2, d3, d4, d5, d6⟩ := ((B2.out.below (Below.refl _ _).drew).below hb3).cells; clear hb3) | fail))
      all_goals
        rcases hq : ((n : Int) != q)
        · go_wp2_with fail
          go_ret
          exact ⟨ret_int (by rw [hck2.out, if_pos (bne_eq_false_iff_eq.1 hq)]; rfl), L3.out⟩
        · go_wp2_with fail
          go_ret
          exact ⟨ret_int (by rw [hck2.out, if_neg (bne_iff_ne.1 hq)]; rfl), L3.out⟩
    · by_cases hl : 32768 < (n : Int)
      · go_wp2_with fail
        go_ret
        exact ⟨ret_int (by rw [hck.out, hm, e4, if_pos rfl, if_pos rfl, if_pos hl]; rfl), L2.out⟩
      · have e4' : (r.kind != 4) = false := by unfold bne; rw [e4]; rfl
        have hck2 : Hid (check r = 0) := by show _ = _; rw [hck.out, hm, e4, if_pos rfl, if_pos rfl, if_neg hl]
        go_wp2_with fail
        go_quiet (fail)
        go_wp2_with fail
        go_ret
        exact ⟨ret_int (by rw [hck2.out]; rfl), L2.out.trans (Wire.below_drewN _ _ _)⟩

/-- Sameness. -/
def sameB (a b : Rc) : Bool := decide (nums a = nums b) && decide (a.data = b.data)
theorem sameB_iff (a b : Rc) : sameB a b = true ↔ a = b := by
  obtain ⟨a0, a1, a2, a3, a4, a5, a6⟩ := a
  obtain ⟨b0, b1, b2, b3, b4, b5, b6⟩ := b
  simp [sameB, nums]
  constructor
  · rintro ⟨⟨rfl, rfl, rfl, rfl, rfl, rfl⟩, rfl⟩; simp
  · rintro ⟨rfl, rfl, rfl, rfl, rfl, rfl, rfl⟩; simp

set_option maxRecDepth 100000 in
theorem eql_nums (a b : Rc) (w : World) : (binOp .eql 111 (numsV a) (numsV b)).run Tryz.prog w = .ok (.bool (decide (nums a = nums b))) w := by
  obtain ⟨i, hi, hz0, hz1, hz2⟩ := info_parts (show (Tryz.prog.info? 3).map (fun i => (i.zero, i.size, i.bytes)) = some (some (.int .i64 0), 1, 8) by kernel_rfl)
  have hc : Tryz.prog.cellsOf 3 = 1 := by kernel_rfl
  unfold numsV
  rw [run_eql_struct, run_equalIn_array w 9999 _ _ Tryz.underlying111 hi, hc]
  have hr : List.range 6 = [0, 1, 2, 3, 4, 5] := rfl
  rw [hr]
  have hd : ∀ x y : Int, (x == y) = decide (x = y) := fun x y => rfl
  simp [Op.eqItems, go_sem, hi, Tryz.underlying3, nums]
  repeat' split
  all_goals simp_all

theorem both {w : World} {g g' : Nat} {a b : Rc} {A B : Option Addr} {n c m d : Nat} (h : Box w g a A n c ∧ Box w g' b B m d) :
    (w.cell? ⟨g, 0, none⟩ = some (.int .i64 a.kind) ∧ w.cell? ⟨g, 1, none⟩ = some (.int .i64 a.lba) ∧ w.cell? ⟨g, 2, none⟩ = some (.int .i64 a.n) ∧ w.cell? ⟨g, 3, none⟩ = some (.int .i64 a.ver) ∧ w.cell? ⟨g, 4, none⟩ = some (.int .i64 a.zone) ∧ w.cell? ⟨g, 5, none⟩ = some (.int .i64 a.off) ∧ w.cell? ⟨g, 6, none⟩ = some (.slice A n c)) ∧
      (w.cell? ⟨g', 0, none⟩ = some (.int .i64 b.kind) ∧ w.cell? ⟨g', 1, none⟩ = some (.int .i64 b.lba) ∧ w.cell? ⟨g', 2, none⟩ = some (.int .i64 b.n) ∧ w.cell? ⟨g', 3, none⟩ = some (.int .i64 b.ver) ∧ w.cell? ⟨g', 4, none⟩ = some (.int .i64 b.zone) ∧ w.cell? ⟨g', 5, none⟩ = some (.int .i64 b.off) ∧ w.cell? ⟨g', 6, none⟩ = some (.slice B m d)) := ⟨h.1.cells, h.2.cells⟩
/-- Two boxes, one behind the other. -/
theorem two_boxes (w : World) (a b : Rc) (A B : Option Addr) (n c m d : Nat) :
    let w1 := (w.alloc (.cells #[.int .i64 a.kind, .int .i64 a.lba, .int .i64 a.n, .int .i64 a.ver, .int .i64 a.zone, .int .i64 a.off, .slice A n c] 57)).alloc (.cells #[.int .i64 b.kind, .int .i64 b.lba, .int .i64 b.n, .int .i64 b.ver, .int .i64 b.zone, .int .i64 b.off, .slice B m d] 57)
    (Box w1 w.heap.size a A n c ∧ Box w1 (w.heap.size + 1) b B m d) ∧ Below w.heap.size w w1 := by
  refine ⟨⟨heap_alloc2_old w _ _, heap_alloc2_new w _ _⟩, ((Below.refl _ w).alloc (Nat.le_refl _) _).alloc (by simp) _⟩

end Seg
end Go.Proofs.YtedandbkdjmfhaaGreat
/-
  wire: WHAT THE STATEMENTS ASK FIRST: the chapter's examples (live).
-/
namespace Go.Proofs.YtedandbkdjmfhaaGreat
open Go.RowKit Mem
namespace Wire

theorem row_new {α : Type} (f : α → Value) (w : World) (l : List α) (t : TypeId) (hn : l.length ≤ 140737488351232) {vs : Array Value} (hv : vs = (l.map f).toArray) : Row f (w.alloc (.cells vs t)) (some ⟨w.heap.size, 0, none⟩) l.length l.length l := by
  subst hv
  refine ⟨rfl, Nat.le_refl _, hn, fun _ => ⟨_, _, rfl, by simp, fun i y hi => ?_⟩⟩
  rw [cell_of_row _ w.heap.size (0 + i) _ _ (0, 0) (heap_alloc_new w _)]
  simp [hi]

theorem enc300 : enc 300 = [172#8, 2#8] := by rw [enc_ge (by omega), enc_lt (by omega)]
theorem str300 : str (enc 300) = ⟨#[172, 2]⟩ := by rw [enc300]; rfl
theorem take128 : take1 [128#8, 0#8] = (0, 0, 21) := by decide
theorem take300 : take1 [172#8, 2#8, 9#8] = (300, 2, 0) := by decide

end Wire
end Go.Proofs.YtedandbkdjmfhaaGreat
/-
  NUMBERS ONE BEHIND THE OTHER: Nums, TakeNums, for every input. (Parted from WireRows in round 8: coord has these, not the rest.)
-/
namespace Go.Proofs.YtedandbkdjmfhaaGreat
open Go.RowKit Mem
namespace Wire

/-- A row and an error, as a call gave them. -/
def GaveE {α : Type} (f : α → Value) (e : TypeId) (base : Nat) (w : World) (l : List α) (er : Int) (en : Ending) (w' : World) : Prop :=
  ∃ A k c, en = .returned (.tuple #[.slice A k c, .int .i64 er]) ∧ Owns f e base w' (.slice A k c) k l ∧ Below base w w'

def Numbered (l : List Int) (w : World) (en : Ending) (w' : World) : Prop :=
  ((∀ z ∈ l, 0 ≤ z) ∧ GaveE cb 5 w.heap.size w (encs (l.map Int.toNat)) 0 en w') ∨
  ((∃ z ∈ l, z < 0) ∧ en = .returned (.tuple #[.slice none 0 0, .int .i64 1]) ∧ Below w.heap.size w w')

theorem wrap_u64_small (n : Nat) (h : n < 9223372036854775808) : IntKind.u64.wrap (n : Int) = n := by
  simp [IntKind.wrap, IntKind.bits, IntKind.signed]; omega

set_option maxRecDepth 100000 in
set_option maxHeartbeats 800000 in
theorem nums_any {A : Option Addr} {n c : Nat} {l : List Int} {w : World} (h : Row ci w A n c l) (hr : ∀ z ∈ l, z < 9223372036854775808) (hn : n ≤ 17592186044416) :
    Calls Tryz.prog 42 #[.slice A n c] w (Numbered l w) := by
  have HR := Lib.hid h
  have HZ := Lib.hid hr
  clear h hr
  go_enter Tryz.func42, Tryz.ntmps42
  go_wp2
  go_loopw [4, 9] (fun s i wr => ∃ (B : Option Addr) (j d k : Nat), s = .slice B j d ∧ i = .int .i64 k ∧ k ≤ n ∧
    Hid ((∀ z ∈ l.take k, 0 ≤ z) ∧ Owns cb 5 w.heap.size wr (.slice B j d) j (encs ((l.take k).map Int.toNat)) ∧ Below w.heap.size w wr)) (fun _ i _ => n - (intOf i).toNat)
  case atStart => exact ⟨none, 0, 0, 0, rfl, rfl, by omega, by simp, Owns.nil _ _ _ _, Below.refl _ _⟩
  case round =>
    obtain ⟨B, j, d, k, rfl, rfl, hk, hH⟩ := hrel
    by_cases hlt : k < n
    · obtain ⟨z, hz⟩ := HR.out.get hlt
      have hcell := (HR.out.below hH.out.2.2).cell hz
      obtain ⟨b, o, rfl, hcell⟩ := hcell
      have hcell' : wr.cell? ⟨b, o + k, none⟩ = some (.int .i64 z) := hcell
      have HE := Lib.hid hz
      clear hcell hz
      by_cases hneg : z < 0
      · go_wp2
        go_ret2
        refine .inr ⟨⟨z, List.mem_of_getElem? HE.out, hneg⟩, rfl, hH.out.2.2⟩
      · obtain ⟨m, rfl⟩ := Int.eq_ofNat_of_zero_le (show 0 ≤ z by omega)
        have hm : m < 9223372036854775808 := by have := HZ.out _ (List.mem_of_getElem? HE.out); omega
        have hwr := wrap_u64_small m hm
        have hjl : Hid (j ≤ 10 * n) := by
          have h1 := hH.out.2.1.len
          have h2 := encs_len (l := (l.take k).map Int.toNat) (fun x hx => by
            obtain ⟨y, hy, rfl⟩ := List.mem_map.1 hx
            have := HZ.out y (List.mem_of_mem_take hy)
            omega)
          simp only [List.length_map, List.length_take] at h2
          show _ ≤ _
          omega
        have HP := Lib.hid (put_any w.heap.size m (by omega) B j d _ wr hH.out.2.1 hH.out.2.2.size (by have := hjl.out; omega))
        clear hm
        go_wp2_with (go_at_call 63; refine HP.out.mono ?_; rintro e w2 ⟨B2, j2, d2, rfl, h2, hb2⟩; have H2 := Lib.hid h2; have HB2 := Lib.hid hb2; clear h2 hb2)
        go_roundw
        case rel =>
          refine ⟨B2, j2, d2, k + 1, rfl, by go_num, by omega, ?_, ?_, hH.out.2.2.trans HB2.out⟩
          · intro y hy
            rw [List.take_add_one, HE.out] at hy
            rcases List.mem_append.1 hy with h | h
            · exact hH.out.1 y h
            · simp at h; omega
          · have := H2.out
            rw [List.take_add_one, HE.out, List.map_append, encs_append]
            simpa [encs_cons, encs_nil] using this
        case measure => simp [intOf]; omega
    · have hkn : l.take k = l := List.take_of_length_le (by have := HR.out.len; omega)
      have HK := Lib.hid hkn
      clear hkn
      go_wp2
      go_ret2
      have h := hH.out
      rw [HK.out] at h
      exact .inl ⟨h.1, _, _, _, rfl, h.2.1, h.2.2⟩

theorem info_int : (Tryz.prog.info? 3).map (fun i => (i.zero, i.size, i.bytes)) = some (some (.int .i64 0), 1, 8) := by kernel_rfl
/-- Numbers as ints. -/
def asInts (l : List Nat) : List Int := List.map (α := Nat) (β := Int) (fun n => (n : Int)) l
theorem asInts_append (l : List Nat) (n : Nat) : asInts (l ++ [n]) = asInts l ++ [(n : Int)] := by simp [asInts]

/-- What TakeNums tells. -/
def TookN (l : List Nat) (k e : Nat) (w : World) (en : Ending) (w' : World) : Prop :=
  ∃ B j d, en = .returned (.tuple #[.slice B j d, .int .i64 (k : Int), .int .i64 (e : Int)]) ∧ Owns ci 3 w.heap.size w' (.slice B j d) j (asInts l) ∧ Below w.heap.size w w'

set_option maxRecDepth 100000 in
set_option maxHeartbeats 1600000 in
theorem takeNums_at {A : Option Addr} {n c : Nat} {b : List B8} {w : World} (h : Row cb w A n c b) (hn : n ≤ 100000000) (m : Nat) (hm : m ≤ 9223372036854775807) {l : List Nat} {kk ee : Nat} (hi : ints m b = (l, kk, ee)) :
    Calls Tryz.prog 41 #[.slice A n c, .int .i64 m] w (TookN l kk ee w) := by
  have HR := Lib.hid h
  have HI := Lib.hid hi
  clear h hi
  have hneg : decide ((m : Int) < 0) = false := by simp
  go_enter Tryz.func41, Tryz.ntmps41
  go_wp2
  go_loopw [7, 8, 15] (fun s a i wr => ∃ (B : Option Addr) (j d q p : Nat), s = .slice B j d ∧ a = .int .i64 q ∧ i = .int .i64 p ∧ p ≤ m ∧ q ≤ n ∧ j ≤ q ∧
    Hid (∃ acc : List Nat, Owns ci 3 w.heap.size wr (.slice B j d) j (asInts acc) ∧ Below w.heap.size w wr ∧ goOn acc q (ints (m - p) (b.drop q)) = (l, kk, ee))) (fun _ _ i _ => m - (intOf i).toNat)
  case atStart => exact ⟨none, 0, 0, 0, 0, rfl, rfl, rfl, by omega, by omega, by omega, [], Owns.nil _ _ _ _, Below.refl _ _, by rw [List.drop_zero, Nat.sub_zero, goOn_ints]; exact HI.out⟩
  case round =>
    obtain ⟨B, j, d, q, p, rfl, rfl, rfl, hp, hq, hjq, hH⟩ := hrel
    obtain ⟨acc, hown, hbel, hgo⟩ := hH.out
    have HO := Lib.hid hown
    have HB := Lib.hid hbel
    have HG := Lib.hid hgo
    clear hown hbel hgo hH
    by_cases hlt : p < m
    · have hsl := run_tail A n c q hq
      have HT := Lib.hid ((HR.out.below HB.out).tail (k := q) hq)
      rcases h1 : int1 (b.drop q) with ⟨x, y, e⟩
      have H1 := Lib.hid h1
      clear h1
      have hms : m - p = (m - (p + 1)) + 1 := by omega
      by_cases he : e = 0
      · subst he
        obtain ⟨t1, hx⟩ := int1_one H1.out
        obtain ⟨y1, y2, y3, -⟩ := take1_one t1
        have hyn : q + y ≤ n := by rw [List.length_drop] at y2; have := HR.out.len; omega
        have G2 : Hid (goOn (acc ++ [x]) (q + y) (ints (m - (p + 1)) (b.drop (q + y))) = (l, kk, ee)) := by
          have := HG.out
          rw [hms, goOn_step H1.out] at this
          exact this
        clear t1 hx y2 y3 hms
        go_wp2_with (first
          | (go_at_call 59; refine (takeInt_at HT.out H1.out).mono ?_; rintro e w2 ⟨rfl, hb2⟩; have B2 := Lib.hid hb2; clear hb2)
          | (at_builtin
             refine wpList_append_row ci_one Tryz.underlying44 info_int rfl rfl (.tmp 28) (.tmp 30) rfl rfl w.heap.size (.slice B j d) j (asInts acc) rfl (((HO.out.below B2.out)).alloc _) _ 1 1 [(x : Int)] rfl (row_one ci w2 _ _ _ rfl) (by omega) (by omega) (by have := HB.out.size; have := B2.out.size; simp; omega) ?_
             intro A3 c3 w3 hown3 hb3
             have O3 := Lib.hid hown3
             have B3 := Lib.hid hb3
             clear hown3 hb3))
        go_roundw
        case rel =>
          refine ⟨A3, j + 1, c3, q + y, p + 1, rfl, by go_num, by go_num, by omega, hyn, by omega, acc ++ [x], ?_, ?_, G2.out⟩
          · rw [asInts_append]; exact O3.out
          · exact (HB.out.trans ((B2.out.mono HB.out.size).trans (((Below.refl _ w2).alloc (Nat.le_trans HB.out.size B2.out.size) _).trans B3.out)))
        case measure => simp [intOf]; omega
      · obtain ⟨rfl, rfl, h3⟩ := int1_bad H1.out he
        have G2 := HG.out
        rw [hms, goOn_stop H1.out he] at G2
        simp only [Prod.mk.injEq] at G2
        obtain ⟨rfl, rfl, rfl⟩ := G2
        clear hms he HG
        rcases h3 with rfl | rfl
        all_goals
          go_wp2_with (go_at_call 59; refine (takeInt_at HT.out H1.out).mono ?_; rintro e w2 ⟨rfl, hb2⟩; have B2 := Lib.hid hb2; clear hb2)
          go_ret3
          exact ⟨none, 0, 0, rfl, Owns.nil _ _ _ _, HB.out.trans (B2.out.mono HB.out.size)⟩
    · have hpm : m - p = 0 := by omega
      have G2 := HG.out
      rw [hpm, goOn_end] at G2
      simp only [Prod.mk.injEq] at G2
      obtain ⟨rfl, rfl, rfl⟩ := G2
      clear hpm HG
      go_wp2
      go_ret3
      exact ⟨B, j, d, rfl, HO.out, HB.out⟩

end Wire
end Go.Proofs.YtedandbkdjmfhaaGreat
