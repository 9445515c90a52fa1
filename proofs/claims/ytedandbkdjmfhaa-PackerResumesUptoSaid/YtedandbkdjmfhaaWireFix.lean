/-
  wire: Fixed AND TakeFixed, AND THE DOCUMENT's OWN.
-/
import Derived.Test.YtedandbkdjmfhaaWireTake
import Derived.Laws.MakeOwn
import Derived.Deep.QuietTactic
import Derived.BigQuiet
namespace Go.Proofs.Ytedandbkdjmfhaa
open Go.RowKit Go.Shelf Mem
namespace Wire

/-- The four bytes of a number. -/
def enc4 (n : Nat) : List B8 := [BitVec.ofNat 8 n, BitVec.ofNat 8 (n / 256), BitVec.ofNat 8 (n / 65536), BitVec.ofNat 8 (n / 16777216)]
/-- The cells when k of them are written. -/
def cells4 (n k : Nat) : Array Value := #[if 0 < k then cb (BitVec.ofNat 8 n) else .int .u8 0, if 1 < k then cb (BitVec.ofNat 8 (n / 256)) else .int .u8 0, if 2 < k then cb (BitVec.ofNat 8 (n / 65536)) else .int .u8 0, if 3 < k then cb (BitVec.ofNat 8 (n / 16777216)) else .int .u8 0]

theorem heap_set {w : World} {g : Nat} {cs : Array Value} {e : TypeId} (h : w.heap[g]? = some (.cells cs e (0, 0))) (i : Nat) (v : Value) : (w.setCell ⟨g, i, none⟩ v).heap[g]? = some (.cells (cs.setIfInBounds i v) e (0, 0)) := by
  simp [World.setCell, Array.getElem?_modify, h]
theorem cells4_0 (n : Nat) : (cells4 n 0).setIfInBounds 0 (.int .u8 ((n : Int) % 256)) = cells4 n 1 := by
  have : Value.int .u8 ((n : Int) % 256) = cb (BitVec.ofNat 8 n) := by unfold cb u; rw [BitVec.toNat_ofNat]; congr 1
  rw [this]; rfl
theorem cells4_1 (n : Nat) : (cells4 n 1).setIfInBounds 1 (.int .u8 ((n : Int) / 256 % 256)) = cells4 n 2 := by
  have : Value.int .u8 ((n : Int) / 256 % 256) = cb (BitVec.ofNat 8 (n / 256)) := by unfold cb u; rw [BitVec.toNat_ofNat]; congr 1
  rw [this]; rfl
theorem cells4_2 (n : Nat) : (cells4 n 2).setIfInBounds 2 (.int .u8 ((n : Int) / 65536 % 256)) = cells4 n 3 := by
  have : Value.int .u8 ((n : Int) / 65536 % 256) = cb (BitVec.ofNat 8 (n / 65536)) := by unfold cb u; rw [BitVec.toNat_ofNat]; congr 1
  rw [this]; rfl
theorem top_u (n : Nat) (hn : n < 4294967296) : (n : Int) / 16777216 = u (BitVec.ofNat 8 (n / 16777216)) := by unfold u; rw [BitVec.toNat_ofNat]; omega
theorem cells4_3 (n : Nat) (hn : n < 4294967296) : (cells4 n 3).setIfInBounds 3 (.int .u8 ((n : Int) / 16777216)) = cells4 n 4 := by
  have : Value.int .u8 ((n : Int) / 16777216) = cb (BitVec.ofNat 8 (n / 16777216)) := by unfold cb; rw [top_u n hn]
  rw [this]; rfl
theorem cells4_made (n : Nat) : madeCells #[Value.int IntKind.u8 0] 4 = cells4 n 0 := by
  apply Array.toList_inj.1
  simp [madeCells, cells4, List.range_succ]
theorem own4 {w : World} {g base n : Nat} (h : w.heap[g]? = some (.cells (cells4 n 4) 5 (0, 0))) (hb : base ≤ g) : Owns cb 5 base w (.slice (some ⟨g, 0, none⟩) 4 4) 4 (enc4 n) :=
  ⟨rfl, .inr ⟨g, 4, cells4 n 4, rfl, hb, h, Nat.le_refl _, by decide, rfl, rfl⟩⟩

theorem own4_new {w : World} {n : Nat} {a b c d : Int} (ha : a = u (BitVec.ofNat 8 n)) (hb : b = u (BitVec.ofNat 8 (n / 256))) (hc : c = u (BitVec.ofNat 8 (n / 65536))) (hd : d = u (BitVec.ofNat 8 (n / 16777216))) :
    Owns cb 5 w.heap.size (w.alloc (.cells #[.int .u8 a, .int .u8 b, .int .u8 c, .int .u8 d] 5)) (.slice (some ⟨w.heap.size, 0, none⟩) 4 4) 4 (enc4 n) := by
  subst ha hb hc hd
  exact own4 (heap_alloc_new w _) (Nat.le_refl _)

set_option maxRecDepth 100000 in
set_option maxHeartbeats 800000 in
theorem fixed_any (n : Nat) (hn : n < 4294967296) (w : World) :
    Calls Try.prog 48 #[.int .u32 n] w (Gave cb 5 w.heap.size w (enc4 n)) := by
  obtain ⟨i, hi, hz0, hz1, hz2⟩ := info_parts info_byte
  have hmk := run_makeSlice (P := Try.prog) w 27 5 i _ Try.underlying27 hi hz0
  go_enter Try.func48, Try.ntmps48
  go_wp2
  go_loopw [8] (fun i wr => ∃ k : Nat, k ≤ 4 ∧ i = .int .i64 k ∧ Hid (wr.heap[w.heap.size]? = some (.cells (cells4 n k) 5 (0, 0)) ∧ Below w.heap.size w wr)) (fun i _ => 4 - (intOf i).toNat)
  case atStart => exact ⟨0, by omega, rfl, by rw [heap_alloc_new, cells4_made n], (Below.refl _ _).alloc (Nat.le_refl _) _⟩
  case round =>
    obtain ⟨k, hk, rfl, hH⟩ := hrel
    have hb := hH.out.1
    by_cases h4 : k = 4
    · subst h4
      clear hb
      go_wp2
      go_ret
      exact ⟨_, _, _, rfl, own4 hH.out.1 (Nat.le_refl _), hH.out.2⟩
    · have hc : ∀ i, wr.cell? ⟨w.heap.size, i, none⟩ = (cells4 n k)[i]? := fun i => cell_of_row wr w.heap.size i _ _ (0, 0) hb
      have hf : ∀ i, wr.frozen? ⟨w.heap.size, i, none⟩ = false := fun i => by simp [World.frozen?, hb]
      have h3 : k = 0 ∨ k = 1 ∨ k = 2 ∨ k = 3 := by omega
      clear hb h4
      rcases h3 with rfl | rfl | rfl | rfl
      · have c0 := hc 0
        have f0 := hf 0
        clear hc hf
        go_wp2
        go_roundw
        case rel => exact ⟨1, by omega, rfl, by rw [heap_set hH.out.1, cells4_0], hH.out.2.setCell (p := ⟨w.heap.size, 0, none⟩) (Nat.le_refl _) _⟩
        case measure => simp [intOf]
      · have c0 := hc 1
        have f0 := hf 1
        clear hc hf
        go_wp2
        go_roundw
        case rel => exact ⟨2, by omega, rfl, by rw [heap_set hH.out.1, cells4_1], hH.out.2.setCell (p := ⟨w.heap.size, 1, none⟩) (Nat.le_refl _) _⟩
        case measure => simp [intOf]
      · have c0 := hc 2
        have f0 := hf 2
        clear hc hf
        go_wp2
        go_roundw
        case rel => exact ⟨3, by omega, rfl, by rw [heap_set hH.out.1, cells4_2], hH.out.2.setCell (p := ⟨w.heap.size, 2, none⟩) (Nat.le_refl _) _⟩
        case measure => simp [intOf]
      · have c0 := hc 3
        have f0 := hf 3
        clear hc hf
        go_wp2
        go_roundw
        case rel => exact ⟨4, by omega, rfl, by rw [heap_set hH.out.1, cells4_3 n hn], hH.out.2.setCell (p := ⟨w.heap.size, 3, none⟩) (Nat.le_refl _) _⟩
        case measure => simp [intOf]


/-- The number of four bytes. -/
def dec4 (a b c d : B8) : Nat := a.toNat + 256 * b.toNat + 65536 * c.toNat + 16777216 * d.toNat
theorem dec4_lt (a b c d : B8) : dec4 a b c d < 4294967296 := by
  have := a.isLt; have := b.isLt; have := c.isLt; have := d.isLt
  unfold dec4; omega
theorem enc4_dec4 (a b c d : B8) : enc4 (dec4 a b c d) = [a, b, c, d] := by
  have ha := a.isLt; have hb := b.isLt; have hc := c.isLt; have hd := d.isLt
  unfold enc4
  have e0 : BitVec.ofNat 8 (dec4 a b c d) = a := by apply BitVec.eq_of_toNat_eq; rw [BitVec.toNat_ofNat]; unfold dec4; omega
  have e1 : BitVec.ofNat 8 (dec4 a b c d / 256) = b := by apply BitVec.eq_of_toNat_eq; rw [BitVec.toNat_ofNat]; unfold dec4; omega
  have e2 : BitVec.ofNat 8 (dec4 a b c d / 65536) = c := by apply BitVec.eq_of_toNat_eq; rw [BitVec.toNat_ofNat]; unfold dec4; omega
  have e3 : BitVec.ofNat 8 (dec4 a b c d / 16777216) = d := by apply BitVec.eq_of_toNat_eq; rw [BitVec.toNat_ofNat]; unfold dec4; omega
  rw [e0, e1, e2, e3]
theorem dec4_enc4 (n : Nat) (hn : n < 4294967296) : dec4 (BitVec.ofNat 8 n) (BitVec.ofNat 8 (n / 256)) (BitVec.ofNat 8 (n / 65536)) (BitVec.ofNat 8 (n / 16777216)) = n := by
  unfold dec4
  simp only [BitVec.toNat_ofNat]
  omega
theorem four_of (l : List B8) (h : 4 ≤ l.length) : ∃ a b c d r, l = a :: b :: c :: d :: r := by
  match l, h with
  | a :: b :: c :: d :: r, _ => exact ⟨a, b, c, d, r, rfl⟩

def acc4 (pre : List B8) : Nat := (pre.foldl (fun a x => a * 256 + x.toNat) 0) % 4294967296
theorem acc4_snoc (pre : List B8) (x : B8) : acc4 (pre ++ [x]) = (acc4 pre * 256 + x.toNat) % 4294967296 := by
  unfold acc4
  rw [List.foldl_append]
  simp only [List.foldl_cons, List.foldl_nil]
  omega
theorem acc4_lt (pre : List B8) : acc4 pre < 4294967296 := Nat.mod_lt _ (by omega)
theorem acc4_rev (a b c d : B8) : acc4 [d, c, b, a] = dec4 a b c d := by
  have := dec4_lt a b c d
  unfold acc4 dec4 at *
  simp only [List.foldl_cons, List.foldl_nil]
  omega
theorem or_step4 (a : Nat) (x : B8) : bits .or .u32 (IntKind.u32.wrap ((a : Int) * 256)) (IntKind.u32.wrap (u x)) = (((a * 256 + x.toNat) % 4294967296 : Nat) : Int) := by
  have hx := x.isLt
  have hw : ∀ n : Int, IntKind.u32.wrap n = n % 4294967296 := fun n => by simp [IntKind.wrap, IntKind.bits, IntKind.signed]
  rw [hw, hw]
  have e2 : (a : Int) * 256 % 4294967296 = ((a * 256 % 4294967296 : Nat) : Int) := by omega
  have e3 : u x % 4294967296 = ((x.toNat : Nat) : Int) := by unfold u; omega
  rw [e2, e3, u32_or_nat _ _ (by omega) (by omega)]
  have := nat_join 8 (a * 256 % 4294967296) x.toNat (by omega) (by omega)
  rw [this]
  omega

theorem below_drewN (B : Nat) (w : World) (n : Nat) : Below B w (w.drewN n) := ⟨rfl, rfl, rfl, Nat.le_refl _, fun _ _ => rfl⟩
/-- TakeFixed, by an answer. -/
def TookF (n e : Int) (w : World) (en : Ending) (w' : World) : Prop := en = .returned (.tuple #[.int .u32 n, .int .i64 e]) ∧ Below w.heap.size w w'

set_option maxRecDepth 100000 in
theorem takeFixed_short {A : Option Addr} {len cap : Nat} {l : List B8} {w : World} (h : Row cb w A len cap l) (h4 : len < 4) :
    Calls Try.prog 43 #[.slice A len cap] w (TookF 0 20 w) := by
  have hb := h.big
  clear h
  go_enter Try.func43, Try.ntmps43
  go_wp2
  go_ret2
  exact ⟨rfl, Below.refl _ _⟩



attribute [local go_sem] Oper.semAt_some
set_option maxRecDepth 100000 in
set_option maxHeartbeats 2000000 in
theorem takeFixed_in (F : Fence) (n : Nat) (hw : F = Fence.wide) (hn : 3 ≤ n) {A : Option Addr} {len cap : Nat} {x y z v : B8} {r : List B8} {w : World} (h : Row cb w A len cap (x :: y :: z :: v :: r)) :
    CallsIn F n Try.prog 43 #[.slice A len cap] w (TookF (dec4 x y z v) 0 w) := by
  subst hw
  have h1 : 1 ≤ n := by omega
  refine callsIn_of_wp_marks Try.func43 rfl trivial ?_ rfl
  simp only [Try.ntmps43, List.size_toArray, List.length_cons, List.length_nil, Nat.reduceAdd, Nat.reduceSub, Array.replicate_succ, Array.replicate_zero, List.push_toArray, List.append_toArray, List.nil_append, List.cons_append]
  have hbig := h.big
  have hcap := h.cap
  have h4 : 4 ≤ len := by have := h.len; simp at this; omega
  obtain ⟨b, o, rfl, hblt, hcell⟩ := h.at_ (by omega)
  have HC := Lib.hid hcell
  clear hcell
  have hd : decide ((len : Int) < 4) = false := by simp; omega
  have hslice := run_head (some ⟨b, o, none⟩) len cap 4 (by omega)
  gi_wp2_with (refine ⟨trivial, ?_⟩; gi_at_call 53; refine (back_in Fence.wide (n - 1) trivial rfl _ _ _ _).mono ?_; rintro e w' ⟨rfl, rfl⟩)
  have bN := Boxed.new w 85 (.int .u32 0)
  have bS := Boxed.new (w.alloc (.cells #[.int .u32 0] 85)) 27 (.slice (some ⟨b, o, none⟩) 4 cap)
  rw [World.size_alloc] at bS
  have hB0 : Below w.heap.size w ((w.alloc (.cells #[.int .u32 0] 85)).alloc (.cells #[.slice (some ⟨b, o, none⟩) 4 cap] 27)) := ((Below.refl _ w).alloc (Nat.le_refl _) _).alloc (by simp) _
  clear hslice
  refine wpIn_rangeFunc_ownF rfl h1 (gf := 57) (lb := #[.pointer (some ⟨w.heap.size + 1, 0, none⟩)]) rfl trivial (enters_of Try.func57 (by kernel_rfl) rfl)
    (back_stops Fence.wide (n - 1) trivial rfl (by omega) (w.heap.size + 1) (w.heap.size + 2) w.heap.size (by omega) (by omega) b o 4 cap (by omega) (by omega) [x, y, z, v] rfl (by omega) _ (by simp) bS.cell
      (fun j q hx => by
        have hx2 : (x :: y :: z :: v :: r)[j]? = some q := by
          match j, hx with
          | 0, hx => simpa using hx
          | 1, hx => simpa using hx
          | 2, hx => simpa using hx
          | 3, hx => simpa using hx
        exact (hB0.cell (p := ⟨b, o + j, none⟩) hblt).trans (HC.out j q hx2)))
    (fun h k => h.trans k) (kept_b (by simp)) (Below.refl _ _) (fun _ => rfl)
    (fun pre W => (W.cell? ⟨w.heap.size, 0, none⟩ = some (.int .u32 (acc4 (pre.map (·.2)) : Int)) ∧ W.frozen? ⟨w.heap.size, 0, none⟩ = false) ∧ Below w.heap.size w W)
    (fun _ _ _ => False)
    (OwnFrom.and (Own.from (fun s A B row hs hg hr => ⟨cell_kept hs.1 hg hr, (frozen_kept hs.1 hg hr).trans hs.2⟩) _) (ownFrom_below (Nat.le_refl _) (by simp; omega)))
    (fun _ _ _ _ _ hs _ _ => hs)
    ⟨⟨(bN.alloc _).cell, (bN.alloc _).frozen⟩, hB0⟩
    (fun q => { tmps := #[.slice (some ⟨b, o, none⟩) len cap, undef, .int .u32 0, .int .i64 0, .pointer (some ⟨w.heap.size, 0, none⟩), undef, .int .u8 (u q.2), .slice (some ⟨b, o, none⟩) len cap, .int .i64 len, .bool false, .slice (some ⟨b, o, none⟩) len cap,
        .slice (some ⟨b, o, none⟩) 4 cap, .func (.func 57) #[] #[.pointer (some ⟨w.heap.size + 1, 0, none⟩)], .int .i64 (q.1 : Int), .int .u8 (u q.2), undef, undef, undef, undef, undef, undef], defers := [] }) ?assign ?body ?done ?stop
  case assign =>
    intro l x W K hK
    gi_wp2
    exact hK
  case body =>
    rintro l pre q W ⟨⟨hc, hf⟩, hB⟩ _
    have E := Lib.hid (or_step4 (acc4 (pre.map (·.2))) q.2)
    have hlt := acc4_lt (pre.map (·.2))
    have E2 : Hid (acc4 ((pre ++ [q]).map (·.2)) = (acc4 (pre.map (·.2)) * 256 + q.2.toNat) % 4294967296) := by show _ = _; rw [List.map_append]; exact acc4_snoc _ _
    generalize acc4 (pre.map (·.2)) = a at *
    gi_wp2
    exact ⟨KeepsOthers.setCell _ _ _, Kept.setCell _ _ _, ⟨by rw [E2.out, ← E.out]; exact World.cell?_setCell_same' _ _ _ (by rw [hc]; rfl), by rw [World.frozen?_setCell]; exact hf⟩, hB.setCell (p := ⟨w.heap.size, 0, none⟩) (Nat.le_refl _) _⟩
  case done =>
    rintro D ys W hD hys ⟨⟨hc, _⟩, hB⟩ hK
    rw [hys, show [x, y, z, v].reverse = [v, z, y, x] from rfl, acc4_rev] at hc
    gi_wp2
    refine ⟨by simp, .inl ⟨_, _, rfl, run_takeDeferred hK, ?_⟩⟩
    refine ⟨.tuple #[.int .u32 (dec4 x y z v : Int), .int .i64 0], by simp [results, Try.f43, go_sem], rfl, ?_⟩
    exact hB.trans (belowK_b (w := w) (Nat.le_refl _) W D _ _ (by simp at hD; omega) hK rfl rfl)
  case stop =>
    rintro D c pre W _ _ h _
    exact h.elim
theorem takeFixed_long {A : Option Addr} {len cap : Nat} {x y z v : B8} {r : List B8} {w : World} (h : Row cb w A len cap (x :: y :: z :: v :: r)) :
    Calls Try.prog 43 #[.slice A len cap] w (TookF (dec4 x y z v) 0 w) := (callsIn_wide (n := 3)).1 (takeFixed_in Fence.wide 3 rfl (Nat.le_refl _) h)
end Wire
end Go.Proofs.Ytedandbkdjmfhaa
