/-
  THE CHAPTER'S EXAMPLES, as the statements ask them first: 'live' is true.
-/
import Derived.Test.YtbojfiabgjaaaaaCrcApi
import Derived.Lib.SlBytesConst
namespace Go.Proofs.Ytbojfiabgjaaaaa
open Go.RowKit
namespace Crc
/-- One piece in a new block behind all. -/
theorem pieces_one {w : World} {g : Nat} {a : Option Addr} {n c : Nat} {l : List (BitVec 8)} (t : TypeId) (h : Bytes w g a n l) (hg : g ≠ w.heap.size) :
    Pieces (w.alloc (.cells #[.slice a n c] t)) g (some ⟨w.heap.size, 0, none⟩) 1 [l] := by
  refine ⟨rfl, by omega, fun _ => ⟨w.heap.size, 0, rfl, Ne.symm hg, fun i l' hl => ?_⟩⟩
  match i, hl with
  | 0, hl =>
    simp at hl
    subst hl
    exact ⟨a, n, c, by simp, h.keep ((Keep.refl g w).alloc _)⟩
theorem pieces_two {w : World} {g : Nat} {a b : Option Addr} {n c m d : Nat} {l k : List (BitVec 8)} (t : TypeId) (h : Bytes w g a n l) (h' : Bytes w g b m k) (hg : g ≠ w.heap.size) :
    Pieces (w.alloc (.cells #[.slice a n c, .slice b m d] t)) g (some ⟨w.heap.size, 0, none⟩) 2 [l, k] := by
  refine ⟨rfl, by omega, fun _ => ⟨w.heap.size, 0, rfl, Ne.symm hg, fun i l' hl => ?_⟩⟩
  match i, hl with
  | 0, hl =>
    simp at hl
    subst hl
    exact ⟨a, n, c, by simp, h.keep ((Keep.refl g w).alloc _)⟩
  | 1, hl =>
    simp at hl
    subst hl
    exact ⟨b, m, d, by simp, h'.keep ((Keep.refl g w).alloc _)⟩
theorem pieces_none (w : World) (g : Nat) : Pieces w g none 0 [] := ⟨rfl, by omega, fun h => absurd h (by omega)⟩

def digits : List (BitVec 8) := [49#8, 50#8, 51#8, 52#8, 53#8, 54#8, 55#8, 56#8, 57#8]
theorem digits_sum : sums [digits] = 0xe3069283#32 := by decide +kernel
theorem nought_sum : sums [[0#8]] = 0x527d5351#32 := by decide +kernel
theorem none_sum : sums [] = 0#32 := by decide +kernel
/-- Bytes that a new block holds. -/
theorem bytes_new {w : World} {g : Nat} (t : TypeId) (z : Nat × Nat) (l : List (BitVec 8)) (hn : l.length ≤ 140737488351232) (hg : g < w.heap.size) :
    Bytes (w.alloc (.cells (l.map fun x => Value.int .u8 (u x)).toArray t z)) g (some ⟨w.heap.size, 0, none⟩) l.length l := by
  refine ⟨rfl, hn, fun _ => ⟨⟨w.heap.size, 0, none⟩, rfl, by show _ ≠ _; simp; omega, fun i b hb => ?_⟩⟩
  rw [add_none, cell_of_row _ w.heap.size (0 + i) _ t z (heap_alloc_new w _)]
  simp [hb]
theorem bytes_digits {w : World} {g : Nat} (t : TypeId) (z : Nat × Nat) (hg : g < w.heap.size) : Bytes (w.alloc (.cells #[.int .u8 49, .int .u8 50, .int .u8 51, .int .u8 52, .int .u8 53, .int .u8 54, .int .u8 55, .int .u8 56, .int .u8 57] t z)) g (some ⟨w.heap.size, 0, none⟩) 9 digits :=
  bytes_new t z digits (by decide) hg
theorem bytes_nought {w : World} {g : Nat} (t : TypeId) (z : Nat × Nat) (hg : g < w.heap.size) : Bytes (w.alloc (.cells #[.int .u8 0] t z)) g (some ⟨w.heap.size, 0, none⟩) 1 [0#8] :=
  bytes_new t z [0#8] (by decide) hg

/-- A table stays behind a new block. -/
theorem Tab.alloc {w : World} {g : Nat} {n : Int} {made : Bool} (h : Tab w g n made) (o : Obj) : Tab (w.alloc o) g n made := by
  obtain ⟨cs, hb, r⟩ := h
  exact ⟨cs, (Below.heap_alloc w o g (Blk.lt (cs := cs) hb)).trans hb, r⟩
theorem Tab.lt {w : World} {g : Nat} {n : Int} {made : Bool} (h : Tab w g n made) : g < w.heap.size := by
  obtain ⟨cs, hb, r⟩ := h
  exact Blk.lt (cs := cs) hb

/-- Sum of one piece, as the text calls it: the piece lies in a new block. -/
theorem sum_one {w : World} {g : Nat} {q : Int} {made : Bool} (ht : Tab w g q made) (h0 : 0 ≤ q) (h1 : q ≤ 4611686018427387904) {a : Option Addr} {n c : Nat} {l : List (BitVec 8)} (h : Bytes w g a n l) {b : Nat} (hb : b = w.heap.size) :
    Calls Try.prog 11 #[.pointer (some ⟨g, 0, none⟩), .slice (some ⟨b, 0, none⟩) 1 1] (w.alloc (.cells #[.slice a n c] 24)) fun e w' => e = .returned (.int .u32 (v (goes 0#32 l))) ∧ Made g (q + 1) w w' := by
  subst hb
  refine (sum_any g q made _ 1 1 [l] _ (ht.alloc _) h0 h1 (pieces_one _ h (Nat.ne_of_lt ht.lt))).mono ?_
  rintro e w' ⟨he, hT, hK⟩
  exact ⟨he, hT, ((Keep.refl g w).alloc _).trans hK⟩
theorem sum_two {w : World} {g : Nat} {q : Int} {made : Bool} (ht : Tab w g q made) (h0 : 0 ≤ q) (h1 : q ≤ 4611686018427387904) {a a' : Option Addr} {n c n' c' : Nat} {l l' : List (BitVec 8)} (h : Bytes w g a n l) (h' : Bytes w g a' n' l') {b : Nat} (hb : b = w.heap.size) :
    Calls Try.prog 11 #[.pointer (some ⟨g, 0, none⟩), .slice (some ⟨b, 0, none⟩) 2 2] (w.alloc (.cells #[.slice a n c, .slice a' n' c'] 24)) fun e w' => e = .returned (.int .u32 (v (goes 0#32 (l ++ l')))) ∧ Made g (q + 1) w w' := by
  subst hb
  refine (sum_any g q made _ 2 2 [l, l'] _ (ht.alloc _) h0 h1 (pieces_two _ h h' (Nat.ne_of_lt ht.lt))).mono ?_
  rintro e w' ⟨he, hT, hK⟩
  refine ⟨?_, hT, ((Keep.refl g w).alloc _).trans hK⟩
  rw [he, ← goes_append]; rfl
theorem sum_none {w : World} {g : Nat} {q : Int} {made : Bool} (ht : Tab w g q made) (h0 : 0 ≤ q) (h1 : q ≤ 4611686018427387904) :
    Calls Try.prog 11 #[.pointer (some ⟨g, 0, none⟩), .slice none 0 0] w fun e w' => e = .returned (.int .u32 (v 0#32)) ∧ Made g (q + 1) w w' :=
  sum_any g q made _ 0 0 [] _ ht h0 h1 (pieces_none w g)
theorem Made.tab {g : Nat} {n : Int} {w w' : World} (h : Made g n w w') : Tab w' g n true := h.1
theorem Made.keep {g : Nat} {n : Int} {w w' : World} (h : Made g n w w') : Keep g w w' := h.2
theorem Made.step {g : Nat} {n : Int} {a b w : World} (h : Keep g a b) (k : Made g n b w) : Made g n a w := ⟨k.1, h.trans k.2⟩

set_option maxRecDepth 100000 in
set_option maxHeartbeats 1600000 in
theorem live_any (w : World) :
    Calls Try.prog 8 #[] w fun e w' => e = .returned (.bool true) ∧ Below w.heap.size w w' := by
  have hcv := fun (w : World) (C : Array Value) (n c : Nat) => Lib.run_convert_bytes_const (P := Try.prog) w 24 5 C n c Try.underlying24 Try.underlying5
  have V1 : v (goes 0#32 digits) = 3808858755 := by rw [show goes 0#32 digits = 0xe3069283#32 by decide +kernel]; decide
  have V2 : v (goes 0#32 [0#8]) = 1383945041 := by rw [show goes 0#32 [0#8] = 0x527d5351#32 by decide +kernel]; decide
  have V3 : v 0#32 = 0 := v_zero
  go_enter Try.func8, Try.ntmps8
  go_wp2_with (go_at_call 10; refine (new_any _).mono ?_; rintro e w1 ⟨rfl, hM⟩; have HM := Lib.hid hM; clear hM)
  have hg := Lib.hid HM.out.1.lt
  go_wp2_with (go_at_call 11; ((with_reducible refine (sum_one (HM.out.1.alloc _) (by omega) (by omega) (bytes_digits _ _ hg.out) (by simp)).mono ?_); rintro e w2 ⟨rfl, hM2⟩; have HM2 := Lib.hid (hM2.step (HM.out.2.alloc _)); clear hM2))
  have hg2 := Lib.hid HM2.out.tab.lt
  go_wp2_with (first
    | (go_at_call 11; ((with_reducible (refine (sum_one (HM2.out.tab.alloc _) (by omega) (by omega) (bytes_nought _ _ hg2.out) (by simp)).mono ?_)); rintro e w3 ⟨rfl, hM3⟩; have HM3 := Lib.hid (hM3.step (HM2.out.keep.alloc _)); clear hM3))
    | (go_at_call 11; ((with_reducible (refine (sum_none HM3.out.tab (by omega) (by omega)).mono ?_)); rintro e w4 ⟨rfl, hM4⟩; have HM4 := Lib.hid (hM4.step HM3.out.keep); clear hM4))
    | (go_at_call 16; ((with_reducible refine (used_any _ _ _ _ HM4.out.tab).mono ?_); rintro e w5 ⟨rfl, rfl⟩)))
  go_ret
  exact ⟨rfl, HM4.out.keep.low (Nat.le_refl _) (Nat.le_refl _)⟩
end Crc
end Go.Proofs.Ytbojfiabgjaaaaa
