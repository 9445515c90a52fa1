/-
  A TABLE THROUGH A LAW'S CALLS: 'St a g q made w': since the world a the table at block g was asked until it counts q; all blocks of a but g are as they were. Each call as the laws make it, from such a state to the next.
-/
import Derived.Test.YtbojfiabgjaaaaaCrcArgs
namespace Go.Proofs.Ytbojfiabgjaaaaa
open Go.ChangeShapes Go.WideShapes Go.ChangeAt Go.RowKit
namespace Crc

structure St (a : World) (g : Nat) (q : Int) (made : Bool) (w : World) : Prop where
  tab : Tab w g q made
  keep : Keep g a w
theorem St.alloc {a w : World} {g : Nat} {q : Int} {made : Bool} (h : St a g q made w) (o : Obj) : St a g q made (w.alloc o) := ⟨h.tab.alloc o, h.keep.alloc o⟩
theorem St.drew {a w : World} {g : Nat} {q : Int} {made : Bool} (h : St a g q made w) : St a g q made w.drew := ⟨⟨h.tab.blk⟩, h.keep.drew⟩
theorem St.of_made {a w w' : World} {g : Nat} {q q' : Int} {made : Bool} (h : St a g q made w) (k : Made g q' w w') : St a g q' true w' := ⟨k.tab, h.keep.trans k.keep⟩
theorem St.low {a w : World} {g : Nat} {q : Int} {made : Bool} (h : St a g q made w) {B : Nat} {b : World} (hb : Below B b a) (hB : B ≤ g) (hs : B ≤ a.heap.size) : Below B b w := hb.trans (h.keep.low hB hs)
theorem LowBytes.at_ {w : World} {B : Nat} {A : Option Addr} {n : Nat} {l : List (BitVec 8)} (h : LowBytes w B A n l) {g : Nat} (hg : B ≤ g) : Bytes w g A n l := h g hg
theorem LowPieces.at_ {w : World} {B : Nat} {A : Option Addr} {n : Nat} {ls : List (List (BitVec 8))} (h : LowPieces w B A n ls) {g : Nat} (hg : B ≤ g) : Pieces w g A n ls := h g hg

section
variable {a w : World} {g : Nat} {q : Int} {made : Bool}
theorem st_new {w : World} {g : Nat} (hg : g = w.heap.size) : Calls Try.prog 10 #[] w fun e w' => e = .returned (.pointer (some ⟨g, 0, none⟩)) ∧ St w g 0 false w' := by
  subst hg
  exact (new_any w).mono fun _ _ ⟨he, h1, h2⟩ => ⟨he, h1, h2⟩
theorem St.again (h : St a g q made w) : St w g q made w := ⟨h.tab, Keep.refl g w⟩
theorem st_sum (h : St a g q made w) (h0 : 0 ≤ q) (h1 : q ≤ 4611686018427387904) {A : Option Addr} {n cap : Nat} {ls : List (List (BitVec 8))} (hp : Pieces a g A n ls) :
    Calls Try.prog 11 #[.pointer (some ⟨g, 0, none⟩), .slice A n cap] w fun e w' => e = .returned (.int .u32 (v (sums ls))) ∧ St a g (q + 1) true w' :=
  (sum_any g q made A n cap ls w h.tab h0 h1 (hp.keep h.keep)).mono fun _ _ ⟨he, hm⟩ => ⟨he, h.of_made hm⟩
theorem st_sum_one (h : St a g q made w) (h0 : 0 ≤ q) (h1 : q ≤ 4611686018427387904) {A : Option Addr} {n c : Nat} {l : List (BitVec 8)} (hp : Bytes a g A n l) {b : Nat} (hb : b = w.heap.size) :
    Calls Try.prog 11 #[.pointer (some ⟨g, 0, none⟩), .slice (some ⟨b, 0, none⟩) 1 1] (w.alloc (.cells #[.slice A n c] 24)) fun e w' => e = .returned (.int .u32 (v (goes 0#32 l))) ∧ St a g (q + 1) true w' :=
  (sum_one h.tab h0 h1 (hp.keep h.keep) hb).mono fun _ _ ⟨he, hm⟩ => ⟨he, h.of_made hm⟩
theorem st_sum_two (h : St a g q made w) (h0 : 0 ≤ q) (h1 : q ≤ 4611686018427387904) {A A' : Option Addr} {n c n' c' : Nat} {l l' : List (BitVec 8)} (hp : Bytes a g A n l) (hp' : Bytes a g A' n' l') {b : Nat} (hb : b = w.heap.size) :
    Calls Try.prog 11 #[.pointer (some ⟨g, 0, none⟩), .slice (some ⟨b, 0, none⟩) 2 2] (w.alloc (.cells #[.slice A n c, .slice A' n' c'] 24)) fun e w' => e = .returned (.int .u32 (v (goes 0#32 (l ++ l')))) ∧ St a g (q + 1) true w' :=
  (sum_two h.tab h0 h1 (hp.keep h.keep) (hp'.keep h.keep) hb).mono fun _ _ ⟨he, hm⟩ => ⟨he, h.of_made hm⟩
theorem st_update (h : St a g q made w) (h0 : 0 ≤ q) (h1 : q ≤ 4611686018427387904) {c : BitVec 32} {A : Option Addr} {n cap : Nat} {l : List (BitVec 8)} (hp : Bytes a g A n l) :
    Calls Try.prog 13 #[.pointer (some ⟨g, 0, none⟩), .int .u32 (v c), .slice A n cap] w fun e w' => e = .returned (.int .u32 (v (goes c l))) ∧ St a g (q + 1) true w' :=
  (update_any g q made c A n cap l w h.tab h0 h1 (hp.keep h.keep)).mono fun _ _ ⟨he, hm⟩ => ⟨he, h.of_made hm⟩
theorem st_update_none (h : St a g q made w) (h0 : 0 ≤ q) (h1 : q ≤ 4611686018427387904) {c : BitVec 32} :
    Calls Try.prog 13 #[.pointer (some ⟨g, 0, none⟩), .int .u32 (v c), .slice none 0 0] w fun e w' => e = .returned (.int .u32 (v c)) ∧ St a g (q + 1) true w' :=
  (update_any g q made c none 0 0 [] w h.tab h0 h1 (Bytes.none_ w g)).mono fun _ _ ⟨he, hm⟩ => ⟨by rw [he, goes_nil], h.of_made hm⟩
theorem st_join (h : St a g q made w) (h0 : 0 ≤ q) (h1 : q ≤ 4611686018427387904) {x y : BitVec 32} {n : Nat} (hn : n < 9223372036854775808) :
    Calls Try.prog 15 #[.pointer (some ⟨g, 0, none⟩), .int .u32 (v x), .int .u32 (v y), .int .i64 n] w fun e w' => e = .returned (.int .u32 (v (shn (8 * n) x ^^^ y))) ∧ St a g (q + 1) true w' :=
  (join_any g q made x y n hn w h.tab h0 h1).mono fun _ _ ⟨he, hm⟩ => ⟨he, h.of_made hm⟩
theorem st_used (h : St a g q made w) : Calls Try.prog 16 #[.pointer (some ⟨g, 0, none⟩)] w fun e w' => e = .returned (.int .i64 q) ∧ w = w' := used_any g q made w h.tab
theorem st_refSum (h : St a g q made w) {A : Option Addr} {n cap : Nat} {ls : List (List (BitVec 8))} (hp : Pieces a g A n ls) :
    Calls Try.prog 12 #[.slice A n cap] w fun e w' => e = .returned (.int .u32 (v (sums ls))) ∧ w = w' := refSum_any g A n cap ls w (hp.keep h.keep)
theorem st_refSum_one (h : St a g q made w) {A : Option Addr} {n c : Nat} {l : List (BitVec 8)} (hp : Bytes a g A n l) {b : Nat} (hb : b = w.heap.size) :
    Calls Try.prog 12 #[.slice (some ⟨b, 0, none⟩) 1 1] (w.alloc (.cells #[.slice A n c] 24)) fun e w' => e = .returned (.int .u32 (v (goes 0#32 l))) ∧ w.alloc (.cells #[.slice A n c] 24) = w' := by
  subst hb
  exact refSum_any g _ 1 1 [l] _ (pieces_one _ (hp.keep h.keep) (Nat.ne_of_lt h.tab.lt))
theorem st_refUpdate (h : St a g q made w) {c : BitVec 32} {A : Option Addr} {n cap : Nat} {l : List (BitVec 8)} (hp : Bytes a g A n l) :
    Calls Try.prog 14 #[.int .u32 (v c), .slice A n cap] w fun e w' => e = .returned (.int .u32 (v (goes c l))) ∧ w = w' := refUpdate_any g c A n cap l w (hp.keep h.keep)
end

/-- The statements' own test, of one piece and of two in a new block. -/
theorem big_one {w : World} {g : Nat} {a : Option Addr} {n c : Nat} {l : List (BitVec 8)} (h : Bytes w g a n l) (hg : g ≠ w.heap.size) {b : Nat} (hb : b = w.heap.size) :
    Calls Try.prog 9 #[.slice (some ⟨b, 0, none⟩) 1 1] (w.alloc (.cells #[.slice a n c] 24)) fun e w' => e = .returned (.bool (decide (20000 ≤ n))) ∧ w.alloc (.cells #[.slice a n c] 24) = w' := by
  subst hb
  refine (big_any g _ 1 1 [l] _ (pieces_one _ h hg)).mono ?_
  rintro e w' ⟨rfl, rfl⟩
  refine ⟨ret_bool ?_, rfl⟩
  have h1 := h.1
  have h2 := h.2.1
  have e : bulk [l] = (n : Int) + 1 := by
    unfold bulk
    rw [List.foldl_cons, List.foldl_nil, h1]
    unfold wrap64
    omega
  rw [e]
  by_cases h : 20000 ≤ n
  · rw [decide_eq_true h, decide_eq_true (by omega)]
  · rw [decide_eq_false h, decide_eq_false (by omega)]
theorem big_two {w : World} {g : Nat} {a a' : Option Addr} {n c n' c' : Nat} {l l' : List (BitVec 8)} (h : Bytes w g a n l) (h' : Bytes w g a' n' l') (hg : g ≠ w.heap.size) {b : Nat} (hb : b = w.heap.size) :
    Calls Try.prog 9 #[.slice (some ⟨b, 0, none⟩) 2 2] (w.alloc (.cells #[.slice a n c, .slice a' n' c'] 24)) fun e w' => e = .returned (.bool (decide (19999 ≤ n + n'))) ∧ w.alloc (.cells #[.slice a n c, .slice a' n' c'] 24) = w' := by
  subst hb
  refine (big_any g _ 2 2 [l, l'] _ (pieces_two _ h h' hg)).mono ?_
  rintro e w' ⟨rfl, rfl⟩
  refine ⟨ret_bool ?_, rfl⟩
  have h1 := h.1
  have h2 := h.2.1
  have h1' := h'.1
  have h2' := h'.2.1
  have e : bulk [l, l'] = (n : Int) + n' + 2 := by
    unfold bulk
    rw [List.foldl_cons, List.foldl_cons, List.foldl_nil, h1, h1']
    unfold wrap64
    omega
  rw [e]
  by_cases h : 19999 ≤ n + n'
  · rw [decide_eq_true h, decide_eq_true (by omega)]
  · rw [decide_eq_false h, decide_eq_false (by omega)]
end Crc
end Go.Proofs.Ytbojfiabgjaaaaa
