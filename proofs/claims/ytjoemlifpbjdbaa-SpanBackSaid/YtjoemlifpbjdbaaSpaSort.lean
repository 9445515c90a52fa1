/-
  WALKS OVER ints: slices.Clone, slices.ContainsFunc, slices.Sort of a row of one's own.
-/
import Derived.Test.YtjoemlifpbjdbaaSpaMem
import Derived.Test.YtjoemlifpbjdbaaSortLay
import Derived.Shelf.Slices.In.SortNone
import Derived.Sort.OwnSortedInts
import Derived.Shelf.Abstract
namespace Go.Proofs.Ytjoemlifpbjdbaa
open Go.RowKit Mem Go.Shelf Go.Sort
namespace Spa

def sorted (l : List Int) : List Int := l.mergeSort fun x y => decide (x ≤ y)
theorem sorted_perm (l : List Int) : (sorted l).Perm l := List.mergeSort_perm l _
theorem sorted_len (l : List Int) : (sorted l).length = l.length := (sorted_perm l).length_eq
theorem sorted_pair (l : List Int) : (sorted l).Pairwise (· ≤ ·) := by
  have := List.pairwise_mergeSort (le := fun x y : Int => decide (x ≤ y)) (by intro a b c h1 h2; simp only [decide_eq_true_eq] at *; omega) (by intro a b; simp only [Bool.or_eq_true, decide_eq_true_eq]; omega) l
  exact this.imp (by intro a b h; simpa using h)
theorem ci_one : ∀ x : Int, (ci x).oneCell' = true := fun _ => rfl

theorem sort_any {base : Nat} {w : World} {A : Option Addr} {n d : Nat} {l : List Int} (h : Owns ci 3 base w (.slice A n d) n l) (hb : base ≤ w.heap.size) (hn : n ≤ 1000000) :
    Calls Try.prog 29 #[.slice A n d] w fun e w' => e = .returned (.tuple #[]) ∧ Owns ci 3 base w' (.slice A n d) n (sorted l) ∧ Below base w w' := by
  have hl := h.len
  rcases Nat.eq_zero_or_pos n with h0 | h0
  · subst h0
    have : l = [] := List.eq_nil_of_length_eq_zero hl
    subst this
    have hs : sorted [] = [] := List.eq_nil_of_length_eq_zero (sorted_len [])
    exact (Any.slices_Sort_int_none laysSort A d w).mono (fun e w' ⟨h1, h2⟩ => by subst h2; rw [hs]; exact ⟨h1, h, Below.refl _ _⟩)
  · rcases h.2 with ⟨-, h1⟩ | ⟨g, cap, cur, hs, hbg, hg, hnc, hcm, hsz, ht⟩
    · omega
    · injection hs with e1 _ e3
      subst e1 e3
      have ht' : cur.toList.take l.length = l.map (Value.int .i64) := by rw [hl, ← Nat.mul_one n]; exact ht
      have hH := holds_of_blockI hg ht'
      have hlt : g < w.heap.size := (Array.getElem?_eq_some_iff.1 hg).1
      have hsort := Any.slices_Sort_int laysSort g 0 d l w hH hlt (by omega)
      rw [hl] at hsort
      refine Calls.mono (show Calls Try.prog 29 _ _ _ from hsort) (fun e w' ⟨h1, k, os, h2⟩ => ⟨h1, ?_, ?_⟩)
      · subst h2
        have := ownsRow_sortedI (n := k) (os := os) (ss := l) (ts := sorted l) (sorted_len l) hbg hg (by omega) hcm hsz
        rw [hl] at this
        exact this
      · subst h2
        exact (Below.refl base w).grown (grownBy_sortedI _) hb (fun q hq => by injection hq with hq; omega)

theorem run_eql_nilI (w : World) (A : Option Addr) (n c : Nat) : (binOp .eql 23 (.slice A n c) (.slice none 0 0)).run Try.prog w = .ok (.bool A.isNone) w :=
  Go.run_eql_slice_nil w _ _ A n c Try.underlying23
set_option maxRecDepth 100000 in
set_option maxHeartbeats 1600000 in
theorem cloneI_any {A : Option Addr} {n c : Nat} {l : List Int} {w : World} (h : Row ci w A n c l) (hn : n ≤ 1000000) :
    Calls Try.prog 28 #[.slice A n c] w fun e w' => (∃ B d, e = .returned (.slice B n d) ∧ Owns ci 3 w.heap.size w' (.slice B n d) n l) ∧ Below w.heap.size w w' := by
  have HR := Lib.hid h
  have hb := h.big
  clear h
  have hq := fun w => run_eql_nilI w A n c
  rcases A with _ | a
  · have hn : n = 0 := by
      rcases Nat.eq_zero_or_pos n with h0 | h0
      · exact h0
      · obtain ⟨b, o, e, -⟩ := HR.out.at_ h0
        cases e
    have hl : l = [] := List.eq_nil_of_length_eq_zero (by rw [HR.out.len, hn])
    subst hn hl
    have hd : (none : Option Addr).isNone = true := rfl
    rw [hd] at hq
    go_enter Try.func28, Try.ntmps28
    go_wp2
    go_ret
    exact ⟨⟨_, _, rfl, Owns.nil _ _ _ _⟩, Below.refl _ _⟩
  · have hd : (some a).isNone = false := rfl
    rw [hd] at hq
    have hmade : Hid (Owns ci 3 w.heap.size (w.alloc (.cells #[] 3)) (.slice (some ⟨w.heap.size, 0, none⟩) 0 0) 0 []) := World.ownsRow_made w #[] 0 (Nat.le_refl _) (Nat.zero_le _) (by simp)
    go_enter Try.func28, Try.ntmps28
    go_wp2_with (at_builtin
                 refine wpList_append_row ci_one Try.underlying23 info_int rfl rfl (.tmp 5) (.tmp 6) rfl rfl w.heap.size _ 0 [] rfl hmade.out (some a) n c l rfl (Row.alloc HR.out _) (by omega) (by omega) (by simp) ?_
                 intro A' c' w' hown' hb'
                 have O := Lib.hid (show Owns ci 3 w.heap.size w' (.slice A' n c') n l by simpa using hown')
                 have B := Lib.hid hb'
                 clear hown' hb')
    go_ret
    exact ⟨⟨_, _, rfl, O.out⟩, ((Below.refl _ w).alloc (Nat.le_refl _) _).trans B.out⟩

set_option maxRecDepth 100000 in
set_option maxHeartbeats 1600000 in
theorem indexI_any {A : Option Addr} {n c : Nat} {l : List Int} {w : World} (h : Row ci w A n c l) (g : Nat) (lb : Array Value) (eg : ∀ args w, (callFunc g args).run Try.prog w = .ok (.enter g args) w) (p : Int → Bool)
    (hp : ∀ (W : World) (x : Int), Below w.heap.size w W → Calls Try.prog g (#[.int .i64 x] ++ lb) W fun e w' => e = .returned (.bool (p x)) ∧ Below W.heap.size W w') :
    Calls Try.prog 45 #[.slice A n c, .func (.func g) #[] lb] w fun e w' => (∃ r : Int, e = .returned (.int .i64 r) ∧ decide (0 ≤ r) = l.any p) ∧ Below w.heap.size w w' := by
  have HR := Lib.hid h
  have hbig := h.big
  have hlen := Lib.hid h.len
  have HP := Lib.hid hp
  clear h hp
  go_enter Try.func45, Try.ntmps45
  go_wp2
  go_loopw [5, 8] (fun _ i wr => ∃ k : Nat, i = .int .i64 k ∧ k ≤ n ∧ Hid (Below w.heap.size w wr ∧ ∀ j x, j < k → l[j]? = some x → p x = false)) (fun _ i _ => n - (intOf i).toNat)
  case atStart => exact ⟨0, rfl, by omega, Below.refl _ _, fun j x hj => by omega⟩
  case round =>
    obtain ⟨k, rfl, hk, hH⟩ := hrel
    by_cases hlt : k < n
    · obtain ⟨y, hy⟩ := HR.out.get hlt
      obtain ⟨b, o, hA, c0⟩ := (HR.out.below hH.out.1).cell hy
      subst hA
      have c0' : wr.cell? ⟨b, o + k, none⟩ = some (.int .i64 y) := c0
      clear c0
      have hk0 : (0 : Int) ≤ (k : Int) := by omega
      have hkn : (k : Int) < (n : Int) := by omega
      have HC := fun W (hW : Below w.heap.size w W) => HP.out W y hW
      have HY := Lib.hid hy
      clear hy
      cases e : p y
      · rw [e] at HC
        have HE := Lib.hid e
        clear e
        go_wp2_with (go_at_fn g; refine (HC _ hH.out.1).mono ?_; rintro e w2 ⟨rfl, hb⟩; have L2 := Lib.hid (hH.out.1.trans (hb.mono hH.out.1.size)); clear hb)
        go_roundw
        case rel =>
          refine ⟨k + 1, by go_num, by omega, L2.out, fun j x hj hx => ?_⟩
          by_cases h1 : j = k
          · subst h1
            have := HY.out.symm.trans hx
            injection this with this; subst this; exact HE.out
          · exact hH.out.2 j x (by omega) hx
        case measure => simp [intOf]; omega
      · rw [e] at HC
        have HE := Lib.hid e
        clear e
        go_wp2_with (go_at_fn g; refine (HC _ hH.out.1).mono ?_; rintro e w2 ⟨rfl, hb⟩; have L2 := Lib.hid (hH.out.1.trans (hb.mono hH.out.1.size)); clear hb)
        go_ret
        refine ⟨⟨_, rfl, ?_⟩, L2.out⟩
        have : l.any p = true := List.any_eq_true.2 ⟨y, List.mem_of_getElem? HY.out, HE.out⟩
        rw [this]
        exact decide_eq_true (by omega)
    · go_wp2_with fail
      go_ret
      refine ⟨⟨_, rfl, ?_⟩, hH.out.1⟩
      have : l.any p = false := by
        rw [List.any_eq_false]
        intro x hx
        obtain ⟨i, hi⟩ := List.mem_iff_getElem?.1 hx
        rw [hH.out.2 i x (by have := (List.getElem?_eq_some_iff.1 hi).1; have := hlen.out; omega) hi]; simp
      rw [this]
      rfl
set_option maxRecDepth 100000 in
set_option maxHeartbeats 800000 in
theorem containsI_any {A : Option Addr} {n c : Nat} {l : List Int} {w : World} (h : Row ci w A n c l) (g : Nat) (lb : Array Value) (eg : ∀ args w, (callFunc g args).run Try.prog w = .ok (.enter g args) w) (p : Int → Bool)
    (hp : ∀ (W : World) (x : Int), Below w.heap.size w W → Calls Try.prog g (#[.int .i64 x] ++ lb) W fun e w' => e = .returned (.bool (p x)) ∧ Below W.heap.size W w') :
    Calls Try.prog 25 #[.slice A n c, .func (.func g) #[] lb] w fun e w' => e = .returned (.bool (l.any p)) ∧ Below w.heap.size w w' := by
  have HI := Lib.hid (indexI_any h g lb eg p hp)
  clear h hp eg
  go_enter Try.func25, Try.ntmps25
  go_wp2_with fail
  refine HI.out.mono ?_
  rintro e w2 ⟨⟨r, rfl, hr⟩, hb⟩
  have HRR := Lib.hid hr
  have HB := Lib.hid hb
  clear hr hb
  go_wp2_with fail
  go_ret
  exact ⟨by rw [← HRR.out]; rfl, HB.out⟩
theorem run_tailI (A : Option Addr) (n c : Nat) (hk : 1 ≤ n) (w : World) : (Instr.slice 23 (.slice A n c) (some (.int .i64 1)) none none).run Try.prog w = .ok (.slice (tailA A c 1) (n - 1) (c - 1)) w := by
  obtain ⟨i, hi, hz0, hz1, hz2⟩ := info_parts info_int
  have h1 : (1 : Int) ≤ (n : Int) := by omega
  simp [Instr.slice, Instr.sliceBounds, run_sliceBound, h1, run_underlying Try.underlying23, sizeOf, typeInfo, hi, hz1, Mem.tailA]
end Spa
end Go.Proofs.Ytjoemlifpbjdbaa
