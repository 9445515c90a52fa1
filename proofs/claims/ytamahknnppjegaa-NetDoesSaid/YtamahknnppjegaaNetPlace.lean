/-
  WALKS: net.New, net.has, net.hasRoom, net.places with its closures, net.all, net.others, net.To.
-/
import Derived.Test.YtamahknnppjegaaNetClone
import Derived.BigQuiet
namespace Go.Proofs.Ytamahknnppjegaa
open Go.RowKit Mem Box
namespace Net
open Wire (B8 info_int asInts asInts_append)

set_option maxRecDepth 100000 in
set_option maxHeartbeats 800000 in
theorem hasRoom_any (cap : Nat) (Q : Option Addr) (n c : Nat) (w : World) : Calls Try.prog 35 #[nv cap Q n c] w fun e w' => e = .returned (.bool (decide (n < cap))) ∧ Below w.heap.size w w' := by
  have A1 : Hid (Below w.heap.size w (w.alloc (.cells #[.int .i64 (cap : Int), .slice Q n c] 28))) := (Below.refl _ w).alloc (Nat.le_refl _) _
  unfold nv
  go_enter Try.func35, Try.ntmps35
  go_wp2_with fail
  go_ret
  exact ⟨by simp, A1.out⟩
/-- Is there an i-th of n? -/
def hasB (n : Nat) (i : Int) : Bool := decide (0 ≤ i) && decide (i < (n : Int))
set_option maxRecDepth 100000 in
set_option maxHeartbeats 800000 in
theorem has_any (cap : Nat) (Q : Option Addr) (n c : Nat) (i : Int) (w : World) : Calls Try.prog 53 #[nv cap Q n c, .int .i64 i] w fun e w' => e = .returned (.bool (hasB n i)) ∧ Below w.heap.size w w' := by
  have A1 : Hid (Below w.heap.size w (w.alloc (.cells #[.int .i64 (cap : Int), .slice Q n c] 28))) := (Below.refl _ w).alloc (Nat.le_refl _) _
  unfold nv hasB
  rcases e1 : decide (0 ≤ i)
  · go_enter Try.func53, Try.ntmps53
    go_wp2_with fail
    go_ret
    exact ⟨by rfl, A1.out⟩
  · go_enter Try.func53, Try.ntmps53
    go_wp2_with fail
    go_ret
    exact ⟨by rfl, A1.out⟩
/-- May a net be of so many? -/
def newB (most : Int) : Bool := decide (most < 1) || decide ((4096 : Int) < most)
set_option maxRecDepth 100000 in
set_option maxHeartbeats 1600000 in
theorem new_any (most : Int) (w : World) : Calls Try.prog 11 #[.int .i64 most] w fun e w' => e = .returned (.tuple #[.agg #[.int .i64 (bif newB most then 0 else most), .slice none 0 0], .int .i64 (bif newB most then 1 else 0)]) ∧ Below w.heap.size w w' := by
  unfold newB
  rcases e1 : decide (most < 1)
  · rcases e2 : decide ((4096 : Int) < most)
    · go_enter Try.func11, Try.ntmps11
      go_wp2_with fail
      refine bodyPost_ret_by (results_c1 rfl _ _ w.heap.size _ _ _ _ rfl (Cells.new _ _ _) Try.underlying28 rfl (by kernel_rfl)) rfl ?_
      exact ⟨rfl, (Below.refl _ _).alloc (Nat.le_refl _) _⟩
    · go_enter Try.func11, Try.ntmps11
      go_wp2_with fail
      refine bodyPost_ret_by (results_c1 rfl _ _ w.heap.size _ _ _ _ rfl (Cells.new _ _ _) Try.underlying28 rfl (by kernel_rfl)) rfl ?_
      exact ⟨rfl, (Below.refl _ _).alloc (Nat.le_refl _) _⟩
  · go_enter Try.func11, Try.ntmps11
    go_wp2_with fail
    refine bodyPost_ret_by (results_c1 rfl _ _ w.heap.size _ _ _ _ rfl (Cells.new _ _ _) Try.underlying28 rfl (by kernel_rfl)) rfl ?_
    exact ⟨rfl, (Below.refl _ _).alloc (Nat.le_refl _) _⟩

/-! ### Places -/
/-- Which of n places are as they should be. -/
def placesP (n : Nat) (p : Nat → Bool) : List Nat := (List.range n).filter p
theorem places_snoc (n : Nat) (p : Nat → Bool) : placesP (n + 1) p = placesP n p ++ (bif p n then [n] else []) := by
  unfold placesP
  rw [List.range_succ, List.filter_append]
  congr 1
theorem places_lt {n : Nat} {p : Nat → Bool} {i : Nat} (h : i ∈ placesP n p) : i < n := by
  have := (List.mem_filter.1 h).1
  simpa using this
theorem places_len (n : Nat) (p : Nat → Bool) : (placesP n p).length ≤ n := by
  have := List.length_filter_le p (List.range n)
  rwa [List.length_range] at this
/-- A question of places: it answers p, and leaves what lay there. -/
def PredI (n g : Nat) (lb : Array Value) (p : Nat → Bool) (w : World) : Prop :=
  ∀ (W : World) (i : Nat), i < n → Below w.heap.size w W → Calls Try.prog g (#[.int .i64 (i : Int)] ++ lb) W fun e w' => e = .returned (.bool (p i)) ∧ Below W.heap.size W w'
theorem rowI_one (w : World) (x : Int) : Row ci (w.alloc (.cells #[.int .i64 x] 3)) (some ⟨w.heap.size, 0, none⟩) 1 1 [x] := Wire.row_one ci w x _ _ rfl

set_option maxRecDepth 100000 in
set_option maxHeartbeats 3200000 in
theorem places_any {w : World} (cap : Nat) (Q : Option Addr) {n : Nat} (c : Nat) (hn : n ≤ 1000000) (g : Nat) (lb : Array Value) (eg : ∀ args w, (callFunc g args).run Try.prog w = .ok (.enter g args) w) (p : Nat → Bool) (hp : PredI n g lb p w) :
    Calls Try.prog 44 #[nv cap Q n c, .func (.func g) #[] lb] w fun en w' => (∃ X k d, en = .returned (.slice X k d) ∧ Owns ci 3 w.heap.size w' (.slice X k d) k (asInts (placesP n p))) ∧ Below w.heap.size w w' := by
  have HP : Hid (PredI n g lb p w) := hp
  have L1 := Lib.hid ((Below.refl w.heap.size w).alloc (Nat.le_refl _) (.cells #[.int .i64 (cap : Int), .slice Q n c] 28))
  have B1 : Hid (NBox (w.alloc (.cells #[.int .i64 (cap : Int), .slice Q n c] 28)) w.heap.size cap Q n c) := Cells.new _ _ _
  unfold nv
  clear hp
  go_enter Try.func44, Try.ntmps44
  go_upto_region 1 with fail
  generalize w.alloc (.cells #[.int .i64 (cap : Int), .slice Q n c] 28) = w1 at *
  obtain ⟨m0, m1⟩ := NBox.cells B1.out
  go_wp2_with fail
  clear m0 m1
  go_loopw [5, 6, 10] (fun s _ i wr => ∃ (k : Nat) (X : Option Addr) (j f : Nat), i = .int .i64 k ∧ s = .slice X j f ∧ k ≤ n ∧ j ≤ k ∧ Hid (Below w.heap.size w wr ∧ Owns ci 3 w.heap.size wr (.slice X j f) j (asInts (placesP k p)))) (fun _ _ i _ => n - (intOf i).toNat)
  case atStart => exact ⟨0, none, 0, 0, rfl, rfl, by omega, by omega, L1.out, Owns.nil _ _ _ _⟩
  case round =>
    obtain ⟨k, X, j, f, rfl, rfl, hk, hj, hH⟩ := hrel
    by_cases hlt : k < n
    · have hk0 : (0 : Int) ≤ (k : Int) := by omega
      have hkn : (k : Int) < (n : Int) := by omega
      have HC := Lib.hid (places_snoc k p)
      have HP1 := Lib.hid (HP.out wr k hlt hH.out.1)
      generalize hpk : p k = pk at HP1 HC
      clear hpk
      rcases pk with _ | _
      · go_wp2_with (go_at_fn g; refine HP1.out.mono ?_; rintro e w2 ⟨rfl, hb⟩; have L2 := Lib.hid (hH.out.1.trans (hb.mono hH.out.1.size)); have O2 := Lib.hid (hH.out.2.below hb); clear hb)
        go_roundw
        case rel => exact ⟨k + 1, X, j, f, by go_num, rfl, by omega, by omega, L2.out, by rw [HC.out]; simpa using O2.out⟩
        case measure => simp [intOf]; omega
      · go_upto_region 6 with (first | (go_at_fn g; refine HP1.out.mono ?_; rintro e w2 ⟨rfl, hb⟩; have L2 := Lib.hid (hH.out.1.trans (hb.mono hH.out.1.size)); have O2 := Lib.hid (hH.out.2.below hb); clear hb) | fail)
        have A5 : Hid (Below w.heap.size w (w2.alloc (.cells #[.int .i64 (k : Int)] 3))) := L2.out.alloc L2.out.size _
        have B5 := Lib.hid (rowI_one w2 (k : Int))
        go_wp2_with (at_builtin
                     refine wpList_append_row ci_one Try.underlying37 info_int rfl rfl (.tmp 16) (.tmp 18) rfl rfl w.heap.size (.slice X j f) j _ rfl (Owns.alloc O2.out _) _ 1 1 [(k : Int)] rfl B5.out (by omega) (by omega) A5.out.size ?_
                     intro A' c' w' h1 h2
                     have O6 := Lib.hid h1
                     have A6 := Lib.hid (A5.out.trans h2)
                     clear h1 h2)
        go_roundw
        case rel => exact ⟨k + 1, A', j + 1, c', by go_num, rfl, by omega, by omega, A6.out, by rw [HC.out, cond_true, asInts_append]; exact O6.out⟩
        case measure => simp [intOf]; omega
    · have hkn : k = n := by omega
      have HK := Lib.hid hkn
      clear hkn
      go_wp2_with fail
      go_ret
      have hh := hH.out
      rw [HK.out] at hh
      exact ⟨⟨_, _, _, rfl, hh.2⟩, hh.1⟩
/-- Places, as a call gave them. -/
def GaveP (l : List Nat) (w : World) (en : Ending) (w' : World) : Prop := (∃ X k d, en = .returned (.slice X k d) ∧ Owns ci 3 w.heap.size w' (.slice X k d) k (asInts l)) ∧ Below w.heap.size w w'

set_option maxRecDepth 100000 in
set_option maxHeartbeats 800000 in
theorem all1_any (i : Int) (w : World) : Calls Try.prog 63 #[.int .i64 i] w fun e w' => e = .returned (.bool true) ∧ w' = w := by
  go_enter Try.func63, Try.ntmps63
  go_wp2
  go_ret
  exact ⟨rfl, rfl⟩
set_option maxRecDepth 100000 in
set_option maxHeartbeats 800000 in
theorem others1_any (i j : Int) (q : Nat) (w : World) (h : w.cell? ⟨q, 0, none⟩ = some (.int .i64 j)) : Calls Try.prog 66 #[.int .i64 i, .pointer (some ⟨q, 0, none⟩)] w fun e w' => e = .returned (.bool (i != j)) ∧ w' = w := by
  go_enter Try.func66, Try.ntmps66
  go_wp2
  go_ret
  exact ⟨rfl, rfl⟩
theorem at_all (n : Nat) : placesP n (fun _ => true) = List.range n := by simp [placesP]
set_option maxRecDepth 100000 in
set_option maxHeartbeats 800000 in
theorem all_any (cap : Nat) (Q : Option Addr) (n c : Nat) (hn : n ≤ 1000000) (w : World) : Calls Try.prog 48 #[nv cap Q n c] w (GaveP (List.range n) w) := by
  have eg : ∀ args w, (callFunc 63 args).run Try.prog w = .ok (.enter 63 args) w := enters_of Try.func63 (by kernel_rfl) rfl
  have HP := fun W => Lib.hid (places_any (w := W) cap Q c hn 63 #[] eg (fun _ => true) (fun W' i _ _ => (all1_any i W').mono fun e w' h => ⟨h.1, by rw [h.2]; exact Below.refl _ _⟩))
  rw [at_all] at HP
  have L1 := Lib.hid ((Below.refl w.heap.size w).alloc (Nat.le_refl _) (.cells #[.int .i64 (cap : Int), .slice Q n c] 28))
  unfold nv at *
  clear eg
  go_enter Try.func48, Try.ntmps48
  go_wp2_with (go_at_call 44; refine (HP _).out.mono ?_; rintro e w2 ⟨⟨X, k, d, rfl, hO⟩, hb⟩; have L2 := Lib.hid (L1.out.trans (hb.mono L1.out.size)); have O2 := Lib.hid (hO.mono L1.out.size); clear hb hO)
  go_ret
  exact ⟨⟨_, _, _, rfl, O2.out⟩, L2.out⟩
set_option maxRecDepth 100000 in
set_option maxHeartbeats 800000 in
theorem others_any (cap : Nat) (Q : Option Addr) (n c : Nat) (j : Nat) (hn : n ≤ 1000000) (w : World) : Calls Try.prog 54 #[nv cap Q n c, .int .i64 (j : Int)] w (GaveP (placesP n (fun i => (i : Int) != (j : Int))) w) := by
  have eg : ∀ args w, (callFunc 66 args).run Try.prog w = .ok (.enter 66 args) w := enters_of Try.func66 (by kernel_rfl) rfl
  have HP := fun W q (h : W.cell? ⟨q, 0, none⟩ = some (.int .i64 (j : Int))) (hq : q < W.heap.size) => Lib.hid (places_any (w := W) cap Q c hn 66 #[.pointer (some ⟨q, 0, none⟩)] eg (fun i => (i : Int) != (j : Int)) (fun W' i _ hb => (others1_any i j q W' (by rw [hb.cell (p := ⟨q, 0, none⟩) hq]; exact h)).mono fun e w' h => ⟨h.1, by rw [h.2]; exact Below.refl _ _⟩))
  have L1 := Lib.hid (((Below.refl w.heap.size w).alloc (Nat.le_refl _) (.cells #[.int .i64 (cap : Int), .slice Q n c] 28)).alloc (by simp) (.cells #[.int .i64 (j : Int)] 3))
  have C1 := Cells.cell (Cells.new (w.alloc (.cells #[.int .i64 (cap : Int), .slice Q n c] 28)) #[.int .i64 (j : Int)] 3) 0
  rw [World.size_alloc] at C1
  unfold nv at *
  clear eg
  go_enter Try.func54, Try.ntmps54
  go_wp2_with (go_at_call 44; refine (HP _ _ C1 (by simp)).out.mono ?_; rintro e w2 ⟨⟨X, k, d, rfl, hO⟩, hb⟩; have L2 := Lib.hid (L1.out.trans (hb.mono L1.out.size)); have O2 := Lib.hid (hO.mono L1.out.size); clear hb hO)
  go_ret
  exact ⟨⟨_, _, _, rfl, O2.out⟩, L2.out⟩
end Net
end Go.Proofs.Ytamahknnppjegaa
