/-
  WALKS: slices.SortStableFunc of a row of one's own, of at most 64 zones' numbers, by a key.
-/
import Derived.Test.YtnnphpfobdcmbaaLivStable
import Derived.Test.YtnnphpfobdcmbaaLivChoose
import Derived.Sort.OwnSortedInts
namespace Go.Proofs.Ytnnphpfobdcmbaa
open Go.RowKit Mem Go.Shelf Go.Sort Stab
namespace Liv

def encF (N : Nat) (x : Fin (N + 1)) : Value := .int .i64 (x.val : Int)
theorem encF_one (N : Nat) : OneCell (encF N) := fun _ => rfl
def nums (N : Nat) (d : Array (Fin (N + 1))) : List Nat := d.toList.map Fin.val
theorem nums_get {N : Nat} {d : Array (Fin (N + 1))} {j : Nat} (hj : j < d.size) : (nums N d)[j]? = some (d[j]!).val := by
  unfold nums
  rw [List.getElem?_map, Array.getElem?_toList, Array.getElem?_eq_getElem hj, getElem!_pos d j hj]; rfl
theorem putCells_enc (N : Nat) (d : Array (Fin (N + 1))) (cs : Array Value) : putCells (encF N) 0 d cs = putCells (Value.int .i64) 0 (iN (nums N d)).toArray cs := by
  have hsz : (iN (nums N d)).toArray.size = d.size := by simp [iN, nums]
  have hg : ∀ j, j < d.size → encF N d[j]! = Value.int .i64 (iN (nums N d)).toArray[j]! := fun j hj => by
    have h1 : (iN (nums N d))[j]? = some ((d[j]!).val : Int) := iN_get (nums_get hj)
    have h2 : (iN (nums N d)).toArray[j]! = ((d[j]!).val : Int) := by
      rw [getElem!_pos _ j (by rw [hsz]; exact hj)]
      have := (List.getElem?_eq_some_iff.1 h1).2
      simpa using this
    rw [h2]; rfl
  unfold putCells
  apply Array.ext
  · simp
  · intro i h1 h2
    simp only [Array.getElem_mapIdx, hsz, Nat.sub_zero, Nat.zero_le, true_and, Nat.zero_add]
    split
    · rename_i h; exact hg i (by omega)
    · rfl
theorem putRow_enc (N : Nat) (w : World) (b : Nat) (d : Array (Fin (N + 1))) : putRow (encF N) w b 0 d = putRow (Value.int .i64) w b 0 (iN (nums N d)).toArray := by
  unfold putRow
  congr 1
  exact funext fun cs => putCells_enc N d cs
theorem holds_enc {N : Nat} {w : World} {b : Nat} {d : Array (Fin (N + 1))} (h : Holds (Value.int .i64) w b 0 (iN (nums N d)).toArray) : Holds (encF N) w b 0 d := fun j hj => by
  have hsz : (iN (nums N d)).toArray.size = d.size := by simp [iN, nums]
  have := h j (by rw [hsz]; exact hj)
  have h1 : (iN (nums N d))[j]? = some ((d[j]!).val : Int) := iN_get (nums_get hj)
  have h2 : (iN (nums N d)).toArray[j]! = ((d[j]!).val : Int) := by
    rw [getElem!_pos _ j (by rw [hsz]; exact hj)]
    have := (List.getElem?_eq_some_iff.1 h1).2
    simpa using this
  rw [h2] at this
  exact this
/-- How zones stand: by their keys, those of one key by their numbers. -/
def byKey (key : Nat → Int) (x y : Nat) : Prop := key x < key y ∨ key x = key y ∧ x < y
theorem cmpI_lt (a b : Int) : decide (cmpI a b < 0) = decide (a < b) := by
  unfold cmpI
  rcases e1 : decide (a < b)
  · rcases e2 : decide (b < a) <;> rfl
  · rfl

set_option maxRecDepth 100000 in
set_option maxHeartbeats 1600000 in
theorem ins_none (A : Option Addr) (c : Nat) (fv : Value) (w : World) : Calls Try.prog 70 #[.slice A 0 c, .int .i64 0, .int .i64 0, fv] w fun e w' => e = .returned (.tuple #[]) ∧ w' = w := by
  go_enter Try.func70, Try.ntmps70
  go_wp2
  refine wp_loop_rounds 1 ?_
  rw [rounds_succ]
  go_wp2
  go_end0
  exact ⟨rfl, rfl⟩
set_option maxRecDepth 100000 in
set_option maxHeartbeats 1600000 in
theorem stable_none (A : Option Addr) (c : Nat) (fv : Value) (w : World) : Calls Try.prog 50 #[.slice A 0 c, .int .i64 0, fv] w fun e w' => e = .returned (.tuple #[]) ∧ w' = w := by
  have HI := fun w => Lib.hid (ins_none A c fv w)
  go_enter Try.func50, Try.ntmps50
  go_wp2
  refine wp_loop_rounds 1 ?_
  rw [rounds_succ]
  go_wp2_with (go_at_call 70; refine (HI _).out.mono ?_; rintro e w2 ⟨rfl, rfl⟩)
  refine wp_loop_rounds 1 ?_
  rw [rounds_succ]
  go_wp2
  go_end0
  exact ⟨rfl, rfl⟩

set_option maxRecDepth 100000 in
set_option maxHeartbeats 3200000 in
theorem sorted_any {base : Nat} {w : World} {A : Option Addr} {n c N : Nat} {l : List Nat} (h : Mem.Owns ci 3 base w (.slice A n c) n (iN l)) (hb : base ≤ w.heap.size) (hn : n ≤ 64) (hl : ∀ x ∈ l, x < N + 1) (key : Nat → Int) (g : Nat) (cb : Array Value) (eg : ∀ args w, (callFunc g args).run Try.prog w = .ok (.enter g args) w)
    (hcmp : ∀ W, Below base w W → ∀ x y : Nat, x < N + 1 → y < N + 1 → Calls Try.prog g (#[.int .i64 (x : Int), .int .i64 (y : Int)] ++ cb) W fun e w' => e = .returned (.int .i64 (cmpI (key x) (key y))) ∧ ∃ q os', w' = Go.Sort.grow (W.drewN q) os') (hst : l.Pairwise (· < ·)) :
    Calls Try.prog 36 #[.slice A n c, .func (.func g) #[] cb] w fun e w' => e = .returned (.tuple #[]) ∧ (∃ rs : List Nat, Mem.Owns ci 3 base w' (.slice A n c) n (iN rs) ∧ rs.Perm l ∧ rs.Pairwise (byKey key)) ∧ Below base w w' := by
  have hlen : l.length = n := by have := h.len; rw [iN_len] at this; exact this
  rcases Nat.eq_zero_or_pos n with h0 | h0
  · subst h0
    have hl0 : l = [] := List.eq_nil_of_length_eq_zero hlen
    have HS := fun w => Lib.hid (stable_none A c (.func (.func g) #[] cb) w)
    have HO := Lib.hid h
    clear h hcmp eg
    go_enter Try.func36, Try.ntmps36
    go_wp2_with (go_at_call 50; refine (HS _).out.mono ?_; rintro e w2 ⟨rfl, rfl⟩)
    go_end0
    exact ⟨rfl, ⟨l, HO.out, List.Perm.refl _, by rw [hl0]; exact List.Pairwise.nil⟩, Below.refl _ _⟩
  · rcases h.2 with ⟨-, h1⟩ | ⟨b, cap, cur, hs, hbg, hg, hnc, hcm, hsz, ht⟩
    · omega
    · injection hs with e1 _ e3
      subst e1 e3
      obtain ⟨d, hd⟩ : ∃ d : Array (Fin (N + 1)), nums N d = l := ⟨(l.map (Fin.ofNat (N + 1))).toArray, by
        unfold nums
        rw [List.map_map]
        conv => rhs; rw [← List.map_id l]
        exact List.map_congr_left fun x hx => by simpa using Nat.mod_eq_of_lt (hl x hx)⟩
      have hdn : d.size = n := by rw [← hlen, ← hd]; simp [nums]
      have hiL : (iN l).length = n := by rw [iN_len, hlen]
      have ht' : cur.toList.take (iN l).length = (iN l).map (Value.int .i64) := by rw [hiL, ← Nat.mul_one n]; exact ht
      have hH := holds_of_blockI hg ht'
      rw [← hd] at hH
      have hH2 := holds_enc hH
      have hlt : b < w.heap.size := (Array.getElem?_eq_some_iff.1 hg).1
      have hU : Stb (fun x : Fin (N + 1) => key x.val) (fun x y => x.val < y.val) d 0 n := fun i j h1 h2 h3 _ => by
        have p := List.pairwise_iff_getElem.1 hst i j (by omega) (by omega) h2
        have g1 := nums_get (d := d) (j := i) (by omega)
        have g2 := nums_get (d := d) (j := j) (by omega)
        rw [hd] at g1 g2
        rw [(List.getElem?_eq_some_iff.1 g1).2, (List.getElem?_eq_some_iff.1 g2).2] at p
        exact p
      have hC : CmpLays1 Try.prog g cb (encF N) (fun x y => cmpI (key x.val) (key y.val)) b 0 d.size w := fun m os dk hs x y => by
        refine hcmp (sortWorld (encF N) w b 0 m dk os) ?_ x.val y.val x.isLt y.isLt
        unfold sortWorld
        rw [putRow_enc]
        exact (Below.refl base w).grown (grownBy_sortedI _) hb (fun q hq => by injection hq with hq; omega)
      have HS := Lib.hid (stable_s (r := fun x y => x.val < y.val) (key := fun x : Fin (N + 1) => key x.val) (Lib.hid fun x y => cmpI_lt _ _) eg c hC ⟨encF_one N, hH2, hlt⟩ n d w hdn hn hdn (SW.start hH2) hU)
      clear hC hH hH2 hcmp
      go_enter Try.func36, Try.ntmps36
      go_wp2_with (go_at_call 50; refine HS.out.mono ?_; rintro e w2 ⟨rfl, d', hA, hB, k, os, hS⟩; have HA := Lib.hid hA; have HB := Lib.hid hB; have HW := Lib.hid hS; clear hA hB hS)
      go_end0
      have hdn' : d'.size = n := HB.out.size.trans hdn
      have hw := HW.out
      unfold sortWorld at hw
      rw [putRow_enc] at hw
      refine ⟨rfl, ⟨nums N d', ?_, ?_, ?_⟩, ?_⟩
      · subst hw
        have hl2 : (iN (nums N d')).length = (iN l).length := by rw [hiL, iN_len]; simp [nums, hdn']
        have := ownsRow_sortedI (n := k) (os := os) (ss := iN l) (ts := iN (nums N d')) hl2 hbg hg (by omega) hcm hsz
        rw [hiL] at this
        exact this
      · rw [← hd]; exact HB.out.perm.map _
      · rw [List.pairwise_iff_getElem]
        intro i j h1 h2 h3
        have hi : i < d'.size := by simpa [nums] using h1
        have hj : j < d'.size := by simpa [nums] using h2
        have p := HA.out i j (Nat.zero_le _) h3 (by omega)
        have g1 := (List.getElem?_eq_some_iff.1 (nums_get hi)).2
        have g2 := (List.getElem?_eq_some_iff.1 (nums_get hj)).2
        rw [g1, g2]
        exact p
      · subst hw
        exact (Below.refl base w).grown (grownBy_sortedI _) hb (fun q hq => by injection hq with hq; omega)
end Liv
end Go.Proofs.Ytnnphpfobdcmbaa
