/-
  WALKS: its two questions, and addParts: what a list that may be has of some blocks, behind a row of one's own.
-/
import Derived.Test.YtnnphpfobdcmbaaExtAddP
import Derived.Test.YtnnphpfobdcmbaaExtIdx
import Derived.Test.YtnnphpfobdcmbaaRegK
namespace Go.Proofs.Ytnnphpfobdcmbaa
open Go.RowKit Mem
namespace Ext
set_option maxRecDepth 100000 in
set_option maxHeartbeats 1600000 in
theorem add1_any {A : Option Addr} {n c : Nat} {l : List Ex} {a : Int} {g q i : Nat} {x : Ex} {w1 : World} (h : RowL w1 A n c l) (hm : MayX x) (hi : i < n) (hx : l[i]? = some x) (hg : OneBox w1 g 22 (.slice A n c)) (hq : OneBox w1 q 3 (.int .i64 a)) :
    Calls Try.prog 66 #[.int .i64 i, .pointer (some ⟨g, 0, none⟩), .pointer (some ⟨q, 0, none⟩)] w1 fun e w' => e = .returned (.bool (decide (a < x.en))) ∧ Below w1.heap.size w1 w' := by
  obtain ⟨b, o, hA, hbl, hcc⟩ := RowS.ext h hx
  subst hA
  have HS := fun W (hW : Below w1.heap.size w1 W) => And.intro (hcc W (hW.block _ hbl)) (And.intro (OneBox.cells (Cells.below hg hW)) (OneBox.cells (Cells.below hq hW)))
  have HE := fun w => Lib.hid (end_any x hm w)
  have L1 : Hid (Below w1.heap.size w1 w1) := Below.refl _ _
  have M1 : Hid (Below w1.heap.size w1 w1) := Below.refl _ _
  have hk0 : (0 : Int) ≤ (i : Int) := by omega
  have hkn : (i : Int) < (n : Int) := by omega
  clear h hx hg hq hcc hm
  go_enter Try.func66, Try.ntmps66
  go_upto_region 1 with fail
  have L2 := Lib.hid (L1.out.drew)
  have M2 := Lib.hid (M1.out.drew)
  refine wp_region_held_drew (S := fun W => (W.cell? ⟨b, o + i * 5, none⟩ = some (.int .i64 x.lba) ∧ W.cell? ⟨b, o + i * 5 + 1, none⟩ = some (.int .i64 x.n) ∧ W.cell? ⟨b, o + i * 5 + 2, none⟩ = some (.int .i64 x.ver) ∧ W.cell? ⟨b, o + i * 5 + 3, none⟩ = some (.int .i64 x.zone) ∧ W.cell? ⟨b, o + i * 5 + 4, none⟩ = some (.int .i64 x.off)) ∧ W.cell? ⟨g, 0, none⟩ = some (.slice (some ⟨b, o, none⟩) n c) ∧ W.cell? ⟨q, 0, none⟩ = some (.int .i64 a)) (by kernel_rfl) (HS _ M2.out) (fun hHeld => ?_)
  generalize w1.drew = w2 at *
  clear L1 M1
  (first | (refine Reg.take 0 (v := ?_) rfl (by kernel_rfl) (by kernel_rfl) (by kernel_rfl) (fun _ _ _ h => h) (Or.inl ⟨by rfl, ?_⟩) (by assumption) ?_; rotate_left; (focus ((intro W hSW); (try dsimp only at hSW); (try go_split_ands); go_simp; (try (with_reducible rfl)); done))) | (refine Reg.take 0 (v := undef) rfl (by kernel_rfl) (by kernel_rfl) (by kernel_rfl) (fun _ _ _ h => h) (Or.inr ⟨by rfl, rfl⟩) (by assumption) ?_))
  (try simp only [Act.put, List.setIfInBounds_toArray, List.set_cons_zero, List.set_cons_succ])
  (first | (refine Reg.take 1 (v := ?_) rfl (by kernel_rfl) (by kernel_rfl) (by kernel_rfl) (fun _ _ _ h => h) (Or.inl ⟨by rfl, ?_⟩) (by assumption) ?_; rotate_left; (focus ((intro W hSW); (try dsimp only at hSW); (try go_split_ands); go_simp; (try (with_reducible rfl)); done))) | (refine Reg.take 1 (v := undef) rfl (by kernel_rfl) (by kernel_rfl) (by kernel_rfl) (fun _ _ _ h => h) (Or.inr ⟨by rfl, rfl⟩) (by assumption) ?_))
  (try simp only [Act.put, List.setIfInBounds_toArray, List.set_cons_zero, List.set_cons_succ])
  (first | (refine Reg.take 2 (v := ?_) rfl (by kernel_rfl) (by kernel_rfl) (by kernel_rfl) (fun _ _ _ h => h) (Or.inl ⟨by rfl, ?_⟩) (by assumption) ?_; rotate_left; (focus ((intro W hSW); (try dsimp only at hSW); (try go_split_ands); go_simp; (try (with_reducible rfl)); done))) | (refine Reg.take 2 (v := undef) rfl (by kernel_rfl) (by kernel_rfl) (by kernel_rfl) (fun _ _ _ h => h) (Or.inr ⟨by rfl, rfl⟩) (by assumption) ?_))
  (try simp only [Act.put, List.setIfInBounds_toArray, List.set_cons_zero, List.set_cons_succ])
  (first | (refine Reg.take 3 (v := ?_) rfl (by kernel_rfl) (by kernel_rfl) (by kernel_rfl) (fun _ _ _ h => h) (Or.inl ⟨by rfl, ?_⟩) (by assumption) ?_; rotate_left; (focus ((intro W hSW); (try dsimp only at hSW); (try go_split_ands); go_simp; (try (with_reducible rfl)); done))) | (refine Reg.take 3 (v := undef) rfl (by kernel_rfl) (by kernel_rfl) (by kernel_rfl) (fun _ _ _ h => h) (Or.inr ⟨by rfl, rfl⟩) (by assumption) ?_))
  (try simp only [Act.put, List.setIfInBounds_toArray, List.set_cons_zero, List.set_cons_succ])
  (first | (refine Reg.take 5 (v := ?_) rfl (by kernel_rfl) (by kernel_rfl) (by kernel_rfl) (fun _ _ _ h => h) (Or.inl ⟨by rfl, ?_⟩) (by assumption) ?_; rotate_left; (focus ((intro W hSW); (try dsimp only at hSW); (try go_split_ands); go_simp; (try (with_reducible rfl)); done))) | (refine Reg.take 5 (v := undef) rfl (by kernel_rfl) (by kernel_rfl) (by kernel_rfl) (fun _ _ _ h => h) (Or.inr ⟨by rfl, rfl⟩) (by assumption) ?_))
  (try simp only [Act.put, List.setIfInBounds_toArray, List.set_cons_zero, List.set_cons_succ])
  refine Reg.step 4 rfl (by kernel_rfl) (by rfl) (fun K hK => ?_)
  go_simp
  refine (HE w2).out.mono ?_
  rintro e' w3 ⟨rfl, hb⟩
  have L3 := Lib.hid (L2.out.trans (hb.mono L2.out.size))
  have M3 := Lib.hid (M2.out.trans (hb.mono M2.out.size))
  clear hb L2 M2
  refine hK.out _ _ (HS _ M3.out) (fun hHeld => ?_)
  clear hK K
  (try simp only [Act.put, List.setIfInBounds_toArray, List.set_cons_zero, List.set_cons_succ])
  (first | (refine Reg.take 6 (v := ?_) rfl (by kernel_rfl) (by kernel_rfl) (by kernel_rfl) (fun _ _ _ h => h) (Or.inl ⟨by rfl, ?_⟩) (by assumption) ?_; rotate_left; (focus ((intro W hSW); (try dsimp only at hSW); (try go_split_ands); go_simp; (try (with_reducible rfl)); done))) | (refine Reg.take 6 (v := undef) rfl (by kernel_rfl) (by kernel_rfl) (by kernel_rfl) (fun _ _ _ h => h) (Or.inr ⟨by rfl, rfl⟩) (by assumption) ?_))
  (try simp only [Act.put, List.setIfInBounds_toArray, List.set_cons_zero, List.set_cons_succ])
  (first | (refine Reg.take 7 (v := ?_) rfl (by kernel_rfl) (by kernel_rfl) (by kernel_rfl) (fun _ _ _ h => h) (Or.inl ⟨by rfl, ?_⟩) (by assumption) ?_; rotate_left; (focus ((intro W hSW); (try dsimp only at hSW); (try go_split_ands); go_simp; (try (with_reducible rfl)); done))) | (refine Reg.take 7 (v := undef) rfl (by kernel_rfl) (by kernel_rfl) (by kernel_rfl) (fun _ _ _ h => h) (Or.inr ⟨by rfl, rfl⟩) (by assumption) ?_))
  (try simp only [Act.put, List.setIfInBounds_toArray, List.set_cons_zero, List.set_cons_succ])
  refine wpAnyH_done (by kernel_rfl) ?_ _
  clear hHeld
  go_wp2_with fail
  go_ret
  exact ⟨rfl, L3.out⟩

set_option maxRecDepth 100000 in
set_option maxHeartbeats 1600000 in
theorem add2_any {A : Option Addr} {n c : Nat} {l : List Ex} {a : Int} {g q i : Nat} {x : Ex} {w1 : World} (h : RowL w1 A n c l) (hi : i < n) (hx : l[i]? = some x) (hg : OneBox w1 g 22 (.slice A n c)) (hq : OneBox w1 q 3 (.int .i64 a)) :
    Calls Try.prog 67 #[.int .i64 i, .pointer (some ⟨g, 0, none⟩), .pointer (some ⟨q, 0, none⟩)] w1 fun e w' => e = .returned (.bool (decide (a ≤ x.lba))) ∧ Below w1.heap.size w1 w' := by
  obtain ⟨b, o, hA, hbl, hcc⟩ := RowS.ext h hx
  subst hA
  have HS := fun W (hW : Below w1.heap.size w1 W) => And.intro (hcc W (hW.block _ hbl)) (And.intro (OneBox.cells (Cells.below hg hW)) (OneBox.cells (Cells.below hq hW)))
  have L1 : Hid (Below w1.heap.size w1 w1) := Below.refl _ _
  have M1 : Hid (Below w1.heap.size w1 w1) := Below.refl _ _
  have hk0 : (0 : Int) ≤ (i : Int) := by omega
  have hkn : (i : Int) < (n : Int) := by omega
  clear h hx hg hq hcc
  go_enter Try.func67, Try.ntmps67
  go_upto_region 1 with fail
  have L2 := Lib.hid (L1.out.drew)
  have M2 := Lib.hid (M1.out.drew)
  refine wp_region_held_drew (S := fun W => (W.cell? ⟨b, o + i * 5, none⟩ = some (.int .i64 x.lba) ∧ W.cell? ⟨b, o + i * 5 + 1, none⟩ = some (.int .i64 x.n) ∧ W.cell? ⟨b, o + i * 5 + 2, none⟩ = some (.int .i64 x.ver) ∧ W.cell? ⟨b, o + i * 5 + 3, none⟩ = some (.int .i64 x.zone) ∧ W.cell? ⟨b, o + i * 5 + 4, none⟩ = some (.int .i64 x.off)) ∧ W.cell? ⟨g, 0, none⟩ = some (.slice (some ⟨b, o, none⟩) n c) ∧ W.cell? ⟨q, 0, none⟩ = some (.int .i64 a)) (by kernel_rfl) (HS _ M2.out) (fun hHeld => ?_)
  generalize w1.drew = w2 at *
  clear L1 M1
  (first | (refine Reg.take 0 (v := ?_) rfl (by kernel_rfl) (by kernel_rfl) (by kernel_rfl) (fun _ _ _ h => h) (Or.inl ⟨by rfl, ?_⟩) (by assumption) ?_; rotate_left; (focus ((intro W hSW); (try dsimp only at hSW); (try go_split_ands); go_simp; (try (with_reducible rfl)); done))) | (refine Reg.take 0 (v := undef) rfl (by kernel_rfl) (by kernel_rfl) (by kernel_rfl) (fun _ _ _ h => h) (Or.inr ⟨by rfl, rfl⟩) (by assumption) ?_))
  (try simp only [Act.put, List.setIfInBounds_toArray, List.set_cons_zero, List.set_cons_succ])
  (first | (refine Reg.take 1 (v := ?_) rfl (by kernel_rfl) (by kernel_rfl) (by kernel_rfl) (fun _ _ _ h => h) (Or.inl ⟨by rfl, ?_⟩) (by assumption) ?_; rotate_left; (focus ((intro W hSW); (try dsimp only at hSW); (try go_split_ands); go_simp; (try (with_reducible rfl)); done))) | (refine Reg.take 1 (v := undef) rfl (by kernel_rfl) (by kernel_rfl) (by kernel_rfl) (fun _ _ _ h => h) (Or.inr ⟨by rfl, rfl⟩) (by assumption) ?_))
  (try simp only [Act.put, List.setIfInBounds_toArray, List.set_cons_zero, List.set_cons_succ])
  (first | (refine Reg.take 2 (v := ?_) rfl (by kernel_rfl) (by kernel_rfl) (by kernel_rfl) (fun _ _ _ h => h) (Or.inl ⟨by rfl, ?_⟩) (by assumption) ?_; rotate_left; (focus ((intro W hSW); (try dsimp only at hSW); (try go_split_ands); go_simp; (try (with_reducible rfl)); done))) | (refine Reg.take 2 (v := undef) rfl (by kernel_rfl) (by kernel_rfl) (by kernel_rfl) (fun _ _ _ h => h) (Or.inr ⟨by rfl, rfl⟩) (by assumption) ?_))
  (try simp only [Act.put, List.setIfInBounds_toArray, List.set_cons_zero, List.set_cons_succ])
  (first | (refine Reg.take 3 (v := ?_) rfl (by kernel_rfl) (by kernel_rfl) (by kernel_rfl) (fun _ _ _ h => h) (Or.inl ⟨by rfl, ?_⟩) (by assumption) ?_; rotate_left; (focus ((intro W hSW); (try dsimp only at hSW); (try go_split_ands); go_simp; (try (with_reducible rfl)); done))) | (refine Reg.take 3 (v := undef) rfl (by kernel_rfl) (by kernel_rfl) (by kernel_rfl) (fun _ _ _ h => h) (Or.inr ⟨by rfl, rfl⟩) (by assumption) ?_))
  (try simp only [Act.put, List.setIfInBounds_toArray, List.set_cons_zero, List.set_cons_succ])
  (first | (refine Reg.take 4 (v := ?_) rfl (by kernel_rfl) (by kernel_rfl) (by kernel_rfl) (fun _ _ _ h => h) (Or.inl ⟨by rfl, ?_⟩) (by assumption) ?_; rotate_left; (focus ((intro W hSW); (try dsimp only at hSW); (try go_split_ands); go_simp; (try (with_reducible rfl)); done))) | (refine Reg.take 4 (v := undef) rfl (by kernel_rfl) (by kernel_rfl) (by kernel_rfl) (fun _ _ _ h => h) (Or.inr ⟨by rfl, rfl⟩) (by assumption) ?_))
  (try simp only [Act.put, List.setIfInBounds_toArray, List.set_cons_zero, List.set_cons_succ])
  (first | (refine Reg.take 5 (v := ?_) rfl (by kernel_rfl) (by kernel_rfl) (by kernel_rfl) (fun _ _ _ h => h) (Or.inl ⟨by rfl, ?_⟩) (by assumption) ?_; rotate_left; (focus ((intro W hSW); (try dsimp only at hSW); (try go_split_ands); go_simp; (try (with_reducible rfl)); done))) | (refine Reg.take 5 (v := undef) rfl (by kernel_rfl) (by kernel_rfl) (by kernel_rfl) (fun _ _ _ h => h) (Or.inr ⟨by rfl, rfl⟩) (by assumption) ?_))
  (try simp only [Act.put, List.setIfInBounds_toArray, List.set_cons_zero, List.set_cons_succ])
  (first | (refine Reg.take 6 (v := ?_) rfl (by kernel_rfl) (by kernel_rfl) (by kernel_rfl) (fun _ _ _ h => h) (Or.inl ⟨by rfl, ?_⟩) (by assumption) ?_; rotate_left; (focus ((intro W hSW); (try dsimp only at hSW); (try go_split_ands); go_simp; (try (with_reducible rfl)); done))) | (refine Reg.take 6 (v := undef) rfl (by kernel_rfl) (by kernel_rfl) (by kernel_rfl) (fun _ _ _ h => h) (Or.inr ⟨by rfl, rfl⟩) (by assumption) ?_))
  (try simp only [Act.put, List.setIfInBounds_toArray, List.set_cons_zero, List.set_cons_succ])
  (first | (refine Reg.take 7 (v := ?_) rfl (by kernel_rfl) (by kernel_rfl) (by kernel_rfl) (fun _ _ _ h => h) (Or.inl ⟨by rfl, ?_⟩) (by assumption) ?_; rotate_left; (focus ((intro W hSW); (try dsimp only at hSW); (try go_split_ands); go_simp; (try (with_reducible rfl)); done))) | (refine Reg.take 7 (v := undef) rfl (by kernel_rfl) (by kernel_rfl) (by kernel_rfl) (fun _ _ _ h => h) (Or.inr ⟨by rfl, rfl⟩) (by assumption) ?_))
  (try simp only [Act.put, List.setIfInBounds_toArray, List.set_cons_zero, List.set_cons_succ])
  refine wpAnyH_done (by kernel_rfl) ?_ _
  clear hHeld
  go_wp2_with fail
  go_ret
  exact ⟨rfl, L2.out⟩

theorem three_boxes (w : World) (A : Option Addr) (n c : Nat) (a b : Int) : Hid (Below w.heap.size w (((w.alloc (.cells #[.slice A n c] 22)).alloc (.cells #[.int .i64 a] 3)).alloc (.cells #[.int .i64 b] 3))) ∧ Hid (OneBox (((w.alloc (.cells #[.slice A n c] 22)).alloc (.cells #[.int .i64 a] 3)).alloc (.cells #[.int .i64 b] 3)) w.heap.size 22 (.slice A n c)) ∧ Hid (OneBox (((w.alloc (.cells #[.slice A n c] 22)).alloc (.cells #[.int .i64 a] 3)).alloc (.cells #[.int .i64 b] 3)) (w.heap.size + 1) 3 (.int .i64 a)) ∧ Hid (OneBox (((w.alloc (.cells #[.slice A n c] 22)).alloc (.cells #[.int .i64 a] 3)).alloc (.cells #[.int .i64 b] 3)) (w.heap.size + 2) 3 (.int .i64 b)) := by
  have A1 : Below w.heap.size w (w.alloc (.cells #[.slice A n c] 22)) := (Below.refl _ w).alloc (Nat.le_refl _) _
  have A2 : Below w.heap.size w ((w.alloc (.cells #[.slice A n c] 22)).alloc (.cells #[.int .i64 a] 3)) := A1.alloc A1.size _
  have h1 := Cells.new (w.alloc (.cells #[.slice A n c] 22)) #[.int .i64 a] 3
  have h2 := Cells.new ((w.alloc (.cells #[.slice A n c] 22)).alloc (.cells #[.int .i64 a] 3)) #[.int .i64 b] 3
  refine ⟨A2.alloc A2.size _, Cells.alloc (Cells.alloc (Cells.new _ _ _) _) _, ?_, ?_⟩
  · show OneBox _ _ _ _
    refine Cells.alloc ?_ _
    simpa using h1
  · show OneBox _ _ _ _
    simpa using h2
/-- What addParts gives: behind a row of one's own, those blocks' extents. -/
def Added (base : Nat) (w : World) (s : Value) (out : List Ex) (en : Ending) (w' : World) : Prop :=
  (∃ B m d, en = .returned (.slice B m d) ∧ OwnsL base w' (.slice B m d) m out ∧ ∀ k, (Value.slice B m d).ownBlock = some k → s.ownBlock = some k ∨ w.heap.size ≤ k) ∧ Below base w w' ∧
    ∀ k, k < w.heap.size → s.ownBlock ≠ some k → w'.heap[k]? = w.heap[k]?
set_option maxRecDepth 100000 in
set_option maxHeartbeats 25600000 in
theorem addParts_any {base : Nat} {A X : Option Addr} {n c j d : Nat} {l out : List Ex} {f : Int} {w : World} (a b : Int) (hO : OwnsL base w (.slice X j d) j out) (hbase : base ≤ w.heap.size) (hL : ∀ W, Below base w W → RowL W A n c l)
    (hl : Ok f l) (hj : j ≤ 10000000) (hn : n ≤ 10000000) (ha : 0 ≤ a) (ha2 : a ≤ 1099511627776) (hb : 0 ≤ b) (hb2 : b ≤ 1099511627776) :
    Calls Try.prog 46 #[.slice X j d, .slice A n c, .int .i64 a, .int .i64 b] w (Added base w (.slice X j d) (out ++ clips a b l)) := by
  obtain ⟨L1, B5, B6, B7⟩ := three_boxes w A n c a b
  have HL := Lib.hid hL
  have HOK := Lib.hid hl
  have HAB := Lib.hid (And.intro ha (And.intro ha2 (And.intro hb hb2)))
  have HO := Lib.hid hO
  have hbig : n ≤ 140737488351232 := by omega
  have HLT := Lib.hid (OwnsL.lt hO)
  have HBS := Lib.hid hbase
  have hlen := Lib.hid (hL w (Below.refl _ _)).len
  have hcap := (hL w (Below.refl _ _)).cap
  have hjo := Lib.hid hO.2
  clear hO hL hl ha ha2 hb hb2 hbase
  go_enter Try.func46, Try.ntmps46
  go_upto_region 1 with fail
  generalize ((w.alloc (.cells #[.slice A n c] 22)).alloc (.cells #[.int .i64 a] 3)).alloc (.cells #[.int .i64 b] 3) = w1 at *
  have m5 := OneBox.cells B5.out
  have m6 := OneBox.cells B6.out
  have m7 := OneBox.cells B7.out
  have LB1 : Hid (Below base w w1) := L1.out.mono HBS.out
  rcases e1 : decide (b ≤ a)
  · have hab := of_decide_eq_false e1
    have HLT2 := Lib.hid (show a < b by omega)
    clear hab
    obtain ⟨p, hp⟩ : ∃ p : Nat → Bool, ∀ i x, l[i]? = some x → p i = decide (a < x.en) := ⟨fun i => match l[i]? with | some x => decide (a < x.en) | none => false, fun i x hx => by simp [hx]⟩
    obtain ⟨r, hr⟩ : ∃ r : Nat → Bool, ∀ i x, l[i]? = some x → r i = decide (b ≤ x.lba) := ⟨fun i => match l[i]? with | some x => decide (b ≤ x.lba) | none => false, fun i x hx => by simp [hx]⟩
    have HP := Lib.hid hp
    have HRR := Lib.hid hr
    clear hp hr
    have HS1 := Lib.hid (search_any (n := n) (w := w1) 66 #[.pointer (some ⟨w.heap.size, 0, none⟩), .pointer (some ⟨w.heap.size + 1, 0, none⟩)] (enters_of Try.func66 (by kernel_rfl) rfl) p hbig
      (fun W i hi hW => by
        have hrow := HL.out W (LB1.out.trans (hW.mono (Nat.le_trans HBS.out L1.out.size)))
        obtain ⟨x, hx⟩ := hrow.get hi
        rw [HP.out i x hx]
        exact add1_any hrow (HOK.out.at_ hx).1 hi hx (Cells.below B5.out hW) (Cells.below B6.out hW))
      (fun u v huv hv hu => by
        obtain ⟨x, hx⟩ : ∃ x, l[u]? = some x := ⟨_, List.getElem?_eq_getElem (by have := hlen.out; omega)⟩
        obtain ⟨y, hy⟩ : ∃ y, l[v]? = some y := ⟨_, List.getElem?_eq_getElem (by have := hlen.out; omega)⟩
        rw [HP.out u x hx, decide_eq_true_eq] at hu
        rw [HP.out v y hy, decide_eq_true_eq]
        exact Int.lt_of_lt_of_le hu (HOK.out.en_mono huv hx hy)))
    go_wp2_with fail
    refine HS1.out.mono ?_
    rintro e w2 ⟨⟨i1, rfl, hi1, hlo1, hhi1⟩, hb⟩
    have L2 := Lib.hid (L1.out.trans (hb.mono L1.out.size))
    have LB2 : Hid (Below base w w2) := LB1.out.trans (hb.mono (Nat.le_trans HBS.out L1.out.size))
    have C5 := Lib.hid (Cells.below B5.out hb)
    have C6 := Lib.hid (Cells.below B6.out hb)
    have C7 := Lib.hid (Cells.below B7.out hb)
    have HI1 := Lib.hid (And.intro hi1 (And.intro hlo1 hhi1))
    clear hb hi1 hlo1 hhi1 m5 m6 m7 B5 B6 B7 HS1
    have m5 := OneBox.cells C5.out
    have m6 := OneBox.cells C6.out
    have m7 := OneBox.cells C7.out
    have HS2 := Lib.hid (search_any (n := n) (w := w2) 67 #[.pointer (some ⟨w.heap.size, 0, none⟩), .pointer (some ⟨w.heap.size + 2, 0, none⟩)] (enters_of Try.func67 (by kernel_rfl) rfl) r hbig
      (fun W i hi hW => by
        have hrow := HL.out W (LB2.out.trans (hW.mono (Nat.le_trans HBS.out L2.out.size)))
        obtain ⟨x, hx⟩ := hrow.get hi
        rw [HRR.out i x hx]
        exact add2_any hrow hi hx (Cells.below C5.out hW) (Cells.below C7.out hW))
      (fun u v huv hv hu => by
        obtain ⟨x, hx⟩ : ∃ x, l[u]? = some x := ⟨_, List.getElem?_eq_getElem (by have := hlen.out; omega)⟩
        obtain ⟨y, hy⟩ : ∃ y, l[v]? = some y := ⟨_, List.getElem?_eq_getElem (by have := hlen.out; omega)⟩
        rw [HRR.out u x hx, decide_eq_true_eq] at hu
        rw [HRR.out v y hy, decide_eq_true_eq]
        exact Int.le_trans hu (HOK.out.lba_mono huv hx hy)))
    go_wp2_with fail
    refine HS2.out.mono ?_
    rintro e w3 ⟨⟨i2, rfl, hi2, hlo2, hhi2⟩, hb⟩
    have L3 := Lib.hid (L2.out.trans (hb.mono L2.out.size))
    have LB3 : Hid (Below base w w3) := LB2.out.trans (hb.mono (Nat.le_trans HBS.out L2.out.size))
    have B5 := Lib.hid (Cells.below C5.out hb)
    have B6 := Lib.hid (Cells.below C6.out hb)
    have B7 := Lib.hid (Cells.below C7.out hb)
    have h1 : ∀ t x, t < i1 → l[t]? = some x → x.en ≤ a := fun t x ht hx => by
      have := HI1.out.2.1 t ht
      rw [HP.out t x hx, decide_eq_false_iff_not] at this; omega
    have h2 : ∀ t x, i1 ≤ t → l[t]? = some x → a < x.en := fun t x ht hx => by
      have := HI1.out.2.2 t ht (by have := (List.getElem?_eq_some_iff.1 hx).1; have := hlen.out; omega)
      rw [HP.out t x hx, decide_eq_true_eq] at this; exact this
    have h3 : ∀ t x, t < i2 → l[t]? = some x → x.lba < b := fun t x ht hx => by
      have := hlo2 t ht
      rw [HRR.out t x hx, decide_eq_false_iff_not] at this; omega
    have h4 : ∀ t x, i2 ≤ t → l[t]? = some x → b ≤ x.lba := fun t x ht hx => by
      have := hhi2 t ht (by have := (List.getElem?_eq_some_iff.1 hx).1; have := hlen.out; omega)
      rw [HRR.out t x hx, decide_eq_true_eq] at this; exact this
    have h12 : i1 ≤ i2 := by
      rcases Nat.lt_or_ge i2 i1 with hlt | hge
      · obtain ⟨x, hx⟩ : ∃ x, l[i2]? = some x := ⟨_, List.getElem?_eq_getElem (by have := hlen.out; have := HI1.out.1; omega)⟩
        have g1 := h1 i2 x hlt hx
        have g2 := h4 i2 x (Nat.le_refl _) hx
        have g3 := en_lt (HOK.out.at_ hx).1
        have g4 := HLT2.out
        omega
      · exact hge
    have HCL := Lib.hid (clips_mid HLT2.out h12 h1 h2 h3 h4)
    have HTO := Lib.hid (mid_touch h2 h3)
    obtain ⟨gg, hgg⟩ := ok_mid HOK.out i1 (i2 - i1)
    have HMO := Lib.hid hgg
    have HROW := fun W (hW : Below base w W) => mid_row (HL.out W hW) h12 hi2
    have hin : i2 ≤ c := by omega
    have hsl := fun w => run_midL A n c i1 i2 h12 hin w
    obtain ⟨q, hq⟩ : ∃ q, q = i2 - i1 := ⟨_, rfl⟩
    rw [← hq] at HCL HTO HMO hsl HROW
    have hqn : q ≤ 10000000 := by omega
    clear hq
    clear hb hlo2 hhi2 h1 h2 h3 h4 hgg m5 m6 m7 C5 C6 C7 HS2 HI1 HP HRR
    have HMID := Lib.hid (HROW w (Below.refl _ _)).len
    have HROW2 := Lib.hid HROW
    clear HROW
    generalize (l.drop i1).take q = mid at *
    generalize tailA A c i1 = TA at *
    generalize c - i1 = TC at *
    have m5 := OneBox.cells B5.out
    have m6 := OneBox.cells B6.out
    have m7 := OneBox.cells B7.out
    go_upto_region 7 with (at_builtin
                           refine wpList_append_l rfl (.tmp 27) (.tmp 31) rfl rfl base (.slice X j d) j out rfl (OwnsL.low HO.out L3.out) TA q TC mid rfl (HROW2.out w3 LB3.out) (by omega) (Nat.le_trans HBS.out L3.out.size) ?_
                           intro A' c' w4 h1 h2 h3
                           have O4 := Lib.hid h1
                           have G4 := Lib.hid h2
                           have Z4 := Lib.hid h3
                           clear h1 h2 h3)
    have LB4 : Hid (Below base w w4) := LB3.out.trans (below_row (OwnsL.low HO.out L3.out) G4.out (Nat.le_trans HBS.out L3.out.size))
    have W4S : Hid (w.heap.size ≤ w4.heap.size) := Nat.le_trans L3.out.size G4.out.size
    have OWN4 : Hid (∀ k, (Value.slice A' (j + q) c').ownBlock = some k → (Value.slice X j d).ownBlock = some k ∨ w.heap.size ≤ k) := fun k hk => by
      rcases Z4.out with h | h
      · left; rw [← h]; exact hk
      · right
        rw [hk] at h
        injection h with h
        have := L3.out.size
        omega
    have FR4 : Hid (∀ k, k < w.heap.size → (Value.slice X j d).ownBlock ≠ some k → w4.heap[k]? = w.heap[k]?) := fun k hk hne =>
      (G4.out.block k (Nat.lt_of_lt_of_le hk L3.out.size) (fun e => hne e.symm)).trans (L3.out.block k hk)
    rcases Nat.eq_zero_or_pos q with hq0 | hq0
    · have hmid : mid = [] := List.eq_nil_of_length_eq_zero (by rw [HMID.out, hq0])
      subst hmid hq0
      have HC : Hid (clips a b l = []) := HCL.out
      have hw1 : ((j + 0 : Nat) : Int) - 1 = (j : Int) - 1 := by omega
      have hw2 : IntKind.i64.wrap ((j : Int) - 1) = (j : Int) - 1 := wrap_small (by omega) (by omega)
      have hd : decide ((j : Int) ≤ (j : Int) - 1) = false := decide_eq_false (by omega)
      go_wp2_with fail
      go_ret
      exact ⟨⟨_, _, _, rfl, by rw [HC.out]; exact O4.out, fun k hk => OWN4.out k hk⟩, LB4.out, FR4.out⟩
    · obtain ⟨k, rfl⟩ : ∃ k, q = k + 1 := ⟨q - 1, by omega⟩
      obtain ⟨y, hy⟩ : ∃ y, mid[0]? = some y := ⟨_, List.getElem?_eq_getElem (by have := HMID.out; omega)⟩
      have hyo : (out ++ mid)[j]? = some y := by
        have := get_out out mid 0
        rw [hjo.out, Nat.add_zero] at this
        rw [this]; exact hy
      have HYM : Hid (MayX y) := HMO.out.may y (List.mem_of_getElem? hy)
      have HYO := Lib.hid hyo
      have HY := Lib.hid hy
      have HTY := Lib.hid (HTO.out y (List.mem_of_getElem? hy))
      obtain ⟨g, hA, hge, hgl, -, -, -⟩ := OwnsL.put O4.out hyo
      subst hA
      have HGE := Lib.hid hge
      have OWNG : Hid ((Value.slice X j d).ownBlock = some g ∨ w.heap.size ≤ g) := OWN4.out g rfl
      have HNE : Hid (g ≠ w.heap.size + 1 ∧ g ≠ w.heap.size + 2) := by
        have h3 := Cells.lt B7.out
        rcases Z4.out with h | h
        · have := (HLT.out g (by rw [← h]; rfl)).2
          exact ⟨by omega, by omega⟩
        · have h : some g = some w3.heap.size := h
          injection h with h
          exact ⟨by omega, by omega⟩
      have BX6 : Hid (OneBox w4 (w.heap.size + 1) 3 (.int .i64 a)) := Cells.grown B6.out G4.out (fun e => by have h1 := HLT.out _ e; omega)
      have BX7 : Hid (OneBox w4 (w.heap.size + 2) 3 (.int .i64 b)) := Cells.grown B7.out G4.out (fun e => by have h1 := HLT.out _ e; omega)
      clear hy hyo hge hgl hq0 m5 m6 m7
      obtain ⟨J, hJ⟩ : ∃ J, J = j + k := ⟨_, rfl⟩
      generalize hM : j + (k + 1) = M at *
      have HJ := Lib.hid (And.intro hJ hM)
      have hqw : (M : Int) - 1 = (J : Int) := by omega
      have hw2 : IntKind.i64.wrap (J : Int) = (J : Int) := wrap_small (by omega) (by omega)
      have hd : decide ((j : Int) ≤ (J : Int)) = true := decide_eq_true (by omega)
      have hj0 : (0 : Int) ≤ (j : Int) := by omega
      have hjn : (j : Int) < (M : Int) := by omega
      have hk0 : (0 : Int) ≤ (J : Int) := by omega
      have hkn : (J : Int) < (M : Int) := by omega
      clear hJ hM
      have hmax := run_max2 (x := y.lba) (y := a)
      have HE := fun w => Lib.hid (end_any y HYM.out w)
      have HCUT := fun w => Lib.hid (cut_any y (max y.lba a) y.en HYM.out (by have := HYM.out.1; omega) (by have := en_le HYM.out; have := en_lt HYM.out; have := HAB.out; omega) (by have := en_lt HYM.out; have := HYM.out.1; omega) (en_le HYM.out) w)
      have L4 : Hid (Below base w w4) := LB4.out
      have M4 : Hid (Below w4.heap.size w4 w4) := Below.refl _ _
      have HS := fun W (hW : Below w4.heap.size w4 W) => And.intro (OwnsL.cells_at (OwnsL.below O4.out hW) HYO.out) (OneBox.cells (Cells.below BX6.out hW))
      go_upto_region 9 with fail
      have L5 := Lib.hid (L4.out.drew)
      have M5 := Lib.hid (M4.out.drew)
      refine RegK.start (S := fun W => (W.cell? ⟨g, j * 5, none⟩ = some (.int .i64 y.lba) ∧ W.cell? ⟨g, j * 5 + 1, none⟩ = some (.int .i64 y.n) ∧ W.cell? ⟨g, j * 5 + 2, none⟩ = some (.int .i64 y.ver) ∧ W.cell? ⟨g, j * 5 + 3, none⟩ = some (.int .i64 y.zone) ∧ W.cell? ⟨g, j * 5 + 4, none⟩ = some (.int .i64 y.off)) ∧ W.cell? ⟨w.heap.size + 1, 0, none⟩ = some (.int .i64 a)) 20 (by kernel_rfl) (HS _ M5.out) (fun hHeld => ?_)
      generalize w4.drew = w5 at *
      clear L4 M4
      (first | (refine RegK.take 0 [20, 19] (v := ?_) rfl (by kernel_rfl) (by kernel_rfl) (by kernel_rfl) (by kernel_rfl) rfl (by kernel_rfl) (fun _ _ _ h => h) (Or.inl ⟨by rfl, ?_⟩) (by assumption) ?_; rotate_left; (focus ((intro W hSW; (try dsimp only at hSW); (try go_split_ands); go_simp; (try (with_reducible rfl)); done)))) | (refine RegK.take 0 [20, 19] (v := undef) rfl (by kernel_rfl) (by kernel_rfl) (by kernel_rfl) (by kernel_rfl) rfl (by kernel_rfl) (fun _ _ _ h => h) (Or.inr ⟨by rfl, rfl⟩) (by assumption) ?_))
      (try simp only [Act.put, List.setIfInBounds_toArray, List.set_cons_zero, List.set_cons_succ])
      (first | (refine RegK.take 1 [20, 19] (v := ?_) rfl (by kernel_rfl) (by kernel_rfl) (by kernel_rfl) (by kernel_rfl) rfl (by kernel_rfl) (fun _ _ _ h => h) (Or.inl ⟨by rfl, ?_⟩) (by assumption) ?_; rotate_left; (focus ((intro W hSW; (try dsimp only at hSW); (try go_split_ands); go_simp; (try (with_reducible rfl)); done)))) | (refine RegK.take 1 [20, 19] (v := undef) rfl (by kernel_rfl) (by kernel_rfl) (by kernel_rfl) (by kernel_rfl) rfl (by kernel_rfl) (fun _ _ _ h => h) (Or.inr ⟨by rfl, rfl⟩) (by assumption) ?_))
      (try simp only [Act.put, List.setIfInBounds_toArray, List.set_cons_zero, List.set_cons_succ])
      (first | (refine RegK.take 2 [20, 18, 5, 4] (v := ?_) rfl (by kernel_rfl) (by kernel_rfl) (by kernel_rfl) (by kernel_rfl) rfl (by kernel_rfl) (fun _ _ _ h => h) (Or.inl ⟨by rfl, ?_⟩) (by assumption) ?_; rotate_left; (focus ((intro W hSW; (try dsimp only at hSW); (try go_split_ands); go_simp; (try (with_reducible rfl)); done)))) | (refine RegK.take 2 [20, 18, 5, 4] (v := undef) rfl (by kernel_rfl) (by kernel_rfl) (by kernel_rfl) (by kernel_rfl) rfl (by kernel_rfl) (fun _ _ _ h => h) (Or.inr ⟨by rfl, rfl⟩) (by assumption) ?_))
      (try simp only [Act.put, List.setIfInBounds_toArray, List.set_cons_zero, List.set_cons_succ])
      (first | (refine RegK.take 3 [20, 18, 5, 4] (v := ?_) rfl (by kernel_rfl) (by kernel_rfl) (by kernel_rfl) (by kernel_rfl) rfl (by kernel_rfl) (fun _ _ _ h => h) (Or.inl ⟨by rfl, ?_⟩) (by assumption) ?_; rotate_left; (focus ((intro W hSW; (try dsimp only at hSW); (try go_split_ands); go_simp; (try (with_reducible rfl)); done)))) | (refine RegK.take 3 [20, 18, 5, 4] (v := undef) rfl (by kernel_rfl) (by kernel_rfl) (by kernel_rfl) (by kernel_rfl) rfl (by kernel_rfl) (fun _ _ _ h => h) (Or.inr ⟨by rfl, rfl⟩) (by assumption) ?_))
      (try simp only [Act.put, List.setIfInBounds_toArray, List.set_cons_zero, List.set_cons_succ])
      (first | (refine RegK.take 4 [20, 18, 5] (v := ?_) rfl (by kernel_rfl) (by kernel_rfl) (by kernel_rfl) (by kernel_rfl) rfl (by kernel_rfl) (fun _ _ _ h => h) (Or.inl ⟨by rfl, ?_⟩) (by assumption) ?_; rotate_left; (focus ((intro W hSW; (try dsimp only at hSW); (try go_split_ands); go_simp; (try (with_reducible rfl)); done)))) | (refine RegK.take 4 [20, 18, 5] (v := undef) rfl (by kernel_rfl) (by kernel_rfl) (by kernel_rfl) (by kernel_rfl) rfl (by kernel_rfl) (fun _ _ _ h => h) (Or.inr ⟨by rfl, rfl⟩) (by assumption) ?_))
      (try simp only [Act.put, List.setIfInBounds_toArray, List.set_cons_zero, List.set_cons_succ])
      (first | (refine RegK.take 5 [20, 18] (v := ?_) rfl (by kernel_rfl) (by kernel_rfl) (by kernel_rfl) (by kernel_rfl) rfl (by kernel_rfl) (fun _ _ _ h => h) (Or.inl ⟨by rfl, ?_⟩) (by assumption) ?_; rotate_left; (focus ((intro W hSW; (try dsimp only at hSW); (try go_split_ands); go_simp; (try (with_reducible rfl)); done)))) | (refine RegK.take 5 [20, 18] (v := undef) rfl (by kernel_rfl) (by kernel_rfl) (by kernel_rfl) (by kernel_rfl) rfl (by kernel_rfl) (fun _ _ _ h => h) (Or.inr ⟨by rfl, rfl⟩) (by assumption) ?_))
      (try simp only [Act.put, List.setIfInBounds_toArray, List.set_cons_zero, List.set_cons_succ])
      (first | (refine RegK.take 6 [20, 18, 12, 10, 9, 8] (v := ?_) rfl (by kernel_rfl) (by kernel_rfl) (by kernel_rfl) (by kernel_rfl) rfl (by kernel_rfl) (fun _ _ _ h => h) (Or.inl ⟨by rfl, ?_⟩) (by assumption) ?_; rotate_left; (focus ((intro W hSW; (try dsimp only at hSW); (try go_split_ands); go_simp; (try (with_reducible rfl)); done)))) | (refine RegK.take 6 [20, 18, 12, 10, 9, 8] (v := undef) rfl (by kernel_rfl) (by kernel_rfl) (by kernel_rfl) (by kernel_rfl) rfl (by kernel_rfl) (fun _ _ _ h => h) (Or.inr ⟨by rfl, rfl⟩) (by assumption) ?_))
      (try simp only [Act.put, List.setIfInBounds_toArray, List.set_cons_zero, List.set_cons_succ])
      (first | (refine RegK.take 7 [20, 18, 12, 10, 9, 8] (v := ?_) rfl (by kernel_rfl) (by kernel_rfl) (by kernel_rfl) (by kernel_rfl) rfl (by kernel_rfl) (fun _ _ _ h => h) (Or.inl ⟨by rfl, ?_⟩) (by assumption) ?_; rotate_left; (focus ((intro W hSW; (try dsimp only at hSW); (try go_split_ands); go_simp; (try (with_reducible rfl)); done)))) | (refine RegK.take 7 [20, 18, 12, 10, 9, 8] (v := undef) rfl (by kernel_rfl) (by kernel_rfl) (by kernel_rfl) (by kernel_rfl) rfl (by kernel_rfl) (fun _ _ _ h => h) (Or.inr ⟨by rfl, rfl⟩) (by assumption) ?_))
      (try simp only [Act.put, List.setIfInBounds_toArray, List.set_cons_zero, List.set_cons_succ])
      (first | (refine RegK.take 8 [20, 18, 12, 10, 9] (v := ?_) rfl (by kernel_rfl) (by kernel_rfl) (by kernel_rfl) (by kernel_rfl) rfl (by kernel_rfl) (fun _ _ _ h => h) (Or.inl ⟨by rfl, ?_⟩) (by assumption) ?_; rotate_left; (focus ((intro W hSW; (try dsimp only at hSW); (try go_split_ands); go_simp; (try (with_reducible rfl)); done)))) | (refine RegK.take 8 [20, 18, 12, 10, 9] (v := undef) rfl (by kernel_rfl) (by kernel_rfl) (by kernel_rfl) (by kernel_rfl) rfl (by kernel_rfl) (fun _ _ _ h => h) (Or.inr ⟨by rfl, rfl⟩) (by assumption) ?_))
      (try simp only [Act.put, List.setIfInBounds_toArray, List.set_cons_zero, List.set_cons_succ])
      (first | (refine RegK.take 9 [20, 18, 12, 10] (v := ?_) rfl (by kernel_rfl) (by kernel_rfl) (by kernel_rfl) (by kernel_rfl) rfl (by kernel_rfl) (fun _ _ _ h => h) (Or.inl ⟨by rfl, ?_⟩) (by assumption) ?_; rotate_left; (focus ((intro W hSW; (try dsimp only at hSW); (try go_split_ands); go_simp; (try (with_reducible rfl)); done)))) | (refine RegK.take 9 [20, 18, 12, 10] (v := undef) rfl (by kernel_rfl) (by kernel_rfl) (by kernel_rfl) (by kernel_rfl) rfl (by kernel_rfl) (fun _ _ _ h => h) (Or.inr ⟨by rfl, rfl⟩) (by assumption) ?_))
      (try simp only [Act.put, List.setIfInBounds_toArray, List.set_cons_zero, List.set_cons_succ])
      (first | (refine RegK.take 10 [20, 18, 12] (v := ?_) rfl (by kernel_rfl) (by kernel_rfl) (by kernel_rfl) (by kernel_rfl) rfl (by kernel_rfl) (fun _ _ _ h => h) (Or.inl ⟨by rfl, ?_⟩) (by assumption) ?_; rotate_left; (focus ((intro W hSW; (try dsimp only at hSW); (try go_split_ands); go_simp; (try (with_reducible rfl)); done)))) | (refine RegK.take 10 [20, 18, 12] (v := undef) rfl (by kernel_rfl) (by kernel_rfl) (by kernel_rfl) (by kernel_rfl) rfl (by kernel_rfl) (fun _ _ _ h => h) (Or.inr ⟨by rfl, rfl⟩) (by assumption) ?_))
      (try simp only [Act.put, List.setIfInBounds_toArray, List.set_cons_zero, List.set_cons_succ])
      (first | (refine RegK.take 11 [20, 18, 12] (v := ?_) rfl (by kernel_rfl) (by kernel_rfl) (by kernel_rfl) (by kernel_rfl) rfl (by kernel_rfl) (fun _ _ _ h => h) (Or.inl ⟨by rfl, ?_⟩) (by assumption) ?_; rotate_left; (focus ((intro W hSW; (try dsimp only at hSW); (try go_split_ands); go_simp; (try (with_reducible rfl)); done)))) | (refine RegK.take 11 [20, 18, 12] (v := undef) rfl (by kernel_rfl) (by kernel_rfl) (by kernel_rfl) (by kernel_rfl) rfl (by kernel_rfl) (fun _ _ _ h => h) (Or.inr ⟨by rfl, rfl⟩) (by assumption) ?_))
      (try simp only [Act.put, List.setIfInBounds_toArray, List.set_cons_zero, List.set_cons_succ])
      (first | (refine RegK.take 12 [20, 18] (v := ?_) rfl (by kernel_rfl) (by kernel_rfl) (by kernel_rfl) (by kernel_rfl) rfl (by kernel_rfl) (fun _ _ _ h => h) (Or.inl ⟨by rfl, ?_⟩) (by assumption) ?_; rotate_left; (focus ((intro W hSW; (try dsimp only at hSW); (try go_split_ands); go_simp; (try (with_reducible rfl)); done)))) | (refine RegK.take 12 [20, 18] (v := undef) rfl (by kernel_rfl) (by kernel_rfl) (by kernel_rfl) (by kernel_rfl) rfl (by kernel_rfl) (fun _ _ _ h => h) (Or.inr ⟨by rfl, rfl⟩) (by assumption) ?_))
      (try simp only [Act.put, List.setIfInBounds_toArray, List.set_cons_zero, List.set_cons_succ])
      (first | (refine RegK.take 13 [20, 18, 17, 16, 15] (v := ?_) rfl (by kernel_rfl) (by kernel_rfl) (by kernel_rfl) (by kernel_rfl) rfl (by kernel_rfl) (fun _ _ _ h => h) (Or.inl ⟨by rfl, ?_⟩) (by assumption) ?_; rotate_left; (focus ((intro W hSW; (try dsimp only at hSW); (try go_split_ands); go_simp; (try (with_reducible rfl)); done)))) | (refine RegK.take 13 [20, 18, 17, 16, 15] (v := undef) rfl (by kernel_rfl) (by kernel_rfl) (by kernel_rfl) (by kernel_rfl) rfl (by kernel_rfl) (fun _ _ _ h => h) (Or.inr ⟨by rfl, rfl⟩) (by assumption) ?_))
      (try simp only [Act.put, List.setIfInBounds_toArray, List.set_cons_zero, List.set_cons_succ])
      (first | (refine RegK.take 14 [20, 18, 17, 16, 15] (v := ?_) rfl (by kernel_rfl) (by kernel_rfl) (by kernel_rfl) (by kernel_rfl) rfl (by kernel_rfl) (fun _ _ _ h => h) (Or.inl ⟨by rfl, ?_⟩) (by assumption) ?_; rotate_left; (focus ((intro W hSW; (try dsimp only at hSW); (try go_split_ands); go_simp; (try (with_reducible rfl)); done)))) | (refine RegK.take 14 [20, 18, 17, 16, 15] (v := undef) rfl (by kernel_rfl) (by kernel_rfl) (by kernel_rfl) (by kernel_rfl) rfl (by kernel_rfl) (fun _ _ _ h => h) (Or.inr ⟨by rfl, rfl⟩) (by assumption) ?_))
      (try simp only [Act.put, List.setIfInBounds_toArray, List.set_cons_zero, List.set_cons_succ])
      (first | (refine RegK.take 15 [20, 18, 17, 16] (v := ?_) rfl (by kernel_rfl) (by kernel_rfl) (by kernel_rfl) (by kernel_rfl) rfl (by kernel_rfl) (fun _ _ _ h => h) (Or.inl ⟨by rfl, ?_⟩) (by assumption) ?_; rotate_left; (focus ((intro W hSW; (try dsimp only at hSW); (try go_split_ands); go_simp; (try (with_reducible rfl)); done)))) | (refine RegK.take 15 [20, 18, 17, 16] (v := undef) rfl (by kernel_rfl) (by kernel_rfl) (by kernel_rfl) (by kernel_rfl) rfl (by kernel_rfl) (fun _ _ _ h => h) (Or.inr ⟨by rfl, rfl⟩) (by assumption) ?_))
      (try simp only [Act.put, List.setIfInBounds_toArray, List.set_cons_zero, List.set_cons_succ])
      (first | (refine RegK.take 16 [20, 18, 17] (v := ?_) rfl (by kernel_rfl) (by kernel_rfl) (by kernel_rfl) (by kernel_rfl) rfl (by kernel_rfl) (fun _ _ _ h => h) (Or.inl ⟨by rfl, ?_⟩) (by assumption) ?_; rotate_left; (focus ((intro W hSW; (try dsimp only at hSW); (try go_split_ands); go_simp; (try (with_reducible rfl)); done)))) | (refine RegK.take 16 [20, 18, 17] (v := undef) rfl (by kernel_rfl) (by kernel_rfl) (by kernel_rfl) (by kernel_rfl) rfl (by kernel_rfl) (fun _ _ _ h => h) (Or.inr ⟨by rfl, rfl⟩) (by assumption) ?_))
      (try simp only [Act.put, List.setIfInBounds_toArray, List.set_cons_zero, List.set_cons_succ])
      refine RegK.step 17 rfl (by kernel_rfl) (by rfl) (fun K hK => ?_)
      go_simp
      refine (HE w5).out.mono ?_
      rintro e' w6 ⟨rfl, hb⟩
      have L6 := Lib.hid (L5.out.trans (hb.mono (Nat.le_trans HBS.out L5.out.size)))
      have M6 := Lib.hid (M5.out.trans (hb.mono M5.out.size))
      clear hb L5 M5
      refine hK.out _ _ (fun _ => HS _ M6.out) ?_
      clear hHeld
      have hHeld := HS _ M6.out
      clear hK K
      (try simp only [Act.put, List.setIfInBounds_toArray, List.set_cons_zero, List.set_cons_succ])
      refine RegK.step 18 rfl (by kernel_rfl) (by rfl) (fun K hK => ?_)
      go_simp
      refine (HCUT w6).out.mono ?_
      rintro e' w7 ⟨rfl, hb⟩
      have L7 := Lib.hid (L6.out.trans (hb.mono (Nat.le_trans HBS.out L6.out.size)))
      have M7 := Lib.hid (M6.out.trans (hb.mono M6.out.size))
      clear hb L6 M6
      refine hK.out _ _ (fun _ => HS _ M7.out) ?_
      clear hHeld
      have hHeld := HS _ M7.out
      clear hK K
      (try simp only [Act.put, List.setIfInBounds_toArray, List.set_cons_zero, List.set_cons_succ])
      (first | (refine RegK.take 19 [20] (v := ?_) rfl (by kernel_rfl) (by kernel_rfl) (by kernel_rfl) (by kernel_rfl) rfl (by kernel_rfl) (fun _ _ _ h => h) (Or.inl ⟨by rfl, ?_⟩) (by assumption) ?_; rotate_left; (focus ((intro W hSW; (try dsimp only at hSW); (try go_split_ands); go_simp; (try (with_reducible rfl)); done)))) | (refine RegK.take 19 [20] (v := undef) rfl (by kernel_rfl) (by kernel_rfl) (by kernel_rfl) (by kernel_rfl) rfl (by kernel_rfl) (fun _ _ _ h => h) (Or.inr ⟨by rfl, rfl⟩) (by assumption) ?_))
      (try simp only [Act.put, List.setIfInBounds_toArray, List.set_cons_zero, List.set_cons_succ])
      obtain ⟨⟨n0, n1, n2, n3, n4⟩, m6⟩ := hHeld
      have OW := Lib.hid (OwnsL.below O4.out M7.out)
      obtain ⟨f0, f1, f2, f3, f4⟩ := OwnsL.frozen5 OW.out j
      refine RegK.step 20 rfl (by kernel_rfl) (by rfl) (fun K hK => ?_)
      go_simp
      refine hK.out _ _ (fun h => absurd rfl h) ?_
      clear hK K
      (try simp only [Act.put, List.setIfInBounds_toArray, List.set_cons_zero, List.set_cons_succ])
      refine RegK.done (by kernel_rfl) ?_ _
      have HC1 : Hid (MayX (cutE y (max y.lba a) y.en)) := by
        have h1 := clip_may (a := a) (b := y.en) HYM.out HTY.out.1 (en_lt HYM.out) HTY.out.1
        unfold clip at h1
        rw [show min y.en y.en = y.en by omega] at h1
        exact h1
      have O5 := Lib.hid (OwnsL.put5 OW.out HYO.out (cutE y (max y.lba a) y.en))
      have hset : (out ++ mid).set j (cutE y (max y.lba a) y.en) = out ++ mid.set 0 (cutE y (max y.lba a) y.en) := by
        have := set_out out mid 0 (cutE y (max y.lba a) y.en)
        rwa [hjo.out, Nat.add_zero] at this
      rw [hset] at O5
      have BG5 := Lib.hid ((But.of_below M7.out).trans (But.set5 w7 g (j * 5) (j * 5 + 1) (j * 5 + 2) (j * 5 + 3) (j * 5 + 4) (.int .i64 (cutE y (max y.lba a) y.en).lba) (.int .i64 (cutE y (max y.lba a) y.en).n) (.int .i64 (cutE y (max y.lba a) y.en).ver) (.int .i64 (cutE y (max y.lba a) y.en).zone) (.int .i64 (cutE y (max y.lba a) y.en).off)))
      have LB5 := Lib.hid (below5 L7.out HGE.out (j * 5) (j * 5 + 1) (j * 5 + 2) (j * 5 + 3) (j * 5 + 4) (.int .i64 (cutE y (max y.lba a) y.en).lba) (.int .i64 (cutE y (max y.lba a) y.en).n) (.int .i64 (cutE y (max y.lba a) y.en).ver) (.int .i64 (cutE y (max y.lba a) y.en).zone) (.int .i64 (cutE y (max y.lba a) y.en).off))
      have BY7 := Lib.hid (Cells.other5 (Cells.below BX7.out M7.out) HNE.out.2 (j * 5) (j * 5 + 1) (j * 5 + 2) (j * 5 + 3) (j * 5 + 4) (.int .i64 (cutE y (max y.lba a) y.en).lba) (.int .i64 (cutE y (max y.lba a) y.en).n) (.int .i64 (cutE y (max y.lba a) y.en).ver) (.int .i64 (cutE y (max y.lba a) y.en).zone) (.int .i64 (cutE y (max y.lba a) y.en).off))
      clear n0 n1 n2 n3 n4 m6 f0 f1 f2 f3 f4 hset OW HE HCUT hmax L7 M7 BX6 BX7 O4 G4 Z4
      generalize HCY : cutE y (max y.lba a) y.en = c1 at *
      generalize ((((w7.setCell ⟨g, j * 5, none⟩ (.int .i64 c1.lba)).setCell ⟨g, j * 5 + 1, none⟩ (.int .i64 c1.n)).setCell ⟨g, j * 5 + 2, none⟩ (.int .i64 c1.ver)).setCell ⟨g, j * 5 + 3, none⟩ (.int .i64 c1.zone)).setCell ⟨g, j * 5 + 4, none⟩ (.int .i64 c1.off) = w20 at *
      have HCY2 := Lib.hid HCY
      clear HCY
      obtain ⟨z, hz⟩ : ∃ z, (mid.set 0 c1)[k]? = some z := ⟨_, List.getElem?_eq_getElem (by rw [List.length_set]; have := HMID.out; omega)⟩
      have hzo : (out ++ mid.set 0 c1)[j + k]? = some z := by rw [← hjo.out, get_out]; exact hz
      have HZM : Hid (MayX z) := by
        rcases List.mem_or_eq_of_mem_set (List.mem_of_getElem? hz) with h | h
        · exact HMO.out.may z h
        · rw [h]; exact HC1.out
      have HFIX : Hid ((mid.set 0 c1).set k (cutE z z.lba (min z.en b)) = clips a b l) := by
        show _ = _
        rw [HCL.out]
        have h1 := HCY2.out
        subst h1
        exact fix_mid HMO.out HTO.out HMID.out HY.out hz
      have hset : (out ++ mid.set 0 c1).set (j + k) (cutE z z.lba (min z.en b)) = out ++ clips a b l := by rw [← hjo.out, set_out, HFIX.out]
      have HSET := Lib.hid hset
      have HZO := Lib.hid hzo
      rw [← HJ.out.1] at HZO HSET
      clear hset hz hzo
      have hmin := run_min2 (x := z.en) (y := b)
      have HE := fun w => Lib.hid (end_any z HZM.out w)
      have HCUT := fun w => Lib.hid (cut_any z z.lba (min z.en b) HZM.out HZM.out.1 (by have := en_lt HZM.out; have := en_le HZM.out; omega) (by have := en_lt HZM.out; have := HZM.out.1; have := HAB.out; omega) (by have := en_le HZM.out; omega) w)
      have L20 : Hid (Below base w w20) := LB5.out
      have M20 : Hid (Below w20.heap.size w20 w20) := Below.refl _ _
      have HS := fun W (hW : Below w20.heap.size w20 W) => And.intro (OwnsL.cells_at (OwnsL.below O5.out hW) HZO.out) (OneBox.cells (Cells.below BY7.out hW))
      go_upto_region 10 with fail
      have L21 := Lib.hid (L20.out.drew)
      have M21 := Lib.hid (M20.out.drew)
      refine RegK.start (S := fun W => (W.cell? ⟨g, J * 5, none⟩ = some (.int .i64 z.lba) ∧ W.cell? ⟨g, J * 5 + 1, none⟩ = some (.int .i64 z.n) ∧ W.cell? ⟨g, J * 5 + 2, none⟩ = some (.int .i64 z.ver) ∧ W.cell? ⟨g, J * 5 + 3, none⟩ = some (.int .i64 z.zone) ∧ W.cell? ⟨g, J * 5 + 4, none⟩ = some (.int .i64 z.off)) ∧ W.cell? ⟨w.heap.size + 2, 0, none⟩ = some (.int .i64 b)) 20 (by kernel_rfl) (HS _ M21.out) (fun hHeld => ?_)
      generalize w20.drew = w21 at *
      clear L20 M20
      (first | (refine RegK.take 0 [20, 19] (v := ?_) rfl (by kernel_rfl) (by kernel_rfl) (by kernel_rfl) (by kernel_rfl) rfl (by kernel_rfl) (fun _ _ _ h => h) (Or.inl ⟨by rfl, ?_⟩) (by assumption) ?_; rotate_left; (focus ((intro W hSW; (try dsimp only at hSW); (try go_split_ands); go_simp; (try (with_reducible rfl)); done)))) | (refine RegK.take 0 [20, 19] (v := undef) rfl (by kernel_rfl) (by kernel_rfl) (by kernel_rfl) (by kernel_rfl) rfl (by kernel_rfl) (fun _ _ _ h => h) (Or.inr ⟨by rfl, rfl⟩) (by assumption) ?_))
      (try simp only [Act.put, List.setIfInBounds_toArray, List.set_cons_zero, List.set_cons_succ])
      (first | (refine RegK.take 1 [20, 19] (v := ?_) rfl (by kernel_rfl) (by kernel_rfl) (by kernel_rfl) (by kernel_rfl) rfl (by kernel_rfl) (fun _ _ _ h => h) (Or.inl ⟨by rfl, ?_⟩) (by assumption) ?_; rotate_left; (focus ((intro W hSW; (try dsimp only at hSW); (try go_split_ands); go_simp; (try (with_reducible rfl)); done)))) | (refine RegK.take 1 [20, 19] (v := undef) rfl (by kernel_rfl) (by kernel_rfl) (by kernel_rfl) (by kernel_rfl) rfl (by kernel_rfl) (fun _ _ _ h => h) (Or.inr ⟨by rfl, rfl⟩) (by assumption) ?_))
      (try simp only [Act.put, List.setIfInBounds_toArray, List.set_cons_zero, List.set_cons_succ])
      (first | (refine RegK.take 2 [20, 18, 5, 4] (v := ?_) rfl (by kernel_rfl) (by kernel_rfl) (by kernel_rfl) (by kernel_rfl) rfl (by kernel_rfl) (fun _ _ _ h => h) (Or.inl ⟨by rfl, ?_⟩) (by assumption) ?_; rotate_left; (focus ((intro W hSW; (try dsimp only at hSW); (try go_split_ands); go_simp; (try (with_reducible rfl)); done)))) | (refine RegK.take 2 [20, 18, 5, 4] (v := undef) rfl (by kernel_rfl) (by kernel_rfl) (by kernel_rfl) (by kernel_rfl) rfl (by kernel_rfl) (fun _ _ _ h => h) (Or.inr ⟨by rfl, rfl⟩) (by assumption) ?_))
      (try simp only [Act.put, List.setIfInBounds_toArray, List.set_cons_zero, List.set_cons_succ])
      (first | (refine RegK.take 3 [20, 18, 5, 4] (v := ?_) rfl (by kernel_rfl) (by kernel_rfl) (by kernel_rfl) (by kernel_rfl) rfl (by kernel_rfl) (fun _ _ _ h => h) (Or.inl ⟨by rfl, ?_⟩) (by assumption) ?_; rotate_left; (focus ((intro W hSW; (try dsimp only at hSW); (try go_split_ands); go_simp; (try (with_reducible rfl)); done)))) | (refine RegK.take 3 [20, 18, 5, 4] (v := undef) rfl (by kernel_rfl) (by kernel_rfl) (by kernel_rfl) (by kernel_rfl) rfl (by kernel_rfl) (fun _ _ _ h => h) (Or.inr ⟨by rfl, rfl⟩) (by assumption) ?_))
      (try simp only [Act.put, List.setIfInBounds_toArray, List.set_cons_zero, List.set_cons_succ])
      (first | (refine RegK.take 4 [20, 18, 5] (v := ?_) rfl (by kernel_rfl) (by kernel_rfl) (by kernel_rfl) (by kernel_rfl) rfl (by kernel_rfl) (fun _ _ _ h => h) (Or.inl ⟨by rfl, ?_⟩) (by assumption) ?_; rotate_left; (focus ((intro W hSW; (try dsimp only at hSW); (try go_split_ands); go_simp; (try (with_reducible rfl)); done)))) | (refine RegK.take 4 [20, 18, 5] (v := undef) rfl (by kernel_rfl) (by kernel_rfl) (by kernel_rfl) (by kernel_rfl) rfl (by kernel_rfl) (fun _ _ _ h => h) (Or.inr ⟨by rfl, rfl⟩) (by assumption) ?_))
      (try simp only [Act.put, List.setIfInBounds_toArray, List.set_cons_zero, List.set_cons_succ])
      (first | (refine RegK.take 5 [20, 18] (v := ?_) rfl (by kernel_rfl) (by kernel_rfl) (by kernel_rfl) (by kernel_rfl) rfl (by kernel_rfl) (fun _ _ _ h => h) (Or.inl ⟨by rfl, ?_⟩) (by assumption) ?_; rotate_left; (focus ((intro W hSW; (try dsimp only at hSW); (try go_split_ands); go_simp; (try (with_reducible rfl)); done)))) | (refine RegK.take 5 [20, 18] (v := undef) rfl (by kernel_rfl) (by kernel_rfl) (by kernel_rfl) (by kernel_rfl) rfl (by kernel_rfl) (fun _ _ _ h => h) (Or.inr ⟨by rfl, rfl⟩) (by assumption) ?_))
      (try simp only [Act.put, List.setIfInBounds_toArray, List.set_cons_zero, List.set_cons_succ])
      (first | (refine RegK.take 6 [20, 18, 10, 9, 8] (v := ?_) rfl (by kernel_rfl) (by kernel_rfl) (by kernel_rfl) (by kernel_rfl) rfl (by kernel_rfl) (fun _ _ _ h => h) (Or.inl ⟨by rfl, ?_⟩) (by assumption) ?_; rotate_left; (focus ((intro W hSW; (try dsimp only at hSW); (try go_split_ands); go_simp; (try (with_reducible rfl)); done)))) | (refine RegK.take 6 [20, 18, 10, 9, 8] (v := undef) rfl (by kernel_rfl) (by kernel_rfl) (by kernel_rfl) (by kernel_rfl) rfl (by kernel_rfl) (fun _ _ _ h => h) (Or.inr ⟨by rfl, rfl⟩) (by assumption) ?_))
      (try simp only [Act.put, List.setIfInBounds_toArray, List.set_cons_zero, List.set_cons_succ])
      (first | (refine RegK.take 7 [20, 18, 10, 9, 8] (v := ?_) rfl (by kernel_rfl) (by kernel_rfl) (by kernel_rfl) (by kernel_rfl) rfl (by kernel_rfl) (fun _ _ _ h => h) (Or.inl ⟨by rfl, ?_⟩) (by assumption) ?_; rotate_left; (focus ((intro W hSW; (try dsimp only at hSW); (try go_split_ands); go_simp; (try (with_reducible rfl)); done)))) | (refine RegK.take 7 [20, 18, 10, 9, 8] (v := undef) rfl (by kernel_rfl) (by kernel_rfl) (by kernel_rfl) (by kernel_rfl) rfl (by kernel_rfl) (fun _ _ _ h => h) (Or.inr ⟨by rfl, rfl⟩) (by assumption) ?_))
      (try simp only [Act.put, List.setIfInBounds_toArray, List.set_cons_zero, List.set_cons_succ])
      (first | (refine RegK.take 8 [20, 18, 10, 9] (v := ?_) rfl (by kernel_rfl) (by kernel_rfl) (by kernel_rfl) (by kernel_rfl) rfl (by kernel_rfl) (fun _ _ _ h => h) (Or.inl ⟨by rfl, ?_⟩) (by assumption) ?_; rotate_left; (focus ((intro W hSW; (try dsimp only at hSW); (try go_split_ands); go_simp; (try (with_reducible rfl)); done)))) | (refine RegK.take 8 [20, 18, 10, 9] (v := undef) rfl (by kernel_rfl) (by kernel_rfl) (by kernel_rfl) (by kernel_rfl) rfl (by kernel_rfl) (fun _ _ _ h => h) (Or.inr ⟨by rfl, rfl⟩) (by assumption) ?_))
      (try simp only [Act.put, List.setIfInBounds_toArray, List.set_cons_zero, List.set_cons_succ])
      (first | (refine RegK.take 9 [20, 18, 10] (v := ?_) rfl (by kernel_rfl) (by kernel_rfl) (by kernel_rfl) (by kernel_rfl) rfl (by kernel_rfl) (fun _ _ _ h => h) (Or.inl ⟨by rfl, ?_⟩) (by assumption) ?_; rotate_left; (focus ((intro W hSW; (try dsimp only at hSW); (try go_split_ands); go_simp; (try (with_reducible rfl)); done)))) | (refine RegK.take 9 [20, 18, 10] (v := undef) rfl (by kernel_rfl) (by kernel_rfl) (by kernel_rfl) (by kernel_rfl) rfl (by kernel_rfl) (fun _ _ _ h => h) (Or.inr ⟨by rfl, rfl⟩) (by assumption) ?_))
      (try simp only [Act.put, List.setIfInBounds_toArray, List.set_cons_zero, List.set_cons_succ])
      (first | (refine RegK.take 10 [20, 18] (v := ?_) rfl (by kernel_rfl) (by kernel_rfl) (by kernel_rfl) (by kernel_rfl) rfl (by kernel_rfl) (fun _ _ _ h => h) (Or.inl ⟨by rfl, ?_⟩) (by assumption) ?_; rotate_left; (focus ((intro W hSW; (try dsimp only at hSW); (try go_split_ands); go_simp; (try (with_reducible rfl)); done)))) | (refine RegK.take 10 [20, 18] (v := undef) rfl (by kernel_rfl) (by kernel_rfl) (by kernel_rfl) (by kernel_rfl) rfl (by kernel_rfl) (fun _ _ _ h => h) (Or.inr ⟨by rfl, rfl⟩) (by assumption) ?_))
      (try simp only [Act.put, List.setIfInBounds_toArray, List.set_cons_zero, List.set_cons_succ])
      (first | (refine RegK.take 11 [20, 18, 17, 15, 14, 13] (v := ?_) rfl (by kernel_rfl) (by kernel_rfl) (by kernel_rfl) (by kernel_rfl) rfl (by kernel_rfl) (fun _ _ _ h => h) (Or.inl ⟨by rfl, ?_⟩) (by assumption) ?_; rotate_left; (focus ((intro W hSW; (try dsimp only at hSW); (try go_split_ands); go_simp; (try (with_reducible rfl)); done)))) | (refine RegK.take 11 [20, 18, 17, 15, 14, 13] (v := undef) rfl (by kernel_rfl) (by kernel_rfl) (by kernel_rfl) (by kernel_rfl) rfl (by kernel_rfl) (fun _ _ _ h => h) (Or.inr ⟨by rfl, rfl⟩) (by assumption) ?_))
      (try simp only [Act.put, List.setIfInBounds_toArray, List.set_cons_zero, List.set_cons_succ])
      (first | (refine RegK.take 12 [20, 18, 17, 15, 14, 13] (v := ?_) rfl (by kernel_rfl) (by kernel_rfl) (by kernel_rfl) (by kernel_rfl) rfl (by kernel_rfl) (fun _ _ _ h => h) (Or.inl ⟨by rfl, ?_⟩) (by assumption) ?_; rotate_left; (focus ((intro W hSW; (try dsimp only at hSW); (try go_split_ands); go_simp; (try (with_reducible rfl)); done)))) | (refine RegK.take 12 [20, 18, 17, 15, 14, 13] (v := undef) rfl (by kernel_rfl) (by kernel_rfl) (by kernel_rfl) (by kernel_rfl) rfl (by kernel_rfl) (fun _ _ _ h => h) (Or.inr ⟨by rfl, rfl⟩) (by assumption) ?_))
      (try simp only [Act.put, List.setIfInBounds_toArray, List.set_cons_zero, List.set_cons_succ])
      (first | (refine RegK.take 13 [20, 18, 17, 15, 14] (v := ?_) rfl (by kernel_rfl) (by kernel_rfl) (by kernel_rfl) (by kernel_rfl) rfl (by kernel_rfl) (fun _ _ _ h => h) (Or.inl ⟨by rfl, ?_⟩) (by assumption) ?_; rotate_left; (focus ((intro W hSW; (try dsimp only at hSW); (try go_split_ands); go_simp; (try (with_reducible rfl)); done)))) | (refine RegK.take 13 [20, 18, 17, 15, 14] (v := undef) rfl (by kernel_rfl) (by kernel_rfl) (by kernel_rfl) (by kernel_rfl) rfl (by kernel_rfl) (fun _ _ _ h => h) (Or.inr ⟨by rfl, rfl⟩) (by assumption) ?_))
      (try simp only [Act.put, List.setIfInBounds_toArray, List.set_cons_zero, List.set_cons_succ])
      (first | (refine RegK.take 14 [20, 18, 17, 15] (v := ?_) rfl (by kernel_rfl) (by kernel_rfl) (by kernel_rfl) (by kernel_rfl) rfl (by kernel_rfl) (fun _ _ _ h => h) (Or.inl ⟨by rfl, ?_⟩) (by assumption) ?_; rotate_left; (focus ((intro W hSW; (try dsimp only at hSW); (try go_split_ands); go_simp; (try (with_reducible rfl)); done)))) | (refine RegK.take 14 [20, 18, 17, 15] (v := undef) rfl (by kernel_rfl) (by kernel_rfl) (by kernel_rfl) (by kernel_rfl) rfl (by kernel_rfl) (fun _ _ _ h => h) (Or.inr ⟨by rfl, rfl⟩) (by assumption) ?_))
      (try simp only [Act.put, List.setIfInBounds_toArray, List.set_cons_zero, List.set_cons_succ])
      (first | (refine RegK.take 16 [20, 18, 17] (v := ?_) rfl (by kernel_rfl) (by kernel_rfl) (by kernel_rfl) (by kernel_rfl) rfl (by kernel_rfl) (fun _ _ _ h => h) (Or.inl ⟨by rfl, ?_⟩) (by assumption) ?_; rotate_left; (focus ((intro W hSW; (try dsimp only at hSW); (try go_split_ands); go_simp; (try (with_reducible rfl)); done)))) | (refine RegK.take 16 [20, 18, 17] (v := undef) rfl (by kernel_rfl) (by kernel_rfl) (by kernel_rfl) (by kernel_rfl) rfl (by kernel_rfl) (fun _ _ _ h => h) (Or.inr ⟨by rfl, rfl⟩) (by assumption) ?_))
      (try simp only [Act.put, List.setIfInBounds_toArray, List.set_cons_zero, List.set_cons_succ])
      refine RegK.step 15 rfl (by kernel_rfl) (by rfl) (fun K hK => ?_)
      go_simp
      refine (HE w21).out.mono ?_
      rintro e' w22 ⟨rfl, hb⟩
      have L22 := Lib.hid (L21.out.trans (hb.mono (Nat.le_trans HBS.out L21.out.size)))
      have M22 := Lib.hid (M21.out.trans (hb.mono M21.out.size))
      clear hb L21 M21
      refine hK.out _ _ (fun _ => HS _ M22.out) ?_
      clear hHeld
      have hHeld := HS _ M22.out
      clear hK K
      (try simp only [Act.put, List.setIfInBounds_toArray, List.set_cons_zero, List.set_cons_succ])
      (first | (refine RegK.take 17 [20, 18] (v := ?_) rfl (by kernel_rfl) (by kernel_rfl) (by kernel_rfl) (by kernel_rfl) rfl (by kernel_rfl) (fun _ _ _ h => h) (Or.inl ⟨by rfl, ?_⟩) (by assumption) ?_; rotate_left; (focus ((intro W hSW; (try dsimp only at hSW); (try go_split_ands); go_simp; (try (with_reducible rfl)); done)))) | (refine RegK.take 17 [20, 18] (v := undef) rfl (by kernel_rfl) (by kernel_rfl) (by kernel_rfl) (by kernel_rfl) rfl (by kernel_rfl) (fun _ _ _ h => h) (Or.inr ⟨by rfl, rfl⟩) (by assumption) ?_))
      (try simp only [Act.put, List.setIfInBounds_toArray, List.set_cons_zero, List.set_cons_succ])
      refine RegK.step 18 rfl (by kernel_rfl) (by rfl) (fun K hK => ?_)
      go_simp
      refine (HCUT w22).out.mono ?_
      rintro e' w23 ⟨rfl, hb⟩
      have L23 := Lib.hid (L22.out.trans (hb.mono (Nat.le_trans HBS.out L22.out.size)))
      have M23 := Lib.hid (M22.out.trans (hb.mono M22.out.size))
      clear hb L22 M22
      refine hK.out _ _ (fun _ => HS _ M23.out) ?_
      clear hHeld
      have hHeld := HS _ M23.out
      clear hK K
      (try simp only [Act.put, List.setIfInBounds_toArray, List.set_cons_zero, List.set_cons_succ])
      (first | (refine RegK.take 19 [20] (v := ?_) rfl (by kernel_rfl) (by kernel_rfl) (by kernel_rfl) (by kernel_rfl) rfl (by kernel_rfl) (fun _ _ _ h => h) (Or.inl ⟨by rfl, ?_⟩) (by assumption) ?_; rotate_left; (focus ((intro W hSW; (try dsimp only at hSW); (try go_split_ands); go_simp; (try (with_reducible rfl)); done)))) | (refine RegK.take 19 [20] (v := undef) rfl (by kernel_rfl) (by kernel_rfl) (by kernel_rfl) (by kernel_rfl) rfl (by kernel_rfl) (fun _ _ _ h => h) (Or.inr ⟨by rfl, rfl⟩) (by assumption) ?_))
      (try simp only [Act.put, List.setIfInBounds_toArray, List.set_cons_zero, List.set_cons_succ])
      obtain ⟨⟨n0, n1, n2, n3, n4⟩, m7⟩ := hHeld
      have OW := Lib.hid (OwnsL.below O5.out M23.out)
      obtain ⟨f0, f1, f2, f3, f4⟩ := OwnsL.frozen5 OW.out J
      refine RegK.step 20 rfl (by kernel_rfl) (by rfl) (fun K hK => ?_)
      go_simp
      refine hK.out _ _ (fun h => absurd rfl h) ?_
      clear hK K
      (try simp only [Act.put, List.setIfInBounds_toArray, List.set_cons_zero, List.set_cons_succ])
      refine RegK.done (by kernel_rfl) ?_ _
      have O6 := Lib.hid (OwnsL.put5 OW.out HZO.out (cutE z z.lba (min z.en b)))
      rw [HSET.out] at O6
      have BG6 := Lib.hid (BG5.out.trans ((But.of_below M23.out).trans (But.set5 w23 g (J * 5) (J * 5 + 1) (J * 5 + 2) (J * 5 + 3) (J * 5 + 4) (.int .i64 (cutE z z.lba (min z.en b)).lba) (.int .i64 (cutE z z.lba (min z.en b)).n) (.int .i64 (cutE z z.lba (min z.en b)).ver) (.int .i64 (cutE z z.lba (min z.en b)).zone) (.int .i64 (cutE z z.lba (min z.en b)).off))))
      have LB6 := Lib.hid (below5 L23.out HGE.out (J * 5) (J * 5 + 1) (J * 5 + 2) (J * 5 + 3) (J * 5 + 4) (.int .i64 (cutE z z.lba (min z.en b)).lba) (.int .i64 (cutE z z.lba (min z.en b)).n) (.int .i64 (cutE z z.lba (min z.en b)).ver) (.int .i64 (cutE z z.lba (min z.en b)).zone) (.int .i64 (cutE z z.lba (min z.en b)).off))
      clear n0 n1 n2 n3 n4 m7 f0 f1 f2 f3 f4 OW
      go_wp2_with fail
      go_ret
      refine ⟨⟨_, _, _, rfl, O6.out, fun k hk => ?_⟩, LB6.out, fun k hk hne => ?_⟩
      · have hk : some g = some k := hk
        injection hk with hk
        subst hk
        exact OWNG.out
      · have hkg : k ≠ g := fun e => by
          subst e
          rcases OWNG.out with h | h
          · exact hne h
          · omega
        exact (BG6.out.block (Nat.lt_of_lt_of_le hk W4S.out) hkg).trans (FR4.out k hk hne)
  · have hab := of_decide_eq_true e1
    have HC := Lib.hid (clips_none hab l)
    clear hab
    go_wp2_with fail
    go_ret
    exact ⟨⟨_, _, _, rfl, by rw [HC.out, List.append_nil]; exact OwnsL.low HO.out L1.out, fun k hk => .inl hk⟩, LB1.out, fun k hk _ => L1.out.block k hk⟩
end Ext
end Go.Proofs.Ytnnphpfobdcmbaa
