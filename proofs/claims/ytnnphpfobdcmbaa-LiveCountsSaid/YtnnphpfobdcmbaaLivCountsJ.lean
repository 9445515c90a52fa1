/-
  SEVERAL TEXTS IN ONE FILE: LivSortX, LivSortY, LivIn, LivCountsM, LivCounts, LivCountsRow.
-/
import Derived.Test.YtnnphpfobdcmbaaLivLay
import Derived.Test.YtnnphpfobdcmbaaLivInts
import Derived.Test.YtnnphpfobdcmbaaExtOwn
import Derived.Shelf.SlSortCmp.NoneTotal
import Derived.Shelf.Abstract
import Derived.Test.YtnnphpfobdcmbaaExtPut
import Derived.Sort.OwnSortedInts
import Derived.Test.YtnnphpfobdcmbaaLivMath
import Derived.Test.YtnnphpfobdcmbaaLivUp
import Derived.BigQuiet
import Derived.Deep.CutRange
import Derived.Test.YtnnphpfobdcmbaaLivCheck
import Derived.Test.YtnnphpfobdcmbaaZnsArgs
import Derived.Test.YtnnphpfobdcmbaaFrame
/-
  WALKS: live's order of extents (the closure of In), slices.SortFunc of a row of one's own extents.
-/
namespace Go.Proofs.Ytnnphpfobdcmbaa
open Go.RowKit Mem Ext Go.Shelf Go.Sort
namespace Liv

instance exInh : Inhabited Ext.Ex := ⟨⟨0, 0, 0, 0, 0⟩⟩
/-- By their places; those of one place by their blocks. -/
def cmpX (x y : Ext.Ex) : Int := orI (cmpI x.off y.off) (cmpI x.lba y.lba)
def ltX (x y : Ext.Ex) : Prop := x.off < y.off ∨ x.off = y.off ∧ x.lba < y.lba
theorem cmpX_lt (x y : Ext.Ex) : cmpX x y < 0 ↔ ltX x y := by
  unfold cmpX orI cmpI ltX
  rcases Int.lt_trichotomy x.off y.off with h | h | h
  · simp [h]
  · rcases Int.lt_trichotomy x.lba y.lba with k | k | k
    · simp [h, k]
    · simp [h, k]
    · have : ¬ x.lba < y.lba := by omega
      simp [h, k, this]
  · have h1 : ¬ x.off < y.off := by omega
    have h2 : ¬ x.off = y.off := by omega
    simp [h, h1, h2]
theorem ltX_of (x y : Ext.Ex) : ltOf cmpX x y = true ↔ ltX x y := by unfold ltOf; rw [decide_eq_true_eq, cmpX_lt]
theorem ltX_not (x y : Ext.Ex) : ltOf cmpX x y = false ↔ ¬ ltX x y := by rw [← ltX_of]; simp
theorem ltX_swo : SWO (ltOf cmpX) where
  irrefl x := by rw [ltX_not]; unfold ltX; omega
  trans x y z h1 h2 := by rw [ltX_of] at *; unfold ltX at *; omega
  ntrans x y z h1 h2 := by rw [ltX_not] at *; unfold ltX at *; omega

set_option maxRecDepth 100000 in
set_option maxHeartbeats 6400000 in
theorem in1_any (x y : Ext.Ex) (W : World) : Calls Try.prog 24 #[xv x, xv y] W fun e w' => e = .returned (.int .i64 (cmpX x y)) ∧ ∃ q os', w' = Go.Sort.grow (W.drewN q) os' := by
  obtain ⟨L1, B1, B2⟩ := two_boxes W x y
  have HC := fun a b w => Lib.hid (compare_any a b w)
  have HW1 : Hid ((W.alloc (.cells #[.int .i64 x.lba, .int .i64 x.n, .int .i64 x.ver, .int .i64 x.zone, .int .i64 x.off] 32)).alloc (.cells #[.int .i64 y.lba, .int .i64 y.n, .int .i64 y.ver, .int .i64 y.zone, .int .i64 y.off] 32) = Go.Sort.grow W #[.cells #[.int .i64 x.lba, .int .i64 x.n, .int .i64 x.ver, .int .i64 x.zone, .int .i64 x.off] 32, .cells #[.int .i64 y.lba, .int .i64 y.n, .int .i64 y.ver, .int .i64 y.zone, .int .i64 y.off] 32]) := by
    show _ = _
    rw [alloc_eq_grow, alloc_eq_grow, Go.Sort.grow_grow]; rfl
  unfold cmpX
  generalize ha : cmpI x.off y.off = a
  generalize hb : cmpI x.lba y.lba = b
  have HA := Lib.hid ha
  have HB := Lib.hid hb
  clear ha hb
  go_enter Try.func24, Try.ntmps24
  go_upto_region 1 with fail
  generalize (W.alloc (.cells #[.int .i64 x.lba, .int .i64 x.n, .int .i64 x.ver, .int .i64 x.zone, .int .i64 x.off] 32)).alloc (.cells #[.int .i64 y.lba, .int .i64 y.n, .int .i64 y.ver, .int .i64 y.zone, .int .i64 y.off] 32) = w1 at *
  have HS := fun V (hV : Below w1.heap.size w1 V) => (show _ ∧ _ ∧ _ ∧ _ from ⟨(LBox.cells (Ext.Cells.below B1.out hV)).1, (LBox.cells (Ext.Cells.below B1.out hV)).2.2.2.2, (LBox.cells (Ext.Cells.below B2.out hV)).1, (LBox.cells (Ext.Cells.below B2.out hV)).2.2.2.2⟩)
  have M1 : Hid (Below w1.heap.size w1 w1) := Below.refl _ _
  have M2 := Lib.hid (M1.out.drew)
  refine wp_region_held_drew (S := fun V => V.cell? ⟨W.heap.size, 0, none⟩ = some (.int .i64 x.lba) ∧ V.cell? ⟨W.heap.size, 4, none⟩ = some (.int .i64 x.off) ∧ V.cell? ⟨W.heap.size + 1, 0, none⟩ = some (.int .i64 y.lba) ∧ V.cell? ⟨W.heap.size + 1, 4, none⟩ = some (.int .i64 y.off)) (by kernel_rfl) (HS _ M2.out) (fun hHeld => ?_)
  have hD : Hid (w1.drew = Go.Sort.grow (w1.drewN 1) #[]) := by show _ = _; rw [Go.Sort.grow_empty]; rfl
  generalize w1.drew = w2 at *
  (first | (refine Reg.take 0 (v := ?_) rfl (by kernel_rfl) (by kernel_rfl) (by kernel_rfl) (fun _ _ _ h => h) (Or.inl ⟨by rfl, ?_⟩) (by assumption) ?_; rotate_left; (focus ((intro W hSW); (try dsimp only at hSW); (try go_split_ands); go_simp; (try (with_reducible rfl)); done))) | (refine Reg.take 0 (v := undef) rfl (by kernel_rfl) (by kernel_rfl) (by kernel_rfl) (fun _ _ _ h => h) (Or.inr ⟨by rfl, rfl⟩) (by assumption) ?_))
  (try simp only [Act.put, List.setIfInBounds_toArray, List.set_cons_zero, List.set_cons_succ])
  (first | (refine Reg.take 1 (v := ?_) rfl (by kernel_rfl) (by kernel_rfl) (by kernel_rfl) (fun _ _ _ h => h) (Or.inl ⟨by rfl, ?_⟩) (by assumption) ?_; rotate_left; (focus ((intro W hSW); (try dsimp only at hSW); (try go_split_ands); go_simp; (try (with_reducible rfl)); done))) | (refine Reg.take 1 (v := undef) rfl (by kernel_rfl) (by kernel_rfl) (by kernel_rfl) (fun _ _ _ h => h) (Or.inr ⟨by rfl, rfl⟩) (by assumption) ?_))
  (try simp only [Act.put, List.setIfInBounds_toArray, List.set_cons_zero, List.set_cons_succ])
  (first | (refine Reg.take 2 (v := ?_) rfl (by kernel_rfl) (by kernel_rfl) (by kernel_rfl) (fun _ _ _ h => h) (Or.inl ⟨by rfl, ?_⟩) (by assumption) ?_; rotate_left; (focus ((intro W hSW); (try dsimp only at hSW); (try go_split_ands); go_simp; (try (with_reducible rfl)); done))) | (refine Reg.take 2 (v := undef) rfl (by kernel_rfl) (by kernel_rfl) (by kernel_rfl) (fun _ _ _ h => h) (Or.inr ⟨by rfl, rfl⟩) (by assumption) ?_))
  (try simp only [Act.put, List.setIfInBounds_toArray, List.set_cons_zero, List.set_cons_succ])
  (first | (refine Reg.take 3 (v := ?_) rfl (by kernel_rfl) (by kernel_rfl) (by kernel_rfl) (fun _ _ _ h => h) (Or.inl ⟨by rfl, ?_⟩) (by assumption) ?_; rotate_left; (focus ((intro W hSW); (try dsimp only at hSW); (try go_split_ands); go_simp; (try (with_reducible rfl)); done))) | (refine Reg.take 3 (v := undef) rfl (by kernel_rfl) (by kernel_rfl) (by kernel_rfl) (fun _ _ _ h => h) (Or.inr ⟨by rfl, rfl⟩) (by assumption) ?_))
  (try simp only [Act.put, List.setIfInBounds_toArray, List.set_cons_zero, List.set_cons_succ])
  (first | (refine Reg.take 5 (v := ?_) rfl (by kernel_rfl) (by kernel_rfl) (by kernel_rfl) (fun _ _ _ h => h) (Or.inl ⟨by rfl, ?_⟩) (by assumption) ?_; rotate_left; (focus ((intro W hSW); (try dsimp only at hSW); (try go_split_ands); go_simp; (try (with_reducible rfl)); done))) | (refine Reg.take 5 (v := undef) rfl (by kernel_rfl) (by kernel_rfl) (by kernel_rfl) (fun _ _ _ h => h) (Or.inr ⟨by rfl, rfl⟩) (by assumption) ?_))
  (try simp only [Act.put, List.setIfInBounds_toArray, List.set_cons_zero, List.set_cons_succ])
  (first | (refine Reg.take 6 (v := ?_) rfl (by kernel_rfl) (by kernel_rfl) (by kernel_rfl) (fun _ _ _ h => h) (Or.inl ⟨by rfl, ?_⟩) (by assumption) ?_; rotate_left; (focus ((intro W hSW); (try dsimp only at hSW); (try go_split_ands); go_simp; (try (with_reducible rfl)); done))) | (refine Reg.take 6 (v := undef) rfl (by kernel_rfl) (by kernel_rfl) (by kernel_rfl) (fun _ _ _ h => h) (Or.inr ⟨by rfl, rfl⟩) (by assumption) ?_))
  (try simp only [Act.put, List.setIfInBounds_toArray, List.set_cons_zero, List.set_cons_succ])
  (first | (refine Reg.take 7 (v := ?_) rfl (by kernel_rfl) (by kernel_rfl) (by kernel_rfl) (fun _ _ _ h => h) (Or.inl ⟨by rfl, ?_⟩) (by assumption) ?_; rotate_left; (focus ((intro W hSW); (try dsimp only at hSW); (try go_split_ands); go_simp; (try (with_reducible rfl)); done))) | (refine Reg.take 7 (v := undef) rfl (by kernel_rfl) (by kernel_rfl) (by kernel_rfl) (fun _ _ _ h => h) (Or.inr ⟨by rfl, rfl⟩) (by assumption) ?_))
  (try simp only [Act.put, List.setIfInBounds_toArray, List.set_cons_zero, List.set_cons_succ])
  (first | (refine Reg.take 8 (v := ?_) rfl (by kernel_rfl) (by kernel_rfl) (by kernel_rfl) (fun _ _ _ h => h) (Or.inl ⟨by rfl, ?_⟩) (by assumption) ?_; rotate_left; (focus ((intro W hSW); (try dsimp only at hSW); (try go_split_ands); go_simp; (try (with_reducible rfl)); done))) | (refine Reg.take 8 (v := undef) rfl (by kernel_rfl) (by kernel_rfl) (by kernel_rfl) (fun _ _ _ h => h) (Or.inr ⟨by rfl, rfl⟩) (by assumption) ?_))
  (try simp only [Act.put, List.setIfInBounds_toArray, List.set_cons_zero, List.set_cons_succ])
  refine Reg.step 4 rfl (by kernel_rfl) (by rfl) (fun K hK => ?_)
  go_simp
  refine (HC x.off y.off w2).out.mono ?_
  rw [HA.out]
  rintro e' w3 ⟨rfl, hw3⟩
  obtain rfl := hw3.symm
  refine hK.out _ _ (HS _ M2.out) (fun hHeld => ?_)
  clear hK K hw3
  (try simp only [Act.put, List.setIfInBounds_toArray, List.set_cons_zero, List.set_cons_succ])
  refine Reg.step 9 rfl (by kernel_rfl) (by rfl) (fun K hK => ?_)
  go_simp
  refine (HC x.lba y.lba w2).out.mono ?_
  rw [HB.out]
  rintro e' w3 ⟨rfl, hw3⟩
  obtain rfl := hw3.symm
  refine hK.out _ _ (HS _ M2.out) (fun hHeld => ?_)
  clear hK K hw3
  (try simp only [Act.put, List.setIfInBounds_toArray, List.set_cons_zero, List.set_cons_succ])
  refine Reg.step 10 rfl (by kernel_rfl) (by rfl) (fun K hK => ?_)
  go_simp
  have C3 : Hid (Ext.Cells (w2.alloc (.cells #[.int .i64 a, .int .i64 b] 3)) w2.heap.size 3 #[.int .i64 a, .int .i64 b]) := Ext.Cells.new _ _ _
  have M3 : Hid (Below w1.heap.size w1 (w2.alloc (.cells #[.int .i64 a, .int .i64 b] 3))) := M2.out.alloc M2.out.size _
  refine hK.out _ _ (HS _ M3.out) (fun hHeld => ?_)
  clear hK K
  (try simp only [Act.put, List.setIfInBounds_toArray, List.set_cons_zero, List.set_cons_succ])
  have HOR := Lib.hid (or_any (q := w2.heap.size) a b _ (Ext.Cells.cell C3.out 0) (Ext.Cells.cell C3.out 1))
  refine Reg.step 11 rfl (by kernel_rfl) (by rfl) (fun K hK => ?_)
  go_simp
  refine HOR.out.mono ?_
  rintro e' w4 ⟨rfl, hw4⟩
  subst hw4
  refine hK.out _ _ (HS _ M3.out) (fun hHeld => ?_)
  clear hK K
  (try simp only [Act.put, List.setIfInBounds_toArray, List.set_cons_zero, List.set_cons_succ])
  (first | (refine Reg.take 12 (v := ?_) rfl (by kernel_rfl) (by kernel_rfl) (by kernel_rfl) (fun _ _ _ h => h) (Or.inl ⟨by rfl, ?_⟩) (by assumption) ?_; rotate_left; (focus ((intro W hSW); (try dsimp only at hSW); (try go_split_ands); go_simp; (try (with_reducible rfl)); done))) | (refine Reg.take 12 (v := undef) rfl (by kernel_rfl) (by kernel_rfl) (by kernel_rfl) (fun _ _ _ h => h) (Or.inr ⟨by rfl, rfl⟩) (by assumption) ?_))
  (try simp only [Act.put, List.setIfInBounds_toArray, List.set_cons_zero, List.set_cons_succ])
  refine wpAnyH_done (by kernel_rfl) ?_ _
  clear hHeld
  go_wp2_with fail
  go_ret
  refine ⟨rfl, 1, #[.cells #[.int .i64 x.lba, .int .i64 x.n, .int .i64 x.ver, .int .i64 x.zone, .int .i64 x.off] 32, .cells #[.int .i64 y.lba, .int .i64 y.n, .int .i64 y.ver, .int .i64 y.zone, .int .i64 y.off] 32] ++ #[.cells #[.int .i64 a, .int .i64 b] 3], ?_⟩
  rw [alloc_eq_grow, hD.out, HW1.out, Go.Sort.grow_grow]
  show Go.Sort.grow (Go.Sort.grow (W.drewN 1) _) _ = _
  rw [Go.Sort.grow_grow]; rfl
end Liv
end Go.Proofs.Ytnnphpfobdcmbaa
/-
  WALKS: slices.SortFunc of a row of one's own extents, by their places.
-/
namespace Go.Proofs.Ytnnphpfobdcmbaa
open Go.RowKit Mem Ext Go.Shelf Go.Sort
namespace Liv

theorem flat_at {l : List Ext.Ex} {t : Nat} (ht : t < l.length * 5) : (l.flatMap cellsL)[t]? = some ((cellsL l.toArray[t / 5]!)[t % 5]!) := by
  induction l generalizing t with
  | nil => simp at ht
  | cons x r ih =>
    rw [List.flatMap_cons]
    have h5 : (cellsL x).length = 5 := rfl
    by_cases h : t < 5
    · rw [List.getElem?_append_left (by rw [h5]; exact h)]
      have h1 : t / 5 = 0 := by omega
      have h2 : t % 5 = t := by omega
      rw [h1, h2]
      have h3 : (x :: r).toArray[0]! = x := rfl
      rw [h3, List.getElem?_eq_getElem (by rw [h5]; exact h), getElem!_pos (cellsL x) t (by rw [h5]; exact h)]
    · rw [List.getElem?_append_right (by rw [h5]; omega), h5, ih (by simp at ht; omega)]
      have h1 : t / 5 = (t - 5) / 5 + 1 := by omega
      have h2 : (t - 5) % 5 = t % 5 := by omega
      rw [h1, h2]
      have h3 : (x :: r).toArray[(t - 5) / 5 + 1]! = r.toArray[(t - 5) / 5]! := by simp
      rw [h3]
theorem flat_list (l : List Ext.Ex) : (flatK cellsL 5 l.toArray).toList = l.flatMap cellsL := by
  have hlen : (l.flatMap cellsL).length = l.length * 5 := by
    induction l with
    | nil => rfl
    | cons x r ih => rw [List.flatMap_cons, List.length_append, ih]; show 5 + _ = _; simp; omega
  apply List.ext_getElem?
  intro t
  by_cases h : t < l.length * 5
  · rw [flat_at h, Array.getElem?_toList, Array.getElem?_eq_getElem (by simpa using h)]
    have := get_flatK cellsL 5 l.toArray t (by simpa using h)
    rw [getElem!_pos _ t (by simpa using h)] at this
    rw [this]
  · rw [List.getElem?_eq_none (by simp; omega), List.getElem?_eq_none (by omega)]
theorem heap_put {w : World} {g n : Nat} {os : Array Obj} {cur : Array Value} {e : TypeId} {fr : Nat × Nat} (F : Array Value) (hb : w.heap[g]? = some (.cells cur e fr)) :
    (Go.Sort.grow (putRow id (Sort.ahead w n) g 0 F) os).heap[g]? = some (.cells (putCells id 0 F cur) e fr) := by
  have hg : g < w.heap.size := (Array.getElem?_eq_some_iff.1 hb).1
  rw [heap_grow_old _ _ (by simpa using hg)]
  simp [putRow, mapBlock, Sort.ahead, Array.getElem?_modify, hb, onCells]
theorem grownBy_put {w : World} {g n : Nat} {os : Array Obj} (F : Array Value) : w.grownBy (Go.Sort.grow (putRow id (Sort.ahead w n) g 0 F) os) (some g) := by
  refine ⟨rfl, rfl, rfl, by simp, fun k hk hne => ?_⟩
  rw [heap_grow_old _ _ (by simpa using hk)]
  have : g ≠ k := fun e => hne (by rw [e])
  simp [putRow, mapBlock, Sort.ahead, Array.getElem?_modify, this]
theorem take_put (cur : Array Value) (F : Array Value) (h : F.size ≤ cur.size) : (putCells id 0 F cur).toList.take F.size = F.toList := by
  apply List.ext_getElem?
  intro j
  by_cases hj : j < F.size
  · rw [List.getElem?_take_of_lt hj, Array.getElem?_toList]
    simp [putCells, hj, show j < cur.size by omega]
  · rw [List.getElem?_take_eq_none (by omega), List.getElem?_eq_none (by simp; omega)]
theorem holds_flat {w : World} {g : Nat} {cur : Array Value} {e : TypeId} {l : List Ext.Ex} (hb : w.heap[g]? = some (.cells cur e (0, 0))) (ht : cur.toList.take (l.length * 5) = l.flatMap cellsL) : HoldsK cellsL 5 w g 0 l.toArray := by
  intro j hj
  have hj' : j < l.length * 5 := by simpa using hj
  refine ⟨?_, by simp [World.frozen?, hb]⟩
  have h1 : (cur.toList.take (l.length * 5))[j]? = (l.flatMap cellsL)[j]? := by rw [ht]
  rw [List.getElem?_take_of_lt hj', flat_at hj'] at h1
  have h2 := get_flatK cellsL 5 l.toArray j (by simpa using hj')
  simp only [World.cell?, hb, Nat.zero_add]
  simp only [Option.isSome_none, Bool.false_eq_true, if_false]
  rw [← Array.getElem?_toList, h1, h2]
  rfl

set_option maxRecDepth 100000 in
set_option maxHeartbeats 3200000 in
theorem sortX_any {base : Nat} {w : World} {A : Option Addr} {n c : Nat} {l : List Ext.Ex} (h : OwnsL base w (.slice A n c) n l) (hb : base ≤ w.heap.size) (hn : n ≤ 1000000) :
    Calls Try.prog 23 #[.slice A n c, .func (.func 24) #[] #[]] w fun e w' => e = .returned (.tuple #[]) ∧ (∃ r, OwnsL base w' (.slice A n c) n r ∧ r.Perm l ∧ r.Pairwise fun x y => ¬ ltX y x) ∧ Below base w w' := by
  have hlen : l.length = n := h.2
  rcases Nat.eq_zero_or_pos n with h0 | h0
  · subst h0
    have hl0 : l = [] := List.eq_nil_of_length_eq_zero hlen
    refine Calls.mono (show Calls Try.prog 23 _ _ _ from AnyF.slices_SortFunc_none laysSort A c (.func (.func 24) #[] #[]) w) (fun e w' ⟨h1, h2⟩ => ?_)
    subst h2
    exact ⟨h1, ⟨l, h, List.Perm.refl _, by rw [hl0]; exact List.Pairwise.nil⟩, Below.refl _ _⟩
  · rcases h.1.2 with ⟨-, h1⟩ | ⟨g, cap, cur, hs, hbg, hg, hnc, hcm, hsz, ht⟩
    · omega
    · injection hs with e1 _ e3
      subst e1 e3
      have hH := holds_flat hg (by rw [hlen]; exact ht)
      have hlt : g < w.heap.size := (Array.getElem?_eq_some_iff.1 hg).1
      have eg : ∀ args w, (callFunc 24 args).run Try.prog w = .ok (.enter 24 args) w := enters_of Try.func24 (by kernel_rfl) rfl
      have hsort := AnyQ.slices_SortFunc laysSort 5 Try.isAgg32 Try.sizeOf32 cellsL (fun _ => rfl) (fun x v hv => by simp [cellsL] at hv; rcases hv with rfl | rfl | rfl | rfl | rfl <;> rfl) cmpX ltX_swo 24 #[] g 0 c l.toArray w eg (fun _ _ _ _ x y => in1_any x y _) hH hlt (by simp; omega)
      have hsize : l.toArray.size = n := by simpa using hlen
      rw [hsize] at hsort
      refine Calls.mono (show Calls Try.prog 23 _ _ _ from hsort) (fun e w' ⟨h1, d', k, os, hp, hso, hw⟩ => ⟨h1, ⟨d'.toList, ⟨⟨?_, .inr ⟨g, c, putCells id 0 (flatK cellsL 5 d') cur, rfl, hbg, ?_, hnc, hcm, by simp [putCells, hsz], ?_⟩⟩, ?_⟩, ?_, ?_⟩, ?_⟩)
      · have hds : d'.size = n := by rw [hp.1]; exact hsize
        rw [← flat_list]; simp [hds]
      · subst hw
        exact heap_put _ hg
      · have hds : d'.size = n := by rw [hp.1]; exact hsize
        have h2 := take_put cur (flatK cellsL 5 d') (by rw [size_flatK, hds, hsz]; exact Nat.mul_le_mul_right 5 hnc)
        rw [size_flatK, hds] at h2
        rw [h2]
        have := flat_list d'.toList
        simpa using this
      · have hds : d'.size = n := by rw [hp.1]; exact hsize
        simpa using hds
      · have hds : d'.size = n := by rw [hp.1]; exact hsize
        have h2 := hp.2.2
        have e1 : d'.extract 0 n = d' := by rw [← hds]; exact Array.extract_size
        have e2 : l.toArray.extract 0 n = l.toArray := by rw [← hsize]; exact Array.extract_size
        rw [e1, e2] at h2
        simpa using h2
      · have hds : d'.size = n := by rw [hp.1]; exact hsize
        rw [List.pairwise_iff_getElem]
        intro i j h3 h4 h5
        have hi : i < d'.size := by simpa using h3
        have hj : j < d'.size := by simpa using h4
        have h6 := hso i j (Nat.zero_le _) h5 (by omega)
        rw [getElem!_pos d' j hj, getElem!_pos d' i hi] at h6
        have h7 := (ltX_not _ _).1 h6
        simpa using h7
      · subst hw
        exact (Below.refl base w).grown (grownBy_put _) hb (fun q hq => by injection hq with hq; omega)
end Liv
end Go.Proofs.Ytnnphpfobdcmbaa
/-
  WALKS: live.In.
-/
namespace Go.Proofs.Ytnnphpfobdcmbaa
open Go.RowKit Mem Ext
namespace Liv

/-- A map's extents in a zone. -/
def inZone (z : Int) (l : List Ext.Ex) : List Ext.Ex := l.filter fun x => x.zone == z
theorem inZone_snoc {l : List Ext.Ex} {k : Nat} {x : Ext.Ex} (hx : l[k]? = some x) (z : Int) : inZone z (l.take (k + 1)) = inZone z (l.take k) ++ (bif x.zone == z then [x] else []) := by
  unfold inZone
  rw [take_snoc hx, List.filter_append]
  congr 1
set_option maxRecDepth 100000 in
set_option maxHeartbeats 6400000 in
theorem in_ok {A : Option Addr} {n c : Nat} {l : List Ext.Ex} {w : World} (h : RowL w A n c l) (hs : SmallN l) (hn : n ≤ 1000) (z : Int) (hz : 0 ≤ z) (hok : okE l = true) :
    Calls Try.prog 11 #[.slice A n c, .int .i64 z] w fun e w' => (∃ B m d r, e = .returned (.tuple #[.slice B m d, .int .i64 0]) ∧ RowL w' B m d r ∧ r.Perm (inZone z l) ∧ r.Pairwise fun x y => ¬ ltX y x) ∧ Below w.heap.size w w' := by
  have HC := fun w (h : RowL w A n c l) => Lib.hid (check_all h hs)
  rw [hok] at HC
  have HR := Lib.hid h
  have hbig := h.big
  have hlen := Lib.hid h.len
  have hzn : ¬ z < 0 := by omega
  clear h hs hok
  go_enter Try.func11, Try.ntmps11
  go_wp2_with (go_at_call 22; refine (HC _ HR.out).out.mono ?_; rintro e w2 ⟨rfl, hb⟩; have L2 := Lib.hid hb; clear hb)
  go_loopw [6, 8, 18] (fun s _ i wr => ∃ (k : Nat) (B : Option Addr) (m d : Nat), i = .int .i64 k ∧ s = .slice B m d ∧ k ≤ n ∧ m ≤ k ∧ Hid (Below w.heap.size w wr ∧ OwnsL w.heap.size wr (.slice B m d) m (inZone z (l.take k)))) (fun _ _ i _ => n - (intOf i).toNat)
  case atStart => exact ⟨0, none, 0, 0, rfl, rfl, by omega, by omega, L2.out, OwnsL.nil _ _⟩
  case round =>
    obtain ⟨k, B, m, d, rfl, rfl, hk, hm, hH⟩ := hrel
    by_cases hlt : k < n
    · obtain ⟨x, hx⟩ := HR.out.get hlt
      obtain ⟨b, o, hA, d0, d1, d2, d3, d4⟩ := RowS.ext_at (HR.out.below hH.out.1) hx
      subst hA
      have hk0 : (0 : Int) ≤ (k : Int) := by omega
      have hkn : (k : Int) < (n : Int) := by omega
      have HSN := Lib.hid (inZone_snoc hx z)
      clear hx
      have A1 : Hid (Below wr.heap.size wr (wr.alloc (.cells #[.int .i64 x.lba, .int .i64 x.n, .int .i64 x.ver, .int .i64 x.zone, .int .i64 x.off] 32))) := (Below.refl _ wr).alloc (Nat.le_refl _) _
      have B1 : Hid (LBox (wr.alloc (.cells #[.int .i64 x.lba, .int .i64 x.n, .int .i64 x.ver, .int .i64 x.zone, .int .i64 x.off] 32)) wr.heap.size x) := Ext.Cells.new _ _ _
      obtain ⟨n0, n1, n2, n3, n4⟩ := LBox.cells B1.out
      go_upto_region 7 with fail
      have L1 := Lib.hid (hH.out.1.trans (A1.out.mono hH.out.1.size))
      have O1 := Lib.hid (OwnsL.below hH.out.2 A1.out)
      generalize wr.alloc (.cells #[.int .i64 x.lba, .int .i64 x.n, .int .i64 x.ver, .int .i64 x.zone, .int .i64 x.off] 32) = w1 at *
      clear d0 d1 d2 d3 d4 A1
      rcases e1 : (x.zone == z)
      · rw [e1] at HSN
        go_wp2_with fail
        go_roundw
        case rel => exact ⟨k + 1, B, m, d, by go_num, rfl, by omega, by omega, L1.out, by rw [HSN.out]; simpa using O1.out⟩
        case measure => simp [intOf]; omega
      · rw [e1] at HSN
        go_upto_region 8 with fail
        have A3 : Hid (Below w.heap.size w (w1.alloc (.cells #[.int .i64 x.lba, .int .i64 x.n, .int .i64 x.ver, .int .i64 x.zone, .int .i64 x.off] 32))) := L1.out.alloc L1.out.size _
        have B3 : Hid (LBox (w1.alloc (.cells #[.int .i64 x.lba, .int .i64 x.n, .int .i64 x.ver, .int .i64 x.zone, .int .i64 x.off] 32)) w1.heap.size x) := Ext.Cells.new _ _ _
        have O3 := Lib.hid (OwnsL.alloc O1.out (.cells #[.int .i64 x.lba, .int .i64 x.n, .int .i64 x.ver, .int .i64 x.zone, .int .i64 x.off] 32))
        go_wp2_with (at_builtin
                     refine wpList_append_l rfl (.tmp 26) (.tmp 28) rfl rfl w.heap.size _ m _ rfl O3.out _ 1 1 [x] rfl (RowS.one B3.out) (by omega) A3.out.size ?_
                     intro A' c' w' h1 h2 h3
                     have L4 := Lib.hid (A3.out.trans (Ext.below_row O3.out h2 A3.out.size))
                     have O4 := Lib.hid h1
                     clear h1 h2 h3)
        go_roundw
        case rel => exact ⟨k + 1, A', m + 1, c', by go_num, rfl, by omega, by omega, L4.out, by rw [HSN.out]; exact O4.out⟩
        case measure => simp [intOf]; omega
    · have hkn : l.take k = l := List.take_of_length_le (by have := hlen.out; omega)
      have hh := hH.out
      rw [hkn] at hh
      have HS := Lib.hid (sortX_any hh.2 hh.1.size (by omega))
      have L3 := Lib.hid hh.1
      clear hkn hh hH
      go_wp2_with (go_at_call 23; refine HS.out.mono ?_; rintro e w4 ⟨rfl, ⟨r, ho, hp, hpp⟩, hb⟩; have O4 := Lib.hid ho; have P4 := Lib.hid (And.intro hp hpp); have L4 := Lib.hid (L3.out.trans hb); clear ho hp hpp hb)
      go_ret2
      exact ⟨⟨_, _, _, r, rfl, O4.out.row (by omega), P4.out.1, P4.out.2⟩, L4.out⟩
end Liv
end Go.Proofs.Ytnnphpfobdcmbaa
/-
  THE STATEMENT LiveCounts: what its walk is read against.
-/
namespace Go.Proofs.Ytnnphpfobdcmbaa
open Go.RowKit Mem Ext
namespace Liv

theorem tell_own {f : Int} {l : List Ext.Ex} (h : Ok f l) {x : Ext.Ex} (hx : x ∈ l) : tell l x.lba = some (blk x x.lba) := by
  induction l generalizing f with
  | nil => cases hx
  | cons y r ih =>
    rcases List.mem_cons.1 hx with rfl | hx
    · exact tell_head h.1
    · have h1 := h.2.2.from x hx
      rw [tell, if_neg (by unfold has; omega)]
      exact ih h.2.2 hx
theorem at_own {l : List Ext.Ex} (h : Ok 0 l) {x : Ext.Ex} (hx : x ∈ l) (hz : 0 ≤ x.zone) : ∃ y, atP l x.lba = some y ∧ y.ver = x.ver ∧ y.zone = x.zone ∧ y.off = x.off := by
  have h1 := at_tell h x.lba
  rw [tell_own h hx] at h1
  rcases e : atP l x.lba with _ | y
  · rw [e] at h1; cases h1
  · rw [e] at h1
    have h2 : (y.ver, y.zone, y.off) = blk x x.lba := by injection h1
    unfold blk at h2
    rw [if_neg (by omega), show x.off + 16 * (x.lba - x.lba) = x.off by omega] at h2
    injection h2 with a b
    injection b with b c
    exact ⟨y, rfl, a, b, c⟩
theorem pairL {f : Int} {l : List Ext.Ex} (h : Ok f l) : l.Pairwise fun x y => x.lba < y.lba := by
  induction l generalizing f with
  | nil => exact .nil
  | cons x r ih => exact .cons (fun y hy => by have := h.2.2.from y hy; have := en_lt h.1; omega) (ih h.2.2)
theorem in_strict {z : Int} {l r : List Ext.Ex} (h : Ok 0 l) (hp : r.Perm (inZone z l)) (hs : r.Pairwise fun x y => ¬ ltX y x) {k : Nat} {x y : Ext.Ex} (hx : r[k]? = some x) (hy : r[k + 1]? = some y) : ltX x y := by
  have h1 : (inZone z l).Pairwise fun x y => x.lba ≠ y.lba := List.Pairwise.sublist List.filter_sublist ((pairL h).imp (fun h => by omega))
  have h2 : r.Pairwise fun x y => x.lba ≠ y.lba := (List.Perm.pairwise_iff (fun h => Ne.symm h) hp).2 h1
  have a := (List.getElem?_eq_some_iff.1 hx)
  have b := (List.getElem?_eq_some_iff.1 hy)
  obtain ⟨a1, a2⟩ := a
  obtain ⟨b1, b2⟩ := b
  have c1 := List.pairwise_iff_getElem.1 h2 k (k + 1) a1 b1 (by omega)
  have c2 := List.pairwise_iff_getElem.1 hs k (k + 1) a1 b1 (by omega)
  rw [a2, b2] at c1 c2
  unfold ltX at *
  omega
theorem in_mem {z : Int} {l r : List Ext.Ex} (hp : r.Perm (inZone z l)) {x : Ext.Ex} (hx : x ∈ r) : x ∈ l ∧ x.zone = z := by
  have h := hp.mem_iff.1 hx
  unfold inZone at h
  rw [List.mem_filter] at h
  exact ⟨h.1, by simpa using h.2⟩
theorem in_len {z : Int} {l r : List Ext.Ex} (hp : r.Perm (inZone z l)) : r.length ≤ l.length := by
  rw [hp.length_eq]
  exact List.length_filter_le _ _

def sumE : List Ext.Ex → Int
  | [] => 0
  | x :: r => x.n + sumE r
theorem sumE_app (a b : List Ext.Ex) : sumE (a ++ b) = sumE a + sumE b := by
  induction a with
  | nil => simp [sumE]
  | cons x r ih => simp only [List.cons_append, sumE, ih]; omega
theorem sumE_snoc {l : List Ext.Ex} {k : Nat} {x : Ext.Ex} (hx : l[k]? = some x) : sumE (l.take (k + 1)) = sumE (l.take k) + x.n := by
  rw [take_snoc hx, sumE_app]; simp [sumE]
theorem sumE_perm {a b : List Ext.Ex} (h : a.Perm b) : sumE a = sumE b := by
  induction h with
  | nil => rfl
  | cons x _ ih => simp only [sumE, ih]
  | swap x y l => simp only [sumE]; omega
  | trans _ _ a b => exact a.trans b
theorem sumE_zone (z : Int) (l : List Ext.Ex) : sumE (inZone z l) = cntZ z l := by
  induction l with
  | nil => rfl
  | cons x r ih =>
    unfold inZone at *
    rw [List.filter_cons]
    by_cases h : x.zone = z
    · rw [if_pos (by simpa using h)]
      simp only [sumE, cntZ, ih, if_pos h]
    · rw [if_neg (by simpa using h)]
      simp only [cntZ, ih, if_neg h]; omega
theorem sumE_pos {r : List Ext.Ex} (h : ∀ x ∈ r, 0 ≤ x.n) : 0 ≤ sumE r := by
  induction r with
  | nil => exact Int.le_refl _
  | cons x r ih =>
    have h1 := h x List.mem_cons_self
    have h2 := ih fun y hy => h y (List.mem_cons_of_mem _ hy)
    simp only [sumE]; omega
theorem sumE_front {r : List Ext.Ex} (h : ∀ x ∈ r, 0 ≤ x.n) (k : Nat) : 0 ≤ sumE (r.take k) ∧ sumE (r.take k) ≤ sumE r := by
  have h1 := sumE_pos (r := r.take k) fun x hx => h x (List.mem_of_mem_take hx)
  have h2 := sumE_pos (r := r.drop k) fun x hx => h x (List.mem_of_mem_drop hx)
  have h3 := sumE_app (r.take k) (r.drop k)
  rw [List.take_append_drop] at h3
  omega

def sumR (Z : Nat) : List Ext.Ex → Int
  | [] => 0
  | x :: r => (if 0 ≤ x.zone ∧ x.zone < Z then x.n else 0) + sumR Z r
theorem sumR_app (Z : Nat) (a b : List Ext.Ex) : sumR Z (a ++ b) = sumR Z a + sumR Z b := by
  induction a with
  | nil => simp [sumR]
  | cons x r ih => simp only [List.cons_append, sumR, ih]; omega
theorem sumR_snoc {l : List Ext.Ex} {k : Nat} {x : Ext.Ex} (hx : l[k]? = some x) (Z : Nat) : sumR Z (l.take (k + 1)) = sumR Z (l.take k) + (if 0 ≤ x.zone ∧ x.zone < Z then x.n else 0) := by
  rw [take_snoc hx, sumR_app]; simp [sumR]
theorem sumR_zero (l : List Ext.Ex) : sumR 0 l = 0 := by
  induction l with
  | nil => rfl
  | cons x r ih => simp only [sumR, ih]; rw [if_neg (by omega)]; rfl
theorem sumR_succ (Z : Nat) (l : List Ext.Ex) : sumR (Z + 1) l = sumR Z l + cntZ (Z : Int) l := by
  induction l with
  | nil => rfl
  | cons x r ih =>
    simp only [sumR, cntZ, ih]
    by_cases h1 : 0 ≤ x.zone ∧ x.zone < Z
    · rw [if_pos h1, if_pos (by omega), if_neg (by omega)]; omega
    · rw [if_neg h1]
      by_cases h2 : x.zone = Z
      · rw [if_pos (by omega), if_pos h2]; omega
      · rw [if_neg (by omega), if_neg h2]; omega
theorem sumR_in {f : Int} {l : List Ext.Ex} (h : Ok f l) (hf : f ≤ 1099511627776) (Z : Nat) : 0 ≤ sumR Z l ∧ sumR Z l ≤ 1099511627776 - f := by
  induction l generalizing f with
  | nil => simp only [sumR]; omega
  | cons x r ih =>
    obtain ⟨h1, h2, h3⟩ := h
    have h4 := ih h3 (en_le h1)
    have h5 := h1.2.1
    unfold Ext.Ex.en at h4
    simp only [sumR]
    split <;> omega
end Liv
end Go.Proofs.Ytnnphpfobdcmbaa
/-
  THE STATEMENT LiveCounts: its walk.
-/
namespace Go.Proofs.Ytnnphpfobdcmbaa
open Go.RowKit Mem Ext
namespace Liv

set_option maxRecDepth 100000 in
set_option maxHeartbeats 12800000 in
theorem liveCounts_walk {A : Option Addr} {n c : Nat} {l : List Ext.Ex} {w : World} (hl : RowL w A n c l) (hs : SmallN l) (zones : Int) :
    Calls Try.prog 3 #[.slice A n c, .int .i64 zones] w fun en w' => en = .returned (.bool true) ∧ Below w.heap.size w w' := by
  have HU := fun w => Lib.hid (up_any w)
  have HE := fun w (h : RowL w A n c l) => Lib.hid (refCheck_any h)
  have hbig := hl.big
  have hlen := Lib.hid hl.len
  have HL := Lib.hid hl
  have HC := fun (Z : Nat) (hZ : Z ≤ 64) (he : okE l = true) w (h : RowL w A n c l) => Lib.hid (count_ok h hs Z (by rw [count_n hZ]; exact he))
  have HI := fun (hn : n ≤ 1000) (he : okE l = true) (z : Nat) w (h : RowL w A n c l) => Lib.hid (in_ok h hs hn (z : Int) (by omega) he)
  have HA := fun (hn : n ≤ 1000) (he : okE l = true) (a : Int) w (h : RowL w A n c l) => Lib.hid (at_any h (okE_iff.1 he) (by omega) a)
  have HO := fun (he : okE l = true) => Lib.hid (okE_iff.1 he)
  generalize hoe : okE l = oe at *
  clear hl hs hoe
  go_enter Try.func3, Try.ntmps3
  go_upto_region 2 with (go_at_call 8; refine (HU w).out.mono ?_; rintro e w2 ⟨rfl, hb⟩; have L2 := Lib.hid hb; clear hb)
  clear HU
  rcases hm1 : decide ((n : Int) > 300)
  case true =>
    go_wp2_with fail
    go_ret
    exact ⟨rfl, L2.out⟩
  have hm2 : ¬ (300 : Int) < (n : Int) := of_decide_eq_false hm1
  have hn1 : n ≤ 1000 := by omega
  have er1 : Ext.errOf true = 0 := rfl
  have er0 : Ext.errOf false = 1 := rfl
  rcases oe with _ | _
  · rw [er0] at HE
    go_wp2_with (go_at_call 9; refine (HE w2 (HL.out.below L2.out)).out.mono ?_; rintro e w3 ⟨rfl, hb⟩; have L3 := Lib.hid (L2.out.trans (hb.mono L2.out.size)); clear hb)
    go_ret
    exact ⟨rfl, L3.out⟩
  rw [er1] at HE
  have HC2 := fun Z hZ => HC Z hZ rfl
  have HI2 := HI hn1 rfl
  have HA2 := HA hn1 rfl
  have HOK := HO rfl
  clear HC HI HA HO er0 er1
  rcases hz1 : decide (zones < 0)
  case true =>
    have hz2 : zones < 0 := of_decide_eq_true hz1
    go_wp2_with (go_at_call 9; refine (HE w2 (HL.out.below L2.out)).out.mono ?_; rintro e w3 ⟨rfl, hb⟩; have L3 := Lib.hid (L2.out.trans (hb.mono L2.out.size)); clear hb)
    go_ret
    exact ⟨rfl, L3.out⟩
  have hz2 : ¬ zones < 0 := of_decide_eq_false hz1
  rcases hy1 : decide (zones > 64)
  case true =>
    have hy2 : 64 < zones := of_decide_eq_true hy1
    go_wp2_with (go_at_call 9; refine (HE w2 (HL.out.below L2.out)).out.mono ?_; rintro e w3 ⟨rfl, hb⟩; have L3 := Lib.hid (L2.out.trans (hb.mono L2.out.size)); clear hb)
    go_ret
    exact ⟨rfl, L3.out⟩
  have hy2 : ¬ (64 : Int) < zones := of_decide_eq_false hy1
  obtain ⟨Z, rfl⟩ : ∃ Z : Nat, zones = Z := ⟨zones.toNat, by omega⟩
  have HC3 := HC2 Z (by omega)
  clear HC2
  go_upto_region 4 with (go_at_call 9; refine (HE w2 (HL.out.below L2.out)).out.mono ?_; rintro e w3 ⟨rfl, hb⟩; have L3 := Lib.hid (L2.out.trans (hb.mono L2.out.size)); clear hb)
  clear HE L2
  go_upto_region 7 with (go_at_call 10; refine (HC3 w3 (HL.out.below L3.out)).out.mono ?_; rintro e w4 ⟨⟨X, i, r, rfl, hr, -⟩, hb⟩; (have hi : Z = i := by (have h1 := hr.len; rw [cnts_len] at h1; exact h1)); subst hi; have L4 := Lib.hid (L3.out.trans (hb.mono L3.out.size)); have R4 := Lib.hid (show Row ci w4 X Z r (cnts Z l) from hr); clear hb hr)
  clear HC3 L3
  go_wp2_with fail
  go_loopw [4, 8, 9, 10, 11, 12, 13, 14, 15, 16, 17, 55] (fun rr u _ _ _ _ _ _ _ _ _ v wz => ∃ k : Nat, v = .int .i64 k ∧ u = .int .i64 (sumR k l) ∧ rr = .bool false ∧ k ≤ Z ∧ Hid (Below w.heap.size w wz ∧ Below w4.heap.size w4 wz)) (fun _ _ _ _ _ _ _ _ _ _ _ v _ => Z - (intOf v).toNat)
  case atStart => exact ⟨0, rfl, by rw [sumR_zero], rfl, by omega, L4.out, Below.refl _ _⟩
  case round =>
    clear L4
    obtain ⟨k, rfl, rfl, rfl, hk, hH⟩ := hrel
    have L5 := Lib.hid hH.out.1
    have M5 := Lib.hid hH.out.2
    clear hH
    have hu := sumR_in HOK.out (by omega) k
    by_cases hlt : k < Z
    · obtain ⟨b, o, hX, -⟩ := R4.out.cell (cnts_get l hlt)
      subst hX
      have c0 : wr.cell? ⟨b, o + k, none⟩ = some (.int .i64 (cntZ (k : Int) l)) := by
        obtain ⟨b4, o4, hB4, c4⟩ := (R4.out.below M5.out).cell (cnts_get l hlt)
        injection hB4 with hB4; injection hB4 with h1 h2; subst h1 h2; exact c4
      have hk0 : (0 : Int) ≤ (k : Int) := by omega
      have hkZ : (k : Int) < (Z : Int) := by omega
      have hu2 := sumR_in HOK.out (by omega) (k + 1)
      have HST := Lib.hid (sumR_succ k l)
      rw [HST.out] at hu2
      have hcz := cntZ_in HOK.out (by omega) (k : Int)
      go_upto_region 12 with (go_at_call 11; refine (HI2 k wr (HL.out.below L5.out)).out.mono ?_; rintro e w6 ⟨⟨B, m, d, r6, rfl, hr, hp, hss⟩, hb⟩; have L6 := Lib.hid (L5.out.trans (hb.mono L5.out.size)); have M6 := Lib.hid (M5.out.trans (hb.mono M5.out.size)); have R6 := Lib.hid hr; have P6 := Lib.hid hp; have S6 := Lib.hid hss; clear hb hr hp hss)
      clear c0 L5 M5
      have HSUM := Lib.hid ((sumE_perm P6.out).trans (sumE_zone _ _))
      have HMEM := Lib.hid (fun x (hx : x ∈ r6) => in_mem P6.out hx)
      have HFR := fun q => Lib.hid (sumE_front (r := r6) (fun x hx => by have := (HOK.out.may x (HMEM.out x hx).1).2.1; omega) q)
      have HSTR := Lib.hid (fun q x y (hx : r6[q]? = some x) (hy : r6[q + 1]? = some y) => in_strict HOK.out P6.out S6.out hx hy)
      have hm : m ≤ n := by have h1 := in_len P6.out; rw [R6.out.len, hlen.out] at h1; exact h1
      clear P6 S6
      generalize hcv : cntZ (k : Int) l = cv at *
      generalize hsv : sumR k l = sv at *
      go_wp2_with fail
      go_loopw [4, 13, 14, 15, 16, 17, 68] (fun rr s _ _ _ _ v wq => ∃ q : Nat, v = .int .i64 q ∧ s = .int .i64 (sumE (r6.take q)) ∧ rr = .bool false ∧ q ≤ m ∧ Hid (Below w6.heap.size w6 wq)) (fun _ _ _ _ _ _ v _ => m - (intOf v).toNat)
      case atStart => exact ⟨0, rfl, rfl, rfl, by omega, Below.refl _ _⟩
      case round =>
        obtain ⟨q, rfl, rfl, rfl, hq, hQ⟩ := hrel
        by_cases hlq : q < m
        · obtain ⟨x, hx⟩ := R6.out.get hlq
          obtain ⟨b1, o1, hB, d0, d1, d2, d3, d4⟩ := RowS.ext_at (R6.out.below hQ.out) hx
          subst hB
          obtain ⟨hxl, hxz⟩ := HMEM.out x (List.mem_of_getElem? hx)
          obtain ⟨y, hy, y2, y3, y4⟩ := at_own HOK.out hxl (by omega)
          have HAX := fun w h => Lib.hid (HA2 x.lba w h).out
          rw [hy] at HAX
          have f1 := (HFR q).out
          have f2 := (HFR (q + 1)).out
          have HSN := Lib.hid (sumE_snoc hx)
          rw [HSN.out] at f2
          rw [HSUM.out] at f1 f2
          have HPV := Lib.hid (fun q' (e : q = q' + 1) => (show ∃ p, r6[q']? = some p ∧ ltX p x from by
            obtain ⟨p, hp⟩ := R6.out.get (show q' < m by omega)
            exact ⟨p, hp, HSTR.out q' p x hp (by rw [← e]; exact hx)⟩))
          have HPC := fun W (hW : Below w6.heap.size w6 W) q' p (hp : r6[q']? = some p) => (show W.cell? ⟨b1, o1 + q' * 5, none⟩ = some (.int .i64 p.lba) ∧ W.cell? ⟨b1, o1 + q' * 5 + 4, none⟩ = some (.int .i64 p.off) from by
            obtain ⟨b4, o4, hB4, c4⟩ := RowS.ext_at (R6.out.below hW) hp
            injection hB4 with hB4; injection hB4 with h1 h2; subst h1 h2; exact ⟨c4.1, c4.2.2.2.2⟩)
          obtain ⟨xl, xn, xv, xz, xo⟩ := x
          obtain ⟨yl, yn, yv, yz, yo⟩ := y
          dsimp only at hxz y2 y3 y4 d0 d1 d2 d3 d4 HAX f1 f2 HSN
          subst y2 y3 y4
          subst hxz
          have HAX2 := fun w h => Lib.hid (show Calls Try.prog 12 #[.slice A n c, .int .i64 xl] w fun e w' => e = .returned (.tuple #[.agg #[.int .i64 yl, .int .i64 yn, .int .i64 yv, .int .i64 (k : Int), .int .i64 yo], .bool true]) ∧ Below w.heap.size w w' from (HAX w h).out)
          clear HAX hx hxl hy
          have hq0 : (0 : Int) ≤ (q : Int) := by omega
          have hqm : (q : Int) < (m : Int) := by omega
          generalize sumE (r6.take q) = t at *
          have hwt : IntKind.i64.wrap (t + xn) = t + xn := Ext.wrap_small (by omega) (by omega)
          have A1 : Hid (Below wr.heap.size wr (wr.alloc (.cells #[.int .i64 xl, .int .i64 xn, .int .i64 yv, .int .i64 (k : Int), .int .i64 yo] 32))) := (Below.refl _ wr).alloc (Nat.le_refl _) _
          have B1 : Hid (LBox (wr.alloc (.cells #[.int .i64 xl, .int .i64 xn, .int .i64 yv, .int .i64 (k : Int), .int .i64 yo] 32)) wr.heap.size ⟨xl, xn, yv, (k : Int), yo⟩) := Ext.Cells.new _ _ _
          obtain ⟨n0, n1, n2, n3, n4⟩ := LBox.cells B1.out
          go_upto_region 17 with fail
          have M7 := Lib.hid (hQ.out.trans (A1.out.mono hQ.out.size))
          generalize hgg : wr.heap.size = g at *
          generalize wr.alloc (.cells #[.int .i64 xl, .int .i64 xn, .int .i64 yv, .int .i64 (k : Int), .int .i64 yo] 32) = w7 at *
          clear d0 d1 d2 d3 d4 A1 n1 n2 hQ hgg
          have N0 : Hid (Below w7.heap.size w7 w7) := Below.refl _ _
          have N1 := Lib.hid N0.out.drew
          have HBX := fun W (hW : Below w7.heap.size w7 W) => LBox.cells (B1.out.below hW)
          dsimp only at HBX
          go_cut [117] from 69 to 147 (fun cc wx => cc = .bool false ∧ Hid (Below w7.heap.size w7 wx))
          case first =>
            rcases Nat.eq_zero_or_pos q with h0 | h0
            · subst h0
              go_quiet (fail)
              go_wp2_with fail
              go_meet
              exact ⟨rfl, below_drewN N0.out _⟩
            · obtain ⟨p, hp⟩ : ∃ p, q = p + 1 := ⟨q - 1, by omega⟩
              obtain ⟨u, hu3, hux⟩ := HPV.out p hp
              obtain ⟨t0, t4⟩ := HPC w7 M7.out p u hu3
              obtain ⟨ul, un, uv, uz, uo⟩ := u
              dsimp only at t0 t4
              have hlx : uo < yo ∨ uo = yo ∧ ul < xl := hux
              have hqp : (q : Int) - 1 = (p : Int) := by omega
              have hqpos : (0 : Int) < (q : Int) := by omega
              have hp0 : (0 : Int) ≤ (p : Int) := by omega
              have hpm : (p : Int) < (m : Int) := by omega
              have hwr : IntKind.i64.wrap (p : Int) = (p : Int) := Ext.wrap_small (by omega) (by omega)
              have g1 : ¬ yo < uo := by omega
              have g1d : decide (uo > yo) = false := decide_eq_false g1
              rcases g2 : (uo == yo)
              · clear hlx hux hp hu3 g1
                go_quiet (fail)
                go_wp2_with fail
                go_meet
                exact ⟨rfl, below_drewN N0.out _⟩
              · have g3 : ¬ xl ≤ ul := by have : uo = yo := by simpa using g2
                                          omega
                have g3d : decide (ul ≥ xl) = false := decide_eq_false g3
                clear hlx hux hp hu3 g1 g3
                go_quiet (fail)
                go_wp2_with fail
                go_meet
                exact ⟨rfl, below_drewN N0.out _⟩
          case rest =>
            obtain ⟨rfl, hW⟩ := hcut
            clear n0 n3 n4 N0 N1 HPC HPV
            have LC := Lib.hid (L6.out.trans ((M7.out.trans (hW.out.mono M7.out.size)).mono L6.out.size))
            obtain ⟨n0, n1, n2, n3, n4⟩ := HBX wc hW.out
            go_upto_region 20 with (go_at_call 12; refine (HAX2 wc (HL.out.below LC.out)).out.mono ?_; rintro e w8 ⟨rfl, hb⟩; have W8 := Lib.hid (hW.out.trans (hb.mono hW.out.size)); clear hb)
            have A2 : Hid (Below w8.heap.size w8 (w8.alloc (.cells #[.int .i64 yl, .int .i64 yn, .int .i64 yv, .int .i64 (k : Int), .int .i64 yo] 32))) := (Below.refl _ w8).alloc (Nat.le_refl _) _
            have B2 : Hid (LBox (w8.alloc (.cells #[.int .i64 yl, .int .i64 yn, .int .i64 yv, .int .i64 (k : Int), .int .i64 yo] 32)) w8.heap.size ⟨yl, yn, yv, (k : Int), yo⟩) := Ext.Cells.new _ _ _
            have W9 := Lib.hid (W8.out.trans (A2.out.mono W8.out.size))
            clear n0 n1 n2 n3 n4
            obtain ⟨n0, n1, n2, n3, n4⟩ := HBX _ W9.out
            obtain ⟨k0, k1, k2, k3, k4⟩ := LBox.cells B2.out
            dsimp only at k0 k1 k2 k3 k4
            generalize w8.heap.size = g2 at *
            generalize w8.alloc (.cells #[.int .i64 yl, .int .i64 yn, .int .i64 yv, .int .i64 (k : Int), .int .i64 yo] 32) = w9 at *
            go_wp2_with fail
            go_roundw
            case rel => exact ⟨q + 1, by go_num, by rw [HSN.out], rfl, by omega, M7.out.trans (W9.out.mono M7.out.size)⟩
            case measure => simp [intOf]; omega
        · have hqm : q = m := by omega
          subst hqm
          have hs0 : sumE (r6.take q) = cv := by rw [List.take_of_length_le (by have := R6.out.len; omega)]; exact HSUM.out
          rw [hs0]
          have LQ := Lib.hid (L6.out.trans (hQ.out.mono L6.out.size))
          have MQ := Lib.hid (M6.out.trans (hQ.out.mono M6.out.size))
          have hws : IntKind.i64.wrap (sv + cv) = sv + cv := Ext.wrap_small (by omega) (by omega)
          have hne : (cv != cv) = false := by simp
          clear hs0 HSUM HMEM HFR HSTR hQ
          go_wp2_with fail
          go_roundw
          case rel => exact ⟨k + 1, by go_num, by rw [HST.out], rfl, by omega, LQ.out, MQ.out⟩
          case measure => simp [intOf]; omega
    · have hkz : k = Z := by omega
      subst hkz
      have hzz := hu
      generalize hsv : sumR k l = sv at *
      go_wp2_with fail
      go_loopw [18, 20, 161] (fun s _ v wq => ∃ q : Nat, v = .int .i64 q ∧ s = .int .i64 (sumR k (l.take q)) ∧ q ≤ n ∧ Hid (Below w.heap.size w wq)) (fun _ _ v _ => n - (intOf v).toNat)
      case atStart => exact ⟨0, rfl, rfl, by omega, L5.out⟩
      case round =>
        clear L5 M5 R4
        obtain ⟨q, rfl, rfl, hq, hQ⟩ := hrel
        by_cases hlq : q < n
        · obtain ⟨x, hx⟩ := HL.out.get hlq
          obtain ⟨b, o, hA, d0, d1, d2, d3, d4⟩ := RowS.ext_at (HL.out.below hQ.out) hx
          subst hA
          have hq0 : (0 : Int) ≤ (q : Int) := by omega
          have hqn : (q : Int) < (n : Int) := by omega
          have HSN := Lib.hid (sumR_snoc hx k)
          have f1 := sumR_in (ok_front HOK.out q) (by omega) k
          have f2 := sumR_in (ok_front HOK.out (q + 1)) (by omega) k
          rw [HSN.out] at f2
          clear hx
          obtain ⟨xl, xn, xv, xz, xo⟩ := x
          dsimp only at d0 d1 d2 d3 d4 HSN f2
          generalize sumR k (l.take q) = t at *
          have A1 : Hid (Below wr.heap.size wr (wr.alloc (.cells #[.int .i64 xl, .int .i64 xn, .int .i64 xv, .int .i64 xz, .int .i64 xo] 32))) := (Below.refl _ wr).alloc (Nat.le_refl _) _
          have B1 : Hid (LBox (wr.alloc (.cells #[.int .i64 xl, .int .i64 xn, .int .i64 xv, .int .i64 xz, .int .i64 xo] 32)) wr.heap.size ⟨xl, xn, xv, xz, xo⟩) := Ext.Cells.new _ _ _
          obtain ⟨n0, n1, n2, n3, n4⟩ := LBox.cells B1.out
          dsimp only at n0 n1 n2 n3 n4
          go_upto_region 31 with fail
          have L7 := Lib.hid (hQ.out.trans (A1.out.mono hQ.out.size))
          generalize wr.heap.size = g at *
          generalize wr.alloc (.cells #[.int .i64 xl, .int .i64 xn, .int .i64 xv, .int .i64 xz, .int .i64 xo] 32) = w7 at *
          clear d0 d1 d2 d3 d4 A1 hQ
          rcases g1 : decide (xz ≥ 0)
          · have h1 : ¬ 0 ≤ xz := of_decide_eq_false g1
            rw [if_neg (by omega)] at HSN f2
            clear h1
            go_wp2_with fail
            go_roundw
            case rel => exact ⟨q + 1, by go_num, by rw [HSN.out, Int.add_zero], by omega, L7.out⟩
            case measure => simp [intOf]; omega
          · have h1 : 0 ≤ xz := of_decide_eq_true g1
            rcases g2 : decide (xz < (k : Int))
            · have h2 : ¬ xz < (k : Int) := of_decide_eq_false g2
              rw [if_neg (by omega)] at HSN f2
              clear h1 h2
              go_wp2_with fail
              go_roundw
              case rel => exact ⟨q + 1, by go_num, by rw [HSN.out, Int.add_zero], by omega, L7.out⟩
              case measure => simp [intOf]; omega
            · have h2 : xz < (k : Int) := of_decide_eq_true g2
              rw [if_pos ⟨h1, h2⟩] at HSN f2
              have hwt : IntKind.i64.wrap (t + xn) = t + xn := Ext.wrap_small (by omega) (by omega)
              clear h1 h2
              go_wp2_with fail
              go_roundw
              case rel => exact ⟨q + 1, by go_num, by rw [HSN.out], by omega, L7.out⟩
              case measure => simp [intOf]; omega
        · have hqn : q = n := by omega
          have hs0 : sumR k (l.take q) = sv := by rw [List.take_of_length_le (by have := hlen.out; omega)]; exact hsv
          rw [hs0]
          have hee : (sv == sv) = true := by simp
          clear hs0 hsv
          go_wp2_with fail
          go_ret
          exact ⟨rfl, hQ.out⟩
end Liv
end Go.Proofs.Ytnnphpfobdcmbaa
/-
  THE STATEMENT LiveCounts: its row. For every input. (Written by gen_livrows.py.)
-/
namespace Go.Proofs.Ytnnphpfobdcmbaa
open Go.ChangeShapes Go.WideShapes Go.ChangeAt Go.RowKit Mem
namespace Liv

theorem liveCounts_says : Frame.Says Rows.liveCountsSpec 2 := by
  refine ⟨rfl, fun H ds h => ?_, fun H ds h => ?_, fun H ds h => ?_⟩ <;>
  · match ds, h with
    | [d0, d1], _ => rfl

set_option maxRecDepth 100000 in
theorem liveCounts_walks : Frame.Walks 3 [22, 3] := by
  intro H enc W args ds ps base hok hA hsz
  obtain ⟨v0, vs0, d0, ds0, p0, q0, hargs, rfl, rfl, h0, r0⟩ := trodAll_cons hA
  obtain ⟨v1, vs1, d1, ds1, p1, q1, rfl, rfl, rfl, h1, r1⟩ := trodAll_cons r0
  obtain ⟨rfl, rfl, rfl⟩ := trodAll_nil r1
  obtain rfl : args = #[v0, v1] := by cases args; simp_all
  obtain ⟨A0, n0, c0, l0, rfl, hl0, hs0⟩ := Args.open_extsN (hok 0 _ v0 rfl rfl) h0 (Args.sized_arg hsz (j := 0) rfl rfl)
  obtain ⟨i1, rfl, rfl, rfl, wi1⟩ := open_int Try.underlying3 (hok 1 _ v1 rfl rfl) h1
  exact liveCounts_walk hl0 hs0 i1

set_option maxRecDepth 100000 in
theorem liveCounts_over : Rows.liveCountsRow.holds Try.pinned (OpenSpec.ofChange Rows.liveCountsSpec) :=
  OpenClaim.holds_of_wide 3 Try.f3 rfl rfl rfl rfl rfl rfl rfl ⟨rfl, rfl, rfl, rfl, rfl⟩ rfl rfl rfl rfl rfl (by kernel_rfl) Try.func3 (by kernel_rfl)
    (of_decide_eq_true (by kernel_rfl)) (by unfold Func.isWrapper; first | (rw [if_pos (by decide +kernel)]; kernel_rfl) | (rw [if_neg (by decide +kernel)]; exact ⟨rfl, rfl⟩))
    (fun os started H enc _ => Frame.lifted (started := started) Try.underlying4 (by kernel_rfl) Try.func3 (n := 2) (by rw [Try.params3]; rfl) liveCounts_says (by rw [Try.params3]; kernel_rfl) (by kernel_rfl)
      (ChangeSpec.witness6 (enc := enc) (C := Try.checked) false ⟨#[], #[.slice none 0 0, .int .i64 0], []⟩ 8 (by kernel_rfl) (by kernel_rfl) (by kernel_rfl) (by kernel_rfl))
      (by rw [Try.params3]; exact liveCounts_walks))
end Liv
/-- The given statement. -/
theorem liveCounts_holds : Rows.LiveCountsSaid := Liv.liveCounts_over
end Go.Proofs.Ytnnphpfobdcmbaa
