/-
  A WALK OVER epochsDiffer: the epochs are sorted, alike ones put together, and counted.
-/
import Derived.Test.YtehknenlifdchaaLeaMem
import Derived.Test.YtehknenlifdchaaSortLay
namespace Go.Proofs.Ytehknenlifdchaa
open Go.RowKit Mem Go.Shelf Go.Sort
namespace Lea

theorem below_put {B n blk off : Nat} {w : World} {enc : Int → Value} {d : Array Int} (hb : B ≤ blk) : Below B w (putRow enc (Sort.ahead w n) blk off d) :=
  ⟨rfl, rfl, rfl, by simp [putRow, mapBlock, Sort.ahead], fun i hi => by simp [putRow, mapBlock, Sort.ahead, Array.getElem?_modify]; intro h; omega⟩
theorem below_grow {B : Nat} {w w' : World} {os : Array Obj} (h : Below B w w') (hb : B ≤ w.heap.size) : Below B w (grow w' os) :=
  ⟨h.os, h.tape, h.output, by simp [grow]; have := h.size; omega, fun i hi => by
    have := h.size
    show (w'.heap ++ os)[i]? = _
    rw [Array.getElem?_append_left (by omega)]
    exact h.block i hi⟩
theorem below_grow' {B : Nat} {w w' : World} {os : Array Obj} (h : Below B w w') (hb : B ≤ w.heap.size) : Below B w (grow w' os) := below_grow h hb

/-- Sorted, and alike ones put together, as many are left as there were just where no two are alike. -/
theorem compact_nodup (l : List Int) (d : Array Int) (hd : d = (l.mergeSort fun x y => decide (x ≤ y)).toArray) : ((Lib.compactUpTo d d.size).length = l.length) ↔ l.Nodup := by
  have hlen : d.size = l.length := by rw [hd]; simp
  have hperm : d.toList.Perm l := by rw [hd]; simpa using List.mergeSort_perm l _
  have hs : d.toList.Pairwise (fun x y => decide (x ≤ y) = true) := by
    rw [hd]
    exact List.pairwise_mergeSort (fun a b c h1 h2 => by simp at *; omega) (fun a b => by simp; omega) l
  unfold Lib.compactUpTo
  rw [List.length_map, ← hlen]
  have h1 : ((List.range d.size).filter (Lib.keeps d)).length = d.size ↔ ∀ j, j < d.size → Lib.keeps d j = true := by
    have := List.length_filter_eq_length_iff (p := Lib.keeps d) (l := List.range d.size)
    rw [List.length_range] at this
    rw [this]
    simp
  rw [h1, ← hperm.nodup_iff]
  constructor
  · intro h
    rw [List.nodup_iff_pairwise_ne, List.pairwise_iff_getElem]
    intro i j hi hj hij
    have hle : ∀ k, i ≤ k → k + 1 < d.toList.length → d.toList[i]! ≤ d.toList[k]! := by
      intro k hik hk
      rcases Nat.eq_or_lt_of_le hik with h2 | h2
      · subst h2; exact Int.le_refl _
      · have := List.pairwise_iff_getElem.1 hs i k hi (by omega) h2
        rw [getElem!_pos _ i hi, getElem!_pos _ k (by omega)]
        simpa using this
    have hjs : j < d.size := by simpa using hj
    have hk := h j hjs
    unfold Lib.keeps at hk
    rw [decide_eq_true_eq] at hk
    have h3 : d[j]! ≠ d[j - 1]! := by
      rcases hk with hk | hk
      · omega
      · exact hk
    have h4 := hle (j - 1) (by omega) (by omega)
    have h5 := List.pairwise_iff_getElem.1 hs (j - 1) j (by omega) hj (by omega)
    rw [decide_eq_true_eq] at h5
    rw [getElem!_pos _ i hi, getElem!_pos _ (j - 1) (by omega)] at h4
    rw [getElem!_pos d j hjs, getElem!_pos d (j - 1) (by omega)] at h3
    simp only [Array.getElem_toList] at h4 h5 ⊢
    omega
  · intro h j hj
    unfold Lib.keeps
    rw [decide_eq_true_eq]
    rcases Nat.eq_zero_or_pos j with h0 | h0
    · exact .inl h0
    · refine .inr ?_
      rw [List.nodup_iff_pairwise_ne, List.pairwise_iff_getElem] at h
      have := h (j - 1) j (by simp; omega) (by simpa using hj) (by omega)
      rw [getElem!_pos d j hj, getElem!_pos d (j - 1) (by omega)]
      simp only [Array.getElem_toList] at this
      exact fun e => this e.symm

theorem run_make_ints (w : World) (n : Nat) (hn : n ≤ 1000000) : (Instr.makeSlice 26 (.int .i64 (n : Int)) (.int .i64 (n : Int))).run Try.prog w = .ok (.slice (some ⟨w.heap.size, 0, none⟩) n n) (w.alloc (.cells (madeCells #[.int .i64 0] n) 3)) := by
  obtain ⟨i, hi, hz0, hz1, hz2⟩ := info_parts info_int
  have h := run_make (P := Try.prog) w 26 3 i _ Try.underlying26 hi hz0 .i64 .i64 (n : Int) (n : Int) (by omega) (by omega) (by rw [hz2]; omega) (by omega)
  rw [hz1] at h
  simpa [Value.cells] using h
/-- The epochs up to k are laid. -/
structure Laid (w0 wr : World) (l : List Lv) (n k : Nat) : Prop where
  below : Below w0.heap.size w0 wr
  cells : ∃ cs, Cells wr w0.heap.size 3 cs ∧ cs.size = n ∧ ∀ j x, j < k → l[j]? = some x → cs[j]? = some (.int .i64 x.epoch)

set_option maxRecDepth 100000 in
set_option maxHeartbeats 3200000 in
theorem differ_any {A : Option Addr} {n c : Nat} {l : List Lv} {w : World} (h : RowL w A n c l) (hn : n ≤ 1000000) :
    Calls Try.prog 35 #[.slice A n c] w fun e w' => e = .returned (.bool (differB l)) ∧ Below w.heap.size w w' := by
  have HR := Lib.hid h
  have hbig := h.big
  have hlen := Lib.hid h.len
  clear h
  obtain ⟨o, ho⟩ : ∃ o : Nat, o = 0 := ⟨0, rfl⟩
  have HO := Lib.hid ho
  have hmk : ∀ w : World, (Instr.makeSlice 26 (.int .i64 (n : Int)) (.int .i64 (n : Int))).run Try.prog w = .ok (.slice (some ⟨w.heap.size, o, none⟩) n n) (w.alloc (.cells (madeCells #[.int .i64 0] n) 3)) := by
    rw [ho]; exact fun w => run_make_ints w n hn
  have L0 : Hid (Laid w (w.alloc (.cells (madeCells #[.int .i64 0] n) 3)) l n 0) := ⟨(Below.refl _ w).alloc (Nat.le_refl _) _, _, Cells.new w _ _, by simp [madeCells], fun j x hj => by omega⟩
  clear ho
  go_enter Try.func35, Try.ntmps35
  go_upto_region 2 with fail
  generalize w.alloc (.cells (madeCells #[.int .i64 0] n) 3) = w1 at *
  go_wp2_with fail
  go_loopw [4, 5, 11] (fun _ _ i wr => ∃ k : Nat, i = .int .i64 k ∧ k ≤ n ∧ Hid (Laid w wr l n k)) (fun _ _ i _ => n - (intOf i).toNat)
  case atStart => exact ⟨0, rfl, by omega, L0.out⟩
  case round =>
    obtain ⟨k, rfl, hk, hH⟩ := hrel
    by_cases hlt : k < n
    · obtain ⟨z, hz⟩ := HR.out.get hlt
      obtain ⟨q, p, hA, c0, c1, c2, c3⟩ := RowS.lease_at (HR.out.below hH.out.below) hz
      subst hA
      have hk0 : (0 : Int) ≤ (k : Int) := by omega
      have hkn : (k : Int) < (n : Int) := by omega
      have HZ := Lib.hid hz
      clear hz
      have A1 : Hid (Below wr.heap.size wr (wr.alloc (.cells #[.int .i64 z.key, .int .i64 z.host, .int .i64 z.epoch, .int .i64 z.til] 43))) := (Below.refl _ wr).alloc (Nat.le_refl _) _
      have B1 : Hid (LBox (wr.alloc (.cells #[.int .i64 z.key, .int .i64 z.host, .int .i64 z.epoch, .int .i64 z.til] 43)) wr.heap.size z) := Cells.new _ _ _
      obtain ⟨n0, n1, n2, n3⟩ := LBox.cells B1.out
      go_upto_region 5 with fail
      generalize wr.alloc (.cells #[.int .i64 z.key, .int .i64 z.host, .int .i64 z.epoch, .int .i64 z.til] 43) = w2 at *
      obtain ⟨cs, hcs, hsz, hat⟩ := hH.out.cells
      have C2 := Lib.hid (Cells.below hcs A1.out)
      obtain ⟨u, hu⟩ : ∃ u, w2.cell? ⟨w.heap.size, o + k, none⟩ = some u := by
        rw [HO.out, Nat.zero_add, Cells.cell C2.out]
        exact ⟨_, Array.getElem?_eq_getElem (by omega)⟩
      have hfz : w2.frozen? ⟨w.heap.size, o + k, none⟩ = false := Cells.frozen C2.out _
      have FIN : Hid (Laid w (w2.setCell ⟨w.heap.size, o + k, none⟩ (.int .i64 z.epoch)) l n (k + 1)) := by
        refine ⟨(hH.out.below.trans (A1.out.mono hH.out.below.size)).setCell (p := ⟨w.heap.size, o + k, none⟩) (Nat.le_refl _) _, _, Cells.set_ C2.out _ _, by simpa using hsz, fun j x hj hx => ?_⟩
        rw [HO.out, Nat.zero_add, Array.getElem?_setIfInBounds]
        by_cases h1 : k = j
        · subst h1
          have := HZ.out.symm.trans hx
          injection this with this; subst this
          rw [if_pos rfl, if_pos (by omega)]
        · rw [if_neg h1]; exact hat j x (by omega) hx
      clear hat hcs
      go_wp2_with fail
      go_roundw
      case rel => exact ⟨k + 1, by go_num, by omega, FIN.out⟩
      case measure => simp [intOf]; omega
    · have hkn : k = n := by omega
      subst hkn
      obtain ⟨cs, hcs, hsz, hat⟩ := hH.out.cells
      have LB := Lib.hid hH.out.below
      have hzl : Hid ((l.map Lv.epoch).length = k) := by show _ = _; rw [List.length_map]; exact hlen.out
      have hH0 : Hid (Holds (Value.int .i64) wr w.heap.size o (l.map Lv.epoch).toArray) := by
        show Holds _ _ _ _ _
        intro j hj
        have hj' : j < (l.map Lv.epoch).length := by simpa using hj
        have hjl : j < l.length := by simpa using hj'
        rw [HO.out, Nat.zero_add, Cells.cell hcs]
        refine ⟨?_, Cells.frozen hcs j⟩
        rw [hat j _ (by have := hlen.out; omega) (List.getElem?_eq_getElem hjl), getElem!_pos _ j hj]
        simp
      have hsort := Any.slices_Sort_int laysSort w.heap.size o k (l.map Lv.epoch) wr hH0.out (Cells.lt hcs) (by have := hzl.out; omega)
      rw [hzl.out] at hsort
      have HS : Hid (Calls Try.prog 50 #[.slice (some ⟨w.heap.size, o, none⟩) k k] wr fun e w' => e = .returned (.tuple #[]) ∧ ∃ n os, w' = grow (putRow (Value.int .i64) (Sort.ahead wr n) w.heap.size o ((l.map Lv.epoch).mergeSort fun x y => decide (x ≤ y)).toArray) os) := hsort
      clear hsort hat hH
      have LT := Lib.hid (Cells.lt hcs)
      clear hcs
      go_wp2_with fail
      refine HS.out.mono ?_
      rintro e w3 ⟨rfl, m, os, rfl⟩
      obtain ⟨d, hd⟩ : ∃ d, d = ((l.map Lv.epoch).mergeSort fun x y => decide (x ≤ y)).toArray := ⟨_, rfl⟩
      rw [← hd]
      have hds : Hid (d.size = k) := by show _ = _; rw [hd]; simpa using hlen.out
      have LG : Hid (Below w.heap.size w (grow (putRow (Value.int .i64) (Sort.ahead wr m) w.heap.size o d) os)) := LB.out.trans (below_grow (below_put (Nat.le_refl _)) LB.out.size)
      have HD : Hid (Holds (Value.int .i64) (grow (putRow (Value.int .i64) (Sort.ahead wr m) w.heap.size o d) os) w.heap.size o d) := by
        show Holds _ _ _ _ _
        have hp : Holds (Value.int .i64) (putRow (Value.int .i64) (Sort.ahead wr m) w.heap.size o d) w.heap.size o d := holds_putRow _ _ _ _ _ _ (holds_ahead _ _ m _ _ _ hH0.out) (by rw [hds.out]; simpa using hzl.out.symm)
        exact holds_grow _ _ _ _ _ _ (by simp [putRow, mapBlock, Sort.ahead]; exact LT.out) hp
      have HNB := Lib.hid (compact_nodup (l.map Lv.epoch) d hd)
      clear HS hd
      generalize grow (putRow (Value.int .i64) (Sort.ahead wr m) w.heap.size o d) os = w4 at *
      have hcom := Any.slices_Compact_int_arr laysCompact w.heap.size o k d w4 HD.out (by have := hds.out; omega) (by have := hds.out; omega)
      rw [hds.out] at hcom
      obtain ⟨r, hr⟩ : ∃ r, (Lib.compactUpTo d k).length = r := ⟨_, rfl⟩
      rw [hr] at hcom
      have HC : Hid (Calls Try.prog 51 #[.slice (some ⟨w.heap.size, o, none⟩) k k] w4 fun e w' => e = .returned (.slice (some ⟨w.heap.size, o, none⟩) r k) ∧ Below w.heap.size w4 w') := by
        show Calls _ _ _ _ _
        exact hcom.mono (fun e w' ⟨h1, q, h2⟩ => ⟨h1, by rw [h2]; exact below_put (Nat.le_refl _)⟩)
      have HRR : Hid (differB l = decide (r = k)) := by
        show _ = _
        have := HNB.out
        rw [hds.out, hr, List.length_map, hlen.out] at this
        exact decide_eq_decide.2 (show Differ l ↔ r = k from this.symm)
      clear hcom hr
      go_wp2_with fail
      refine HC.out.mono ?_
      rintro e w5 ⟨rfl, hb5⟩
      have L5 := Lib.hid (LG.out.trans hb5)
      clear hb5 HC
      by_cases hrk : r = k
      · subst hrk
        go_wp2_with fail
        go_ret
        exact ⟨by rw [HRR.out]; simp, L5.out⟩
      · go_wp2_with fail
        go_ret
        exact ⟨by rw [HRR.out]; simp [hrk]; omega, L5.out⟩
end Lea
end Go.Proofs.Ytehknenlifdchaa
