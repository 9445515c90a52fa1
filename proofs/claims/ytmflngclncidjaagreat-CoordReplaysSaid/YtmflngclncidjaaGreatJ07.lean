/-
  SEVERAL TEXTS IN ONE FILE: LeaDiff, LeaIdx, LeaPart.
-/
import Derived.Test.YtmflngclncidjaaGreatJ04
import Derived.Test.YtmflngclncidjaaGreatJ06
import Derived.Shelf.Abstract
/-
  A WALK OVER epochsDiffer: the epochs are sorted, alike ones put together, and counted.
-/
namespace Go.Proofs.YtmflngclncidjaaGreat
open Go.RowKit Mem Go.Shelf Go.Sort
namespace Lea

theorem below_put {B n blk off : Nat} {w : World} {enc : Int → Value} {d : Array Int} (hb : B ≤ blk) : Below B w (putRow enc (Sort.ahead w n) blk off d) :=
  ⟨rfl, rfl, rfl, by simp [putRow, mapBlock, Sort.ahead], fun i hi => by simp [putRow, mapBlock, Sort.ahead, Array.getElem?_modify]; intro h; omega⟩
theorem below_grow {B : Nat} {w w' : World} {os : Array Obj} (h : Below B w w') (hb : B ≤ w.heap.size) : Below B w (grow w' os) :=
  ⟨h.os, h.tape, h.output, by simp [grow]; have := h.size; omega, fun i hi => by
    have := h.size
    show (w'.heap ++ os)[i]? = _
    rw [Array.getElem?_append_left (by omega)]
    exact h.block i hi⟩
theorem below_grow' {B : Nat} {w w' : World} {os : Array Obj} (h : Below B w w') (hb : B ≤ w.heap.size) : Below B w (grow w' os) := below_grow h hb

/-- Sorted, and alike ones put together, as many are left as there were just where no two are alike. -/
theorem compact_nodup (l : List Int) (d : Array Int) (hd : d = (l.mergeSort fun x y => decide (x ≤ y)).toArray) : ((Lib.compactUpTo d d.size).length = l.length) ↔ l.Nodup := by
  have hlen : d.size = l.length := by rw [hd]; simp
  have hperm : d.toList.Perm l := by rw [hd]; simpa using List.mergeSort_perm l _
  have hs : d.toList.Pairwise (fun x y => decide (x ≤ y) = true) := by
    rw [hd]
    exact List.pairwise_mergeSort (fun a b c h1 h2 => by simp at *; omega) (fun a b => by simp; omega) l
  unfold Lib.compactUpTo
  rw [List.length_map, ← hlen]
  have h1 : ((List.range d.size).filter (Lib.keeps d)).length = d.size ↔ ∀ j, j < d.size → Lib.keeps d j = true := by
    have := List.length_filter_eq_length_iff (p := Lib.keeps d) (l := List.range d.size)
    rw [List.length_range] at this
    rw [this]
    simp
  rw [h1, ← hperm.nodup_iff]
  constructor
  · intro h
    rw [List.nodup_iff_pairwise_ne, List.pairwise_iff_getElem]
    intro i j hi hj hij
    have hle : ∀ k, i ≤ k → k + 1 < d.toList.length → d.toList[i]! ≤ d.toList[k]! := by
      intro k hik hk
      rcases Nat.eq_or_lt_of_le hik with h2 | h2
      · subst h2; exact Int.le_refl _
      · have := List.pairwise_iff_getElem.1 hs i k hi (by omega) h2
        rw [getElem!_pos _ i hi, getElem!_pos _ k (by omega)]
        simpa using this
    have hjs : j < d.size := by simpa using hj
    have hk := h j hjs
    unfold Lib.keeps at hk
    rw [decide_eq_true_eq] at hk
    have h3 : d[j]! ≠ d[j - 1]! := by
      rcases hk with hk | hk
      · omega
      · exact hk
    have h4 := hle (j - 1) (by omega) (by omega)
    have h5 := List.pairwise_iff_getElem.1 hs (j - 1) j (by omega) hj (by omega)
    rw [decide_eq_true_eq] at h5
    rw [getElem!_pos _ i hi, getElem!_pos _ (j - 1) (by omega)] at h4
    rw [getElem!_pos d j hjs, getElem!_pos d (j - 1) (by omega)] at h3
    simp only [Array.getElem_toList] at h4 h5 ⊢
    omega
  · intro h j hj
    unfold Lib.keeps
    rw [decide_eq_true_eq]
    rcases Nat.eq_zero_or_pos j with h0 | h0
    · exact .inl h0
    · refine .inr ?_
      rw [List.nodup_iff_pairwise_ne, List.pairwise_iff_getElem] at h
      have := h (j - 1) j (by simp; omega) (by simpa using hj) (by omega)
      rw [getElem!_pos d j hj, getElem!_pos d (j - 1) (by omega)]
      simp only [Array.getElem_toList] at this
      exact fun e => this e.symm

theorem run_make_ints (w : World) (n : Nat) (hn : n ≤ 1000000) : (Instr.makeSlice 54 (.int .i64 (n : Int)) (.int .i64 (n : Int))).run Tryz.prog w = .ok (.slice (some ⟨w.heap.size, 0, none⟩) n n) (w.alloc (.cells (madeCells #[.int .i64 0] n) 3)) := by
  obtain ⟨i, hi, hz0, hz1, hz2⟩ := info_parts info_int
  have h := run_make (P := Tryz.prog) w 54 3 i _ Tryz.underlying54 hi hz0 .i64 .i64 (n : Int) (n : Int) (by omega) (by omega) (by rw [hz2]; omega) (by omega)
  rw [hz1] at h
  simpa [Value.cells] using h
/-- The epochs up to k are laid. -/
structure Laid (w0 wr : World) (l : List Lv) (n k : Nat) : Prop where
  below : Below w0.heap.size w0 wr
  cells : ∃ cs, Cells wr w0.heap.size 3 cs ∧ cs.size = n ∧ ∀ j x, j < k → l[j]? = some x → cs[j]? = some (.int .i64 x.epoch)

set_option maxRecDepth 100000 in
set_option maxHeartbeats 3200000 in
theorem differ_any {A : Option Addr} {n c : Nat} {l : List Lv} {w : World} (h : RowL w A n c l) (hn : n ≤ 1000000) :
    Calls Tryz.prog 55 #[.slice A n c] w fun e w' => e = .returned (.bool (differB l)) ∧ Below w.heap.size w w' := by
  have HR := Lib.hid h
  have hbig := h.big
  have hlen := Lib.hid h.len
  clear h
  obtain ⟨o, ho⟩ : ∃ o : Nat, o = 0 := ⟨0, rfl⟩
  have HO := Lib.hid ho
  have hmk : ∀ w : World, (Instr.makeSlice 54 (.int .i64 (n : Int)) (.int .i64 (n : Int))).run Tryz.prog w = .ok (.slice (some ⟨w.heap.size, o, none⟩) n n) (w.alloc (.cells (madeCells #[.int .i64 0] n) 3)) := by
    rw [ho]; exact fun w => run_make_ints w n hn
  have L0 : Hid (Laid w (w.alloc (.cells (madeCells #[.int .i64 0] n) 3)) l n 0) := ⟨(Below.refl _ w).alloc (Nat.le_refl _) _, _, Cells.new w _ _, by simp [madeCells], fun j x hj => by omega⟩
  clear ho
  go_enter Tryz.func55, Tryz.ntmps55
  go_upto_region 2 with fail
  generalize w.alloc (.cells (madeCells #[.int .i64 0] n) 3) = w1 at *
  go_wp2_with fail
  go_loopw [4, 5, 11] (fun _ _ i wr => ∃ k : Nat, i = .int .i64 k ∧ k ≤ n ∧ Hid (Laid w wr l n k)) (fun _ _ i _ => n - (intOf i).toNat)
  case atStart => exact ⟨0, rfl, by omega, L0.out⟩
  case round =>
    obtain ⟨k, rfl, hk, hH⟩ := hrel
    by_cases hlt : k < n
    · obtain ⟨z, hz⟩ := HR.out.get hlt
      obtain ⟨q, p, hA, c0, c1, c2, c3⟩ := RowS.lease_at (HR.out.below hH.out.below) hz
      subst hA
      have hk0 : (0 : Int) ≤ (k : Int) := by omega
      have hkn : (k : Int) < (n : Int) := by omega
      have HZ := Lib.hid hz
      clear hz
      have A1 : Hid (Below wr.heap.size wr (wr.alloc (.cells #[.int .i64 z.key, .int .i64 z.host, .int .i64 z.epoch, .int .i64 z.til] 65))) := (Below.refl _ wr).alloc (Nat.le_refl _) _
      have B1 : Hid (LBox (wr.alloc (.cells #[.int .i64 z.key, .int .i64 z.host, .int .i64 z.epoch, .int .i64 z.til] 65)) wr.heap.size z) := Cells.new _ _ _
      obtain ⟨n0, n1, n2, n3⟩ := LBox.cells B1.out
      go_upto_region 5 with fail
      generalize wr.alloc (.cells #[.int .i64 z.key, .int .i64 z.host, .int .i64 z.epoch, .int .i64 z.til] 65) = w2 at *
      obtain ⟨cs, hcs, hsz, hat⟩ := hH.out.cells
      have C2 := Lib.hid (Cells.below hcs A1.out)
      obtain ⟨u, hu⟩ : ∃ u, w2.cell? ⟨w.heap.size, o + k, none⟩ = some u := by
        rw [HO.out, Nat.zero_add, Cells.cell C2.out]
        exact ⟨_, Array.getElem?_eq_getElem (by omega)⟩
      have hfz : w2.frozen? ⟨w.heap.size, o + k, none⟩ = false := Cells.frozen C2.out _
      have FIN : Hid (Laid w (w2.setCell ⟨w.heap.size, o + k, none⟩ (.int .i64 z.epoch)) l n (k + 1)) := by
        refine ⟨(hH.out.below.trans (A1.out.mono hH.out.below.size)).setCell (p := ⟨w.heap.size, o + k, none⟩) (Nat.le_refl _) _, _, Cells.set_ C2.out _ _, by simpa using hsz, fun j x hj hx => ?_⟩
        rw [HO.out, Nat.zero_add, Array.getElem?_setIfInBounds]
        by_cases h1 : k = j
        · subst h1
          have := HZ.out.symm.trans hx
          injection this with this; subst this
          rw [if_pos rfl, if_pos (by omega)]
        · rw [if_neg h1]; exact hat j x (by omega) hx
      clear hat hcs
      go_wp2_with fail
      go_roundw
      case rel => exact ⟨k + 1, by go_num, by omega, FIN.out⟩
      case measure => simp [intOf]; omega
    · have hkn : k = n := by omega
      subst hkn
      obtain ⟨cs, hcs, hsz, hat⟩ := hH.out.cells
      have LB := Lib.hid hH.out.below
      have hzl : Hid ((l.map Lv.epoch).length = k) := by show _ = _; rw [List.length_map]; exact hlen.out
      have hH0 : Hid (Holds (Value.int .i64) wr w.heap.size o (l.map Lv.epoch).toArray) := by
        show Holds _ _ _ _ _
        intro j hj
        have hj' : j < (l.map Lv.epoch).length := by simpa using hj
        have hjl : j < l.length := by simpa using hj'
        rw [HO.out, Nat.zero_add, Cells.cell hcs]
        refine ⟨?_, Cells.frozen hcs j⟩
        rw [hat j _ (by have := hlen.out; omega) (List.getElem?_eq_getElem hjl), getElem!_pos _ j hj]
        simp
      have hsort := Any.slices_Sort_int laysSort w.heap.size o k (l.map Lv.epoch) wr hH0.out (Cells.lt hcs) (by have := hzl.out; omega)
      rw [hzl.out] at hsort
      have HS : Hid (Calls Tryz.prog 77 #[.slice (some ⟨w.heap.size, o, none⟩) k k] wr fun e w' => e = .returned (.tuple #[]) ∧ ∃ n os, w' = grow (putRow (Value.int .i64) (Sort.ahead wr n) w.heap.size o ((l.map Lv.epoch).mergeSort fun x y => decide (x ≤ y)).toArray) os) := hsort
      clear hsort hat hH
      have LT := Lib.hid (Cells.lt hcs)
      clear hcs
      go_wp2_with fail
      refine HS.out.mono ?_
      rintro e w3 ⟨rfl, m, os, rfl⟩
      obtain ⟨d, hd⟩ : ∃ d, d = ((l.map Lv.epoch).mergeSort fun x y => decide (x ≤ y)).toArray := ⟨_, rfl⟩
      rw [← hd]
      have hds : Hid (d.size = k) := by show _ = _; rw [hd]; simpa using hlen.out
      have LG : Hid (Below w.heap.size w (grow (putRow (Value.int .i64) (Sort.ahead wr m) w.heap.size o d) os)) := LB.out.trans (below_grow (below_put (Nat.le_refl _)) LB.out.size)
      have HD : Hid (Holds (Value.int .i64) (grow (putRow (Value.int .i64) (Sort.ahead wr m) w.heap.size o d) os) w.heap.size o d) := by
        show Holds _ _ _ _ _
        have hp : Holds (Value.int .i64) (putRow (Value.int .i64) (Sort.ahead wr m) w.heap.size o d) w.heap.size o d := holds_putRow _ _ _ _ _ _ (holds_ahead _ _ m _ _ _ hH0.out) (by rw [hds.out]; simpa using hzl.out.symm)
        exact holds_grow _ _ _ _ _ _ (by simp [putRow, mapBlock, Sort.ahead]; exact LT.out) hp
      have HNB := Lib.hid (compact_nodup (l.map Lv.epoch) d hd)
      clear HS hd
      generalize grow (putRow (Value.int .i64) (Sort.ahead wr m) w.heap.size o d) os = w4 at *
      have hcom := Any.slices_Compact_int_arr laysCompact w.heap.size o k d w4 HD.out (by have := hds.out; omega) (by have := hds.out; omega)
      rw [hds.out] at hcom
      obtain ⟨r, hr⟩ : ∃ r, (Lib.compactUpTo d k).length = r := ⟨_, rfl⟩
      rw [hr] at hcom
      have HC : Hid (Calls Tryz.prog 78 #[.slice (some ⟨w.heap.size, o, none⟩) k k] w4 fun e w' => e = .returned (.slice (some ⟨w.heap.size, o, none⟩) r k) ∧ Below w.heap.size w4 w') := by
        show Calls _ _ _ _ _
        exact hcom.mono (fun e w' ⟨h1, q, h2⟩ => ⟨h1, by rw [h2]; exact below_put (Nat.le_refl _)⟩)
      have HRR : Hid (differB l = decide (r = k)) := by
        show _ = _
        have := HNB.out
        rw [hds.out, hr, List.length_map, hlen.out] at this
        exact decide_eq_decide.2 (show Differ l ↔ r = k from this.symm)
      clear hcom hr
      go_wp2_with fail
      refine HC.out.mono ?_
      rintro e w5 ⟨rfl, hb5⟩
      have L5 := Lib.hid (LG.out.trans hb5)
      clear hb5 HC
      by_cases hrk : r = k
      · subst hrk
        go_wp2_with fail
        go_ret
        exact ⟨by rw [HRR.out]; simp, L5.out⟩
      · go_wp2_with fail
        go_ret
        exact ⟨by rw [HRR.out]; simp [hrk]; omega, L5.out⟩
end Lea
end Go.Proofs.YtmflngclncidjaaGreat
/-
  WALKS WITH CLOSURES: slices.ContainsFunc over leases, sort.Search, where a key stands (find), and parted.
-/
namespace Go.Proofs.YtmflngclncidjaaGreat
open Go.RowKit Mem
namespace Lea

/-- A question of leases: it answers p, and leaves what lay there. -/
def PredL (g : Nat) (lb : Array Value) (p : Lv → Bool) (w : World) : Prop :=
  ∀ (W : World) (x : Lv), Below w.heap.size w W → Calls Tryz.prog g (#[lv x] ++ lb) W fun e w' => e = .returned (.bool (p x)) ∧ Below W.heap.size W w'
theorem PredL.below {g : Nat} {lb : Array Value} {p : Lv → Bool} {w w' : World} (h : PredL g lb p w) (hb : Below w.heap.size w w') : PredL g lb p w' :=
  fun W x hW => h W x (hb.trans (hW.mono hb.size))

set_option maxRecDepth 100000 in
set_option maxHeartbeats 1600000 in
theorem index_any {A : Option Addr} {n c : Nat} {l : List Lv} {w : World} (h : RowL w A n c l) (g : Nat) (lb : Array Value) (eg : ∀ args w, (callFunc g args).run Tryz.prog w = .ok (.enter g args) w) (p : Lv → Bool) (hp : PredL g lb p w) :
    Calls Tryz.prog 79 #[.slice A n c, .func (.func g) #[] lb] w fun e w' => (∃ r : Int, e = .returned (.int .i64 r) ∧ decide (0 ≤ r) = l.any p) ∧ Below w.heap.size w w' := by
  have HR := Lib.hid h
  have hbig := h.big
  have hlen := Lib.hid h.len
  have HP := Lib.hid hp
  clear h hp
  go_enter Tryz.func79, Tryz.ntmps79
  go_wp2
  go_loopw [5, 8] (fun _ i wr => ∃ k : Nat, i = .int .i64 k ∧ k ≤ n ∧ Hid (Below w.heap.size w wr ∧ ∀ j x, j < k → l[j]? = some x → p x = false)) (fun _ i _ => n - (intOf i).toNat)
  case atStart => exact ⟨0, rfl, by omega, Below.refl _ _, fun j x hj => by omega⟩
  case round =>
    obtain ⟨k, rfl, hk, hH⟩ := hrel
    by_cases hlt : k < n
    · obtain ⟨y, hy⟩ := HR.out.get hlt
      obtain ⟨b, o, hA, c0, c1, c2, c3⟩ := RowS.lease_at (HR.out.below hH.out.1) hy
      subst hA
      have hk0 : (0 : Int) ≤ (k : Int) := by omega
      have hkn : (k : Int) < (n : Int) := by omega
      have HC := fun W (hW : Below w.heap.size w W) => HP.out W y hW
      have HY := Lib.hid hy
      clear hy
      cases e : p y
      · rw [e] at HC
        have HE := Lib.hid e
        clear e
        go_wp2_with (go_at_fn g; refine (HC _ hH.out.1).mono ?_; rintro e w2 ⟨rfl, hb⟩; have L2 := Lib.hid (hH.out.1.trans (hb.mono hH.out.1.size)); clear hb)
        go_roundw
        case rel =>
          refine ⟨k + 1, by go_num, by omega, L2.out, fun j x hj hx => ?_⟩
          by_cases h1 : j = k
          · subst h1
            have := HY.out.symm.trans hx
            injection this with this; subst this; exact HE.out
          · exact hH.out.2 j x (by omega) hx
        case measure => simp [intOf]; omega
      · rw [e] at HC
        have HE := Lib.hid e
        clear e
        go_wp2_with (go_at_fn g; refine (HC _ hH.out.1).mono ?_; rintro e w2 ⟨rfl, hb⟩; have L2 := Lib.hid (hH.out.1.trans (hb.mono hH.out.1.size)); clear hb)
        go_ret
        refine ⟨⟨_, rfl, ?_⟩, L2.out⟩
        have : l.any p = true := List.any_eq_true.2 ⟨y, List.mem_of_getElem? HY.out, HE.out⟩
        rw [this]
        exact decide_eq_true (by omega)
    · go_wp2_with fail
      go_ret
      refine ⟨⟨_, rfl, ?_⟩, hH.out.1⟩
      have : l.any p = false := by
        rw [List.any_eq_false]
        intro x hx
        obtain ⟨i, hi⟩ := List.mem_iff_getElem?.1 hx
        rw [hH.out.2 i x (by have := (List.getElem?_eq_some_iff.1 hi).1; have := hlen.out; omega) hi]; simp
      rw [this]
      rfl

set_option maxRecDepth 100000 in
set_option maxHeartbeats 800000 in
theorem contains_any {A : Option Addr} {n c : Nat} {l : List Lv} {w : World} (h : RowL w A n c l) (g : Nat) (lb : Array Value) (eg : ∀ args w, (callFunc g args).run Tryz.prog w = .ok (.enter g args) w) (p : Lv → Bool) (hp : PredL g lb p w) :
    Calls Tryz.prog 56 #[.slice A n c, .func (.func g) #[] lb] w fun e w' => e = .returned (.bool (l.any p)) ∧ Below w.heap.size w w' := by
  have HI := Lib.hid (index_any h g lb eg p hp)
  clear h hp eg
  go_enter Tryz.func56, Tryz.ntmps56
  go_wp2_with fail
  refine HI.out.mono ?_
  rintro e w2 ⟨⟨r, rfl, hr⟩, hb⟩
  have HRR := Lib.hid hr
  have HB := Lib.hid hb
  clear hr hb
  go_wp2_with fail
  go_ret
  exact ⟨by rw [← HRR.out]; rfl, HB.out⟩

/-! ### sort.Search -/
set_option maxRecDepth 100000 in
set_option maxHeartbeats 3200000 in
theorem search_any {n : Nat} {w : World} (g : Nat) (lb : Array Value) (eg : ∀ args w, (callFunc g args).run Tryz.prog w = .ok (.enter g args) w) (p : Nat → Bool) (hn : n ≤ 140737488351232)
    (hf : ∀ (W : World) (i : Nat), i < n → Below w.heap.size w W → Calls Tryz.prog g (#[.int .i64 i] ++ lb) W fun e w' => e = .returned (.bool (p i)) ∧ Below W.heap.size W w')
    (hm : ∀ a b, a ≤ b → b < n → p a = true → p b = true) :
    Calls Tryz.prog 59 #[.int .i64 n, .func (.func g) #[] lb] w fun e w' => (∃ k : Nat, e = .returned (.int .i64 k) ∧ k ≤ n ∧ (∀ t, t < k → p t = false) ∧ (∀ t, k ≤ t → t < n → p t = true)) ∧ Below w.heap.size w w' := by
  have HF := Lib.hid hf
  have HM := Lib.hid hm
  clear hf hm
  go_enter Tryz.func59, Tryz.ntmps59
  go_wp2
  go_loopg [5, 6] n (fun kx s5 s6 wr => ∃ lo hi : Nat, s5 = .int .i64 lo ∧ s6 = .int .i64 hi ∧ lo ≤ hi ∧ hi ≤ n ∧ hi - lo ≤ kx ∧ Hid (Below w.heap.size w wr ∧ (∀ t, t < lo → p t = false) ∧ (∀ t, hi ≤ t → t < n → p t = true)))
  case atStart => exact ⟨0, n, rfl, rfl, Nat.zero_le _, Nat.le_refl _, by omega, Below.refl _ _, fun t ht => absurd ht (Nat.not_lt_zero _), fun t h1 h2 => by omega⟩
  case round =>
    obtain ⟨lo, hi, rfl, rfl, hlh, hin, hgg, hH⟩ := hrel
    by_cases hlt : lo < hi
    · have hc := HF.out wr ((lo + hi) / 2) (by omega) hH.out.1
      rw [show (((lo + hi) / 2 : Nat) : Int) = ((lo : Int) + (hi : Int)) / 2 by omega] at hc
      cases hp : p ((lo + hi) / 2) <;> rw [hp] at hc
      · have HP := Lib.hid hp
        have HC := Lib.hid hc
        clear hp hc
        go_wp2_with (go_at_fn g; refine HC.out.mono ?_; rintro e w2 ⟨rfl, hb⟩; have L2 := Lib.hid (hH.out.1.trans (hb.mono hH.out.1.size)); clear hb)
        go_roundg (hi - ((lo + hi) / 2 + 1))
        case measure => omega
        case rel =>
          refine ⟨(lo + hi) / 2 + 1, hi, by rw [show ((lo : Int) + (hi : Int)) / 2 + 1 = (((lo + hi) / 2 + 1 : Nat) : Int) by omega], rfl, by omega, hin, Nat.le_refl _, L2.out, fun t ht => ?_, hH.out.2.2⟩
          cases h : p t with
          | false => rfl
          | true => have := HM.out t ((lo + hi) / 2) (by omega) (by omega) h; rw [HP.out] at this; cases this
      · have HP := Lib.hid hp
        have HC := Lib.hid hc
        clear hp hc
        go_wp2_with (go_at_fn g; refine HC.out.mono ?_; rintro e w2 ⟨rfl, hb⟩; have L2 := Lib.hid (hH.out.1.trans (hb.mono hH.out.1.size)); clear hb)
        go_roundg ((lo + hi) / 2 - lo)
        case measure => omega
        case rel =>
          exact ⟨lo, (lo + hi) / 2, rfl, by rw [show ((lo : Int) + (hi : Int)) / 2 = (((lo + hi) / 2 : Nat) : Int) by omega], by omega, by omega, Nat.le_refl _, L2.out, hH.out.2.1, fun t ht htn => HM.out ((lo + hi) / 2) t ht htn HP.out⟩
    · obtain rfl : hi = lo := by omega
      go_wp2
      go_ret
      exact ⟨⟨hi, rfl, hin, hH.out.2.1, hH.out.2.2⟩, hH.out.1⟩

set_option maxRecDepth 100000 in
set_option maxHeartbeats 1600000 in
/-- find's own question: the leases' slice lies in block g, the key in block q. -/
theorem find1_any {A : Option Addr} {n c : Nat} {l : List Lv} {key : Int} {g q i : Nat} {x : Lv} {w : World} (h : RowL w A n c l) (hi : i < n) (hx : l[i]? = some x) (hg : OneBox w g 25 (.slice A n c)) (hq : OneBox w q 3 (.int .i64 key)) :
    Calls Tryz.prog 60 #[.int .i64 i, .pointer (some ⟨g, 0, none⟩), .pointer (some ⟨q, 0, none⟩)] w fun e w' => e = .returned (.bool (decide (key ≤ x.key))) ∧ Below w.heap.size w w' := by
  obtain ⟨b, o, hA, c0, -, -, -⟩ := RowS.lease_at h hx
  subst hA
  have m0 := OneBox.cells hg
  have m1 := OneBox.cells hq
  have hk0 : (0 : Int) ≤ (i : Int) := by omega
  have hkn : (i : Int) < (n : Int) := by omega
  clear h hx hg hq
  go_enter Tryz.func60, Tryz.ntmps60
  go_upto_region 1 with fail
  refine wp_region_held_drew (S := fun W => W.cell? ⟨b, o + i * 4, none⟩ = some (.int .i64 x.key) ∧ W.cell? ⟨g, 0, none⟩ = some (.slice (some ⟨b, o, none⟩) n c) ∧ W.cell? ⟨q, 0, none⟩ = some (.int .i64 key)) (by kernel_rfl) ⟨c0, m0, m1⟩ (fun hHeld => ?_)
  (first | (refine Reg.take 0 (v := ?_) rfl (by kernel_rfl) (by kernel_rfl) (by kernel_rfl) (fun _ _ _ h => h) (Or.inl ⟨by rfl, ?_⟩) (by assumption) ?_; rotate_left; (focus ((intro W hSW); (try dsimp only at hSW); (try go_split_ands); go_simp; (try (with_reducible rfl)); done))) | (refine Reg.take 0 (v := undef) rfl (by kernel_rfl) (by kernel_rfl) (by kernel_rfl) (fun _ _ _ h => h) (Or.inr ⟨by rfl, rfl⟩) (by assumption) ?_))
  (try simp only [Act.put, List.setIfInBounds_toArray, List.set_cons_zero, List.set_cons_succ])
  (first | (refine Reg.take 1 (v := ?_) rfl (by kernel_rfl) (by kernel_rfl) (by kernel_rfl) (fun _ _ _ h => h) (Or.inl ⟨by rfl, ?_⟩) (by assumption) ?_; rotate_left; (focus ((intro W hSW); (try dsimp only at hSW); (try go_split_ands); go_simp; (try (with_reducible rfl)); done))) | (refine Reg.take 1 (v := undef) rfl (by kernel_rfl) (by kernel_rfl) (by kernel_rfl) (fun _ _ _ h => h) (Or.inr ⟨by rfl, rfl⟩) (by assumption) ?_))
  (try simp only [Act.put, List.setIfInBounds_toArray, List.set_cons_zero, List.set_cons_succ])
  (first | (refine Reg.take 2 (v := ?_) rfl (by kernel_rfl) (by kernel_rfl) (by kernel_rfl) (fun _ _ _ h => h) (Or.inl ⟨by rfl, ?_⟩) (by assumption) ?_; rotate_left; (focus ((intro W hSW); (try dsimp only at hSW); (try go_split_ands); go_simp; (try (with_reducible rfl)); done))) | (refine Reg.take 2 (v := undef) rfl (by kernel_rfl) (by kernel_rfl) (by kernel_rfl) (fun _ _ _ h => h) (Or.inr ⟨by rfl, rfl⟩) (by assumption) ?_))
  (try simp only [Act.put, List.setIfInBounds_toArray, List.set_cons_zero, List.set_cons_succ])
  (first | (refine Reg.take 3 (v := ?_) rfl (by kernel_rfl) (by kernel_rfl) (by kernel_rfl) (fun _ _ _ h => h) (Or.inl ⟨by rfl, ?_⟩) (by assumption) ?_; rotate_left; (focus ((intro W hSW); (try dsimp only at hSW); (try go_split_ands); go_simp; (try (with_reducible rfl)); done))) | (refine Reg.take 3 (v := undef) rfl (by kernel_rfl) (by kernel_rfl) (by kernel_rfl) (fun _ _ _ h => h) (Or.inr ⟨by rfl, rfl⟩) (by assumption) ?_))
  (try simp only [Act.put, List.setIfInBounds_toArray, List.set_cons_zero, List.set_cons_succ])
  (first | (refine Reg.take 4 (v := ?_) rfl (by kernel_rfl) (by kernel_rfl) (by kernel_rfl) (fun _ _ _ h => h) (Or.inl ⟨by rfl, ?_⟩) (by assumption) ?_; rotate_left; (focus ((intro W hSW); (try dsimp only at hSW); (try go_split_ands); go_simp; (try (with_reducible rfl)); done))) | (refine Reg.take 4 (v := undef) rfl (by kernel_rfl) (by kernel_rfl) (by kernel_rfl) (fun _ _ _ h => h) (Or.inr ⟨by rfl, rfl⟩) (by assumption) ?_))
  (try simp only [Act.put, List.setIfInBounds_toArray, List.set_cons_zero, List.set_cons_succ])
  (first | (refine Reg.take 5 (v := ?_) rfl (by kernel_rfl) (by kernel_rfl) (by kernel_rfl) (fun _ _ _ h => h) (Or.inl ⟨by rfl, ?_⟩) (by assumption) ?_; rotate_left; (focus ((intro W hSW); (try dsimp only at hSW); (try go_split_ands); go_simp; (try (with_reducible rfl)); done))) | (refine Reg.take 5 (v := undef) rfl (by kernel_rfl) (by kernel_rfl) (by kernel_rfl) (fun _ _ _ h => h) (Or.inr ⟨by rfl, rfl⟩) (by assumption) ?_))
  (try simp only [Act.put, List.setIfInBounds_toArray, List.set_cons_zero, List.set_cons_succ])
  (first | (refine Reg.take 6 (v := ?_) rfl (by kernel_rfl) (by kernel_rfl) (by kernel_rfl) (fun _ _ _ h => h) (Or.inl ⟨by rfl, ?_⟩) (by assumption) ?_; rotate_left; (focus ((intro W hSW); (try dsimp only at hSW); (try go_split_ands); go_simp; (try (with_reducible rfl)); done))) | (refine Reg.take 6 (v := undef) rfl (by kernel_rfl) (by kernel_rfl) (by kernel_rfl) (fun _ _ _ h => h) (Or.inr ⟨by rfl, rfl⟩) (by assumption) ?_))
  (try simp only [Act.put, List.setIfInBounds_toArray, List.set_cons_zero, List.set_cons_succ])
  (first | (refine Reg.take 7 (v := ?_) rfl (by kernel_rfl) (by kernel_rfl) (by kernel_rfl) (fun _ _ _ h => h) (Or.inl ⟨by rfl, ?_⟩) (by assumption) ?_; rotate_left; (focus ((intro W hSW); (try dsimp only at hSW); (try go_split_ands); go_simp; (try (with_reducible rfl)); done))) | (refine Reg.take 7 (v := undef) rfl (by kernel_rfl) (by kernel_rfl) (by kernel_rfl) (fun _ _ _ h => h) (Or.inr ⟨by rfl, rfl⟩) (by assumption) ?_))
  (try simp only [Act.put, List.setIfInBounds_toArray, List.set_cons_zero, List.set_cons_succ])
  refine wpAnyH_done (by kernel_rfl) ?_ _
  go_wp2_with fail
  go_ret
  exact ⟨rfl, (Below.refl _ w).drew⟩

set_option maxRecDepth 100000 in
set_option maxHeartbeats 3200000 in
theorem find_any {A : Option Addr} {n c : Nat} {l : List Lv} {key : Int} {w : World} (h : RowL w A n c l) (hr : Rises l) :
    Calls Tryz.prog 38 #[.slice A n c, .int .i64 key] w fun e w' => (∃ k : Nat, e = .returned (.tuple #[.int .i64 k, .bool (heldB l key)]) ∧ Place l key k) ∧ Below w.heap.size w w' := by
  have HR := Lib.hid h
  have HRI := Lib.hid hr
  have hbig := h.big
  have hlen := Lib.hid h.len
  have L1 : Hid (Below w.heap.size w ((w.alloc (.cells #[.slice A n c] 25)).alloc (.cells #[.int .i64 key] 3))) := ((Below.refl w.heap.size w).alloc (Nat.le_refl _) _).alloc (by simp) _
  have B1 : Hid (OneBox ((w.alloc (.cells #[.slice A n c] 25)).alloc (.cells #[.int .i64 key] 3)) w.heap.size 25 (.slice A n c)) := heap_alloc2_old w _ _
  have B2 : Hid (OneBox ((w.alloc (.cells #[.slice A n c] 25)).alloc (.cells #[.int .i64 key] 3)) (w.heap.size + 1) 3 (.int .i64 key)) := heap_alloc2_new w _ _
  clear h hr
  obtain ⟨p, hp⟩ : ∃ p : Nat → Bool, ∀ i x, l[i]? = some x → p i = decide (key ≤ x.key) := by
    refine ⟨fun i => match l[i]? with | some x => decide (key ≤ x.key) | none => false, fun i x hx => ?_⟩
    simp [hx]
  have HPP := Lib.hid hp
  clear hp
  go_enter Tryz.func38, Tryz.ntmps38
  go_upto_region 1 with fail
  generalize (w.alloc (.cells #[.slice A n c] 25)).alloc (.cells #[.int .i64 key] 3) = w1 at *
  have m0 := OneBox.cells B1.out
  have m1 := OneBox.cells B2.out
  have HS := Lib.hid (search_any (n := n) (w := w1) 60 #[.pointer (some ⟨w.heap.size, 0, none⟩), .pointer (some ⟨w.heap.size + 1, 0, none⟩)] (enters_of Tryz.func60 (by kernel_rfl) rfl) p hbig
    (fun W i hi hW => by
      obtain ⟨x, hx⟩ := HR.out.get hi
      rw [HPP.out i x hx]
      exact find1_any (HR.out.below (L1.out.trans (hW.mono L1.out.size))) hi hx (Cells.below B1.out hW) (Cells.below B2.out hW))
    (fun a b hab hb ha => by
      obtain ⟨x, hx⟩ := HR.out.get (show a < n by omega)
      obtain ⟨y, hy⟩ := HR.out.get hb
      rw [HPP.out a x hx, decide_eq_true_eq] at ha
      rw [HPP.out b y hy, decide_eq_true_eq]
      rcases Nat.eq_or_lt_of_le hab with h1 | h1
      · subst h1; rw [hx] at hy; injection hy with hy; subst hy; exact ha
      · have := rises_lt HRI.out h1 hx hy; omega))
  go_wp2_with fail
  refine HS.out.mono ?_
  rintro e w2 ⟨⟨k, rfl, hk, hlo, hhi⟩, hb⟩
  have L2 := Lib.hid (L1.out.trans (hb.mono L1.out.size))
  have C1 := Lib.hid (Cells.below B1.out hb)
  have C2 := Lib.hid (Cells.below B2.out hb)
  have HPL : Hid (Place l key k) := ⟨by have := hlen.out; omega, fun t x ht hx => by
      have := hlo t ht
      rw [HPP.out t x hx, decide_eq_false_iff_not] at this; omega, fun t x ht hx => by
      have := hhi t ht (by have := (List.getElem?_eq_some_iff.1 hx).1; have := hlen.out; omega)
      rw [HPP.out t x hx, decide_eq_true_eq] at this; exact this⟩
  clear hb hlo hhi HS m0 m1 B1 B2 L1 HPP
  have m0 := OneBox.cells C1.out
  have m1 := OneBox.cells C2.out
  rcases Nat.lt_or_ge k n with hlt | hge
  · obtain ⟨x, hx⟩ := HR.out.get hlt
    obtain ⟨b, o, hA, c0, -, -, -⟩ := RowS.lease_at (HR.out.below L2.out) hx
    subst hA
    have hk0 : (0 : Int) ≤ (k : Int) := by omega
    have hkn : (k : Int) < (n : Int) := by omega
    have hkd : decide (k < n) = true := decide_eq_true hlt
    have HPA := Lib.hid (place_at HRI.out HPL.out hx)
    clear hx
    go_upto_region 2 with fail
    refine wp_region_held_drew (S := fun W => W.cell? ⟨b, o + k * 4, none⟩ = some (.int .i64 x.key) ∧ W.cell? ⟨w.heap.size, 0, none⟩ = some (.slice (some ⟨b, o, none⟩) n c) ∧ W.cell? ⟨w.heap.size + 1, 0, none⟩ = some (.int .i64 key)) (by kernel_rfl) ⟨c0, m0, m1⟩ (fun hHeld => ?_)
    (first | (refine Reg.take 0 (v := ?_) rfl (by kernel_rfl) (by kernel_rfl) (by kernel_rfl) (fun _ _ _ h => h) (Or.inl ⟨by rfl, ?_⟩) (by assumption) ?_; rotate_left; (focus ((intro W hSW); (try dsimp only at hSW); (try go_split_ands); go_simp; (try (with_reducible rfl)); done))) | (refine Reg.take 0 (v := undef) rfl (by kernel_rfl) (by kernel_rfl) (by kernel_rfl) (fun _ _ _ h => h) (Or.inr ⟨by rfl, rfl⟩) (by assumption) ?_))
    (try simp only [Act.put, List.setIfInBounds_toArray, List.set_cons_zero, List.set_cons_succ])
    (first | (refine Reg.take 1 (v := ?_) rfl (by kernel_rfl) (by kernel_rfl) (by kernel_rfl) (fun _ _ _ h => h) (Or.inl ⟨by rfl, ?_⟩) (by assumption) ?_; rotate_left; (focus ((intro W hSW); (try dsimp only at hSW); (try go_split_ands); go_simp; (try (with_reducible rfl)); done))) | (refine Reg.take 1 (v := undef) rfl (by kernel_rfl) (by kernel_rfl) (by kernel_rfl) (fun _ _ _ h => h) (Or.inr ⟨by rfl, rfl⟩) (by assumption) ?_))
    (try simp only [Act.put, List.setIfInBounds_toArray, List.set_cons_zero, List.set_cons_succ])
    (first | (refine Reg.take 2 (v := ?_) rfl (by kernel_rfl) (by kernel_rfl) (by kernel_rfl) (fun _ _ _ h => h) (Or.inl ⟨by rfl, ?_⟩) (by assumption) ?_; rotate_left; (focus ((intro W hSW); (try dsimp only at hSW); (try go_split_ands); go_simp; (try (with_reducible rfl)); done))) | (refine Reg.take 2 (v := undef) rfl (by kernel_rfl) (by kernel_rfl) (by kernel_rfl) (fun _ _ _ h => h) (Or.inr ⟨by rfl, rfl⟩) (by assumption) ?_))
    (try simp only [Act.put, List.setIfInBounds_toArray, List.set_cons_zero, List.set_cons_succ])
    (first | (refine Reg.take 3 (v := ?_) rfl (by kernel_rfl) (by kernel_rfl) (by kernel_rfl) (fun _ _ _ h => h) (Or.inl ⟨by rfl, ?_⟩) (by assumption) ?_; rotate_left; (focus ((intro W hSW); (try dsimp only at hSW); (try go_split_ands); go_simp; (try (with_reducible rfl)); done))) | (refine Reg.take 3 (v := undef) rfl (by kernel_rfl) (by kernel_rfl) (by kernel_rfl) (fun _ _ _ h => h) (Or.inr ⟨by rfl, rfl⟩) (by assumption) ?_))
    (try simp only [Act.put, List.setIfInBounds_toArray, List.set_cons_zero, List.set_cons_succ])
    (first | (refine Reg.take 4 (v := ?_) rfl (by kernel_rfl) (by kernel_rfl) (by kernel_rfl) (fun _ _ _ h => h) (Or.inl ⟨by rfl, ?_⟩) (by assumption) ?_; rotate_left; (focus ((intro W hSW); (try dsimp only at hSW); (try go_split_ands); go_simp; (try (with_reducible rfl)); done))) | (refine Reg.take 4 (v := undef) rfl (by kernel_rfl) (by kernel_rfl) (by kernel_rfl) (fun _ _ _ h => h) (Or.inr ⟨by rfl, rfl⟩) (by assumption) ?_))
    (try simp only [Act.put, List.setIfInBounds_toArray, List.set_cons_zero, List.set_cons_succ])
    (first | (refine Reg.take 5 (v := ?_) rfl (by kernel_rfl) (by kernel_rfl) (by kernel_rfl) (fun _ _ _ h => h) (Or.inl ⟨by rfl, ?_⟩) (by assumption) ?_; rotate_left; (focus ((intro W hSW); (try dsimp only at hSW); (try go_split_ands); go_simp; (try (with_reducible rfl)); done))) | (refine Reg.take 5 (v := undef) rfl (by kernel_rfl) (by kernel_rfl) (by kernel_rfl) (fun _ _ _ h => h) (Or.inr ⟨by rfl, rfl⟩) (by assumption) ?_))
    (try simp only [Act.put, List.setIfInBounds_toArray, List.set_cons_zero, List.set_cons_succ])
    (first | (refine Reg.take 6 (v := ?_) rfl (by kernel_rfl) (by kernel_rfl) (by kernel_rfl) (fun _ _ _ h => h) (Or.inl ⟨by rfl, ?_⟩) (by assumption) ?_; rotate_left; (focus ((intro W hSW); (try dsimp only at hSW); (try go_split_ands); go_simp; (try (with_reducible rfl)); done))) | (refine Reg.take 6 (v := undef) rfl (by kernel_rfl) (by kernel_rfl) (by kernel_rfl) (fun _ _ _ h => h) (Or.inr ⟨by rfl, rfl⟩) (by assumption) ?_))
    (try simp only [Act.put, List.setIfInBounds_toArray, List.set_cons_zero, List.set_cons_succ])
    (first | (refine Reg.take 7 (v := ?_) rfl (by kernel_rfl) (by kernel_rfl) (by kernel_rfl) (fun _ _ _ h => h) (Or.inl ⟨by rfl, ?_⟩) (by assumption) ?_; rotate_left; (focus ((intro W hSW); (try dsimp only at hSW); (try go_split_ands); go_simp; (try (with_reducible rfl)); done))) | (refine Reg.take 7 (v := undef) rfl (by kernel_rfl) (by kernel_rfl) (by kernel_rfl) (fun _ _ _ h => h) (Or.inr ⟨by rfl, rfl⟩) (by assumption) ?_))
    (try simp only [Act.put, List.setIfInBounds_toArray, List.set_cons_zero, List.set_cons_succ])
    (first | (refine Reg.take 8 (v := ?_) rfl (by kernel_rfl) (by kernel_rfl) (by kernel_rfl) (fun _ _ _ h => h) (Or.inl ⟨by rfl, ?_⟩) (by assumption) ?_; rotate_left; (focus ((intro W hSW); (try dsimp only at hSW); (try go_split_ands); go_simp; (try (with_reducible rfl)); done))) | (refine Reg.take 8 (v := undef) rfl (by kernel_rfl) (by kernel_rfl) (by kernel_rfl) (fun _ _ _ h => h) (Or.inr ⟨by rfl, rfl⟩) (by assumption) ?_))
    (try simp only [Act.put, List.setIfInBounds_toArray, List.set_cons_zero, List.set_cons_succ])
    (first | (refine Reg.take 9 (v := ?_) rfl (by kernel_rfl) (by kernel_rfl) (by kernel_rfl) (fun _ _ _ h => h) (Or.inl ⟨by rfl, ?_⟩) (by assumption) ?_; rotate_left; (focus ((intro W hSW); (try dsimp only at hSW); (try go_split_ands); go_simp; (try (with_reducible rfl)); done))) | (refine Reg.take 9 (v := undef) rfl (by kernel_rfl) (by kernel_rfl) (by kernel_rfl) (fun _ _ _ h => h) (Or.inr ⟨by rfl, rfl⟩) (by assumption) ?_))
    (try simp only [Act.put, List.setIfInBounds_toArray, List.set_cons_zero, List.set_cons_succ])
    (first | (refine Reg.take 10 (v := ?_) rfl (by kernel_rfl) (by kernel_rfl) (by kernel_rfl) (fun _ _ _ h => h) (Or.inl ⟨by rfl, ?_⟩) (by assumption) ?_; rotate_left; (focus ((intro W hSW); (try dsimp only at hSW); (try go_split_ands); go_simp; (try (with_reducible rfl)); done))) | (refine Reg.take 10 (v := undef) rfl (by kernel_rfl) (by kernel_rfl) (by kernel_rfl) (fun _ _ _ h => h) (Or.inr ⟨by rfl, rfl⟩) (by assumption) ?_))
    (try simp only [Act.put, List.setIfInBounds_toArray, List.set_cons_zero, List.set_cons_succ])
    (first | (refine Reg.take 11 (v := ?_) rfl (by kernel_rfl) (by kernel_rfl) (by kernel_rfl) (fun _ _ _ h => h) (Or.inl ⟨by rfl, ?_⟩) (by assumption) ?_; rotate_left; (focus ((intro W hSW); (try dsimp only at hSW); (try go_split_ands); go_simp; (try (with_reducible rfl)); done))) | (refine Reg.take 11 (v := undef) rfl (by kernel_rfl) (by kernel_rfl) (by kernel_rfl) (fun _ _ _ h => h) (Or.inr ⟨by rfl, rfl⟩) (by assumption) ?_))
    (try simp only [Act.put, List.setIfInBounds_toArray, List.set_cons_zero, List.set_cons_succ])
    (first | (refine Reg.take 12 (v := ?_) rfl (by kernel_rfl) (by kernel_rfl) (by kernel_rfl) (fun _ _ _ h => h) (Or.inl ⟨by rfl, ?_⟩) (by assumption) ?_; rotate_left; (focus ((intro W hSW); (try dsimp only at hSW); (try go_split_ands); go_simp; (try (with_reducible rfl)); done))) | (refine Reg.take 12 (v := undef) rfl (by kernel_rfl) (by kernel_rfl) (by kernel_rfl) (fun _ _ _ h => h) (Or.inr ⟨by rfl, rfl⟩) (by assumption) ?_))
    (try simp only [Act.put, List.setIfInBounds_toArray, List.set_cons_zero, List.set_cons_succ])
    (first | (refine Reg.take 13 (v := ?_) rfl (by kernel_rfl) (by kernel_rfl) (by kernel_rfl) (fun _ _ _ h => h) (Or.inl ⟨by rfl, ?_⟩) (by assumption) ?_; rotate_left; (focus ((intro W hSW); (try dsimp only at hSW); (try go_split_ands); go_simp; (try (with_reducible rfl)); done))) | (refine Reg.take 13 (v := undef) rfl (by kernel_rfl) (by kernel_rfl) (by kernel_rfl) (fun _ _ _ h => h) (Or.inr ⟨by rfl, rfl⟩) (by assumption) ?_))
    (try simp only [Act.put, List.setIfInBounds_toArray, List.set_cons_zero, List.set_cons_succ])
    (first | (refine Reg.take 14 (v := ?_) rfl (by kernel_rfl) (by kernel_rfl) (by kernel_rfl) (fun _ _ _ h => h) (Or.inl ⟨by rfl, ?_⟩) (by assumption) ?_; rotate_left; (focus ((intro W hSW); (try dsimp only at hSW); (try go_split_ands); go_simp; (try (with_reducible rfl)); done))) | (refine Reg.take 14 (v := undef) rfl (by kernel_rfl) (by kernel_rfl) (by kernel_rfl) (fun _ _ _ h => h) (Or.inr ⟨by rfl, rfl⟩) (by assumption) ?_))
    (try simp only [Act.put, List.setIfInBounds_toArray, List.set_cons_zero, List.set_cons_succ])
    (first | (refine Reg.take 15 (v := ?_) rfl (by kernel_rfl) (by kernel_rfl) (by kernel_rfl) (fun _ _ _ h => h) (Or.inl ⟨by rfl, ?_⟩) (by assumption) ?_; rotate_left; (focus ((intro W hSW); (try dsimp only at hSW); (try go_split_ands); go_simp; (try (with_reducible rfl)); done))) | (refine Reg.take 15 (v := undef) rfl (by kernel_rfl) (by kernel_rfl) (by kernel_rfl) (fun _ _ _ h => h) (Or.inr ⟨by rfl, rfl⟩) (by assumption) ?_))
    (try simp only [Act.put, List.setIfInBounds_toArray, List.set_cons_zero, List.set_cons_succ])
    refine wpAnyH_done (by kernel_rfl) ?_ _
    go_wp2_with fail
    go_ret2
    exact ⟨⟨k, by rw [HPA.out]; rfl, HPL.out⟩, L2.out.drew⟩
  · have hkd : decide (k < n) = false := decide_eq_false (by omega)
    have HPA := Lib.hid (place_end HRI.out HPL.out (by have := hlen.out; omega))
    go_upto_region 2 with fail
    refine wp_region_held_drew (S := fun W => W.cell? ⟨w.heap.size, 0, none⟩ = some (.slice A n c) ∧ W.cell? ⟨w.heap.size + 1, 0, none⟩ = some (.int .i64 key)) (by kernel_rfl) ⟨m0, m1⟩ (fun hHeld => ?_)
    (first | (refine Reg.take 0 (v := ?_) rfl (by kernel_rfl) (by kernel_rfl) (by kernel_rfl) (fun _ _ _ h => h) (Or.inl ⟨by rfl, ?_⟩) (by assumption) ?_; rotate_left; (focus ((intro W hSW); (try dsimp only at hSW); (try go_split_ands); go_simp; (try (with_reducible rfl)); done))) | (refine Reg.take 0 (v := undef) rfl (by kernel_rfl) (by kernel_rfl) (by kernel_rfl) (fun _ _ _ h => h) (Or.inr ⟨by rfl, rfl⟩) (by assumption) ?_))
    (try simp only [Act.put, List.setIfInBounds_toArray, List.set_cons_zero, List.set_cons_succ])
    (first | (refine Reg.take 1 (v := ?_) rfl (by kernel_rfl) (by kernel_rfl) (by kernel_rfl) (fun _ _ _ h => h) (Or.inl ⟨by rfl, ?_⟩) (by assumption) ?_; rotate_left; (focus ((intro W hSW); (try dsimp only at hSW); (try go_split_ands); go_simp; (try (with_reducible rfl)); done))) | (refine Reg.take 1 (v := undef) rfl (by kernel_rfl) (by kernel_rfl) (by kernel_rfl) (fun _ _ _ h => h) (Or.inr ⟨by rfl, rfl⟩) (by assumption) ?_))
    (try simp only [Act.put, List.setIfInBounds_toArray, List.set_cons_zero, List.set_cons_succ])
    (first | (refine Reg.take 2 (v := ?_) rfl (by kernel_rfl) (by kernel_rfl) (by kernel_rfl) (fun _ _ _ h => h) (Or.inl ⟨by rfl, ?_⟩) (by assumption) ?_; rotate_left; (focus ((intro W hSW); (try dsimp only at hSW); (try go_split_ands); go_simp; (try (with_reducible rfl)); done))) | (refine Reg.take 2 (v := undef) rfl (by kernel_rfl) (by kernel_rfl) (by kernel_rfl) (fun _ _ _ h => h) (Or.inr ⟨by rfl, rfl⟩) (by assumption) ?_))
    (try simp only [Act.put, List.setIfInBounds_toArray, List.set_cons_zero, List.set_cons_succ])
    (first | (refine Reg.take 3 (v := ?_) rfl (by kernel_rfl) (by kernel_rfl) (by kernel_rfl) (fun _ _ _ h => h) (Or.inl ⟨by rfl, ?_⟩) (by assumption) ?_; rotate_left; (focus ((intro W hSW); (try dsimp only at hSW); (try go_split_ands); go_simp; (try (with_reducible rfl)); done))) | (refine Reg.take 3 (v := undef) rfl (by kernel_rfl) (by kernel_rfl) (by kernel_rfl) (fun _ _ _ h => h) (Or.inr ⟨by rfl, rfl⟩) (by assumption) ?_))
    (try simp only [Act.put, List.setIfInBounds_toArray, List.set_cons_zero, List.set_cons_succ])
    (first | (refine Reg.take 4 (v := ?_) rfl (by kernel_rfl) (by kernel_rfl) (by kernel_rfl) (fun _ _ _ h => h) (Or.inl ⟨by rfl, ?_⟩) (by assumption) ?_; rotate_left; (focus ((intro W hSW); (try dsimp only at hSW); (try go_split_ands); go_simp; (try (with_reducible rfl)); done))) | (refine Reg.take 4 (v := undef) rfl (by kernel_rfl) (by kernel_rfl) (by kernel_rfl) (fun _ _ _ h => h) (Or.inr ⟨by rfl, rfl⟩) (by assumption) ?_))
    (try simp only [Act.put, List.setIfInBounds_toArray, List.set_cons_zero, List.set_cons_succ])
    (first | (refine Reg.take 5 (v := ?_) rfl (by kernel_rfl) (by kernel_rfl) (by kernel_rfl) (fun _ _ _ h => h) (Or.inl ⟨by rfl, ?_⟩) (by assumption) ?_; rotate_left; (focus ((intro W hSW); (try dsimp only at hSW); (try go_split_ands); go_simp; (try (with_reducible rfl)); done))) | (refine Reg.take 5 (v := undef) rfl (by kernel_rfl) (by kernel_rfl) (by kernel_rfl) (fun _ _ _ h => h) (Or.inr ⟨by rfl, rfl⟩) (by assumption) ?_))
    (try simp only [Act.put, List.setIfInBounds_toArray, List.set_cons_zero, List.set_cons_succ])
    (first | (refine Reg.take 6 (v := ?_) rfl (by kernel_rfl) (by kernel_rfl) (by kernel_rfl) (fun _ _ _ h => h) (Or.inl ⟨by rfl, ?_⟩) (by assumption) ?_; rotate_left; (focus ((intro W hSW); (try dsimp only at hSW); (try go_split_ands); go_simp; (try (with_reducible rfl)); done))) | (refine Reg.take 6 (v := undef) rfl (by kernel_rfl) (by kernel_rfl) (by kernel_rfl) (fun _ _ _ h => h) (Or.inr ⟨by rfl, rfl⟩) (by assumption) ?_))
    (try simp only [Act.put, List.setIfInBounds_toArray, List.set_cons_zero, List.set_cons_succ])
    (first | (refine Reg.take 7 (v := ?_) rfl (by kernel_rfl) (by kernel_rfl) (by kernel_rfl) (fun _ _ _ h => h) (Or.inl ⟨by rfl, ?_⟩) (by assumption) ?_; rotate_left; (focus ((intro W hSW); (try dsimp only at hSW); (try go_split_ands); go_simp; (try (with_reducible rfl)); done))) | (refine Reg.take 7 (v := undef) rfl (by kernel_rfl) (by kernel_rfl) (by kernel_rfl) (fun _ _ _ h => h) (Or.inr ⟨by rfl, rfl⟩) (by assumption) ?_))
    (try simp only [Act.put, List.setIfInBounds_toArray, List.set_cons_zero, List.set_cons_succ])
    (first | (refine Reg.take 8 (v := ?_) rfl (by kernel_rfl) (by kernel_rfl) (by kernel_rfl) (fun _ _ _ h => h) (Or.inl ⟨by rfl, ?_⟩) (by assumption) ?_; rotate_left; (focus ((intro W hSW); (try dsimp only at hSW); (try go_split_ands); go_simp; (try (with_reducible rfl)); done))) | (refine Reg.take 8 (v := undef) rfl (by kernel_rfl) (by kernel_rfl) (by kernel_rfl) (fun _ _ _ h => h) (Or.inr ⟨by rfl, rfl⟩) (by assumption) ?_))
    (try simp only [Act.put, List.setIfInBounds_toArray, List.set_cons_zero, List.set_cons_succ])
    (first | (refine Reg.take 9 (v := ?_) rfl (by kernel_rfl) (by kernel_rfl) (by kernel_rfl) (fun _ _ _ h => h) (Or.inl ⟨by rfl, ?_⟩) (by assumption) ?_; rotate_left; (focus ((intro W hSW); (try dsimp only at hSW); (try go_split_ands); go_simp; (try (with_reducible rfl)); done))) | (refine Reg.take 9 (v := undef) rfl (by kernel_rfl) (by kernel_rfl) (by kernel_rfl) (fun _ _ _ h => h) (Or.inr ⟨by rfl, rfl⟩) (by assumption) ?_))
    (try simp only [Act.put, List.setIfInBounds_toArray, List.set_cons_zero, List.set_cons_succ])
    (first | (refine Reg.take 10 (v := ?_) rfl (by kernel_rfl) (by kernel_rfl) (by kernel_rfl) (fun _ _ _ h => h) (Or.inl ⟨by rfl, ?_⟩) (by assumption) ?_; rotate_left; (focus ((intro W hSW); (try dsimp only at hSW); (try go_split_ands); go_simp; (try (with_reducible rfl)); done))) | (refine Reg.take 10 (v := undef) rfl (by kernel_rfl) (by kernel_rfl) (by kernel_rfl) (fun _ _ _ h => h) (Or.inr ⟨by rfl, rfl⟩) (by assumption) ?_))
    (try simp only [Act.put, List.setIfInBounds_toArray, List.set_cons_zero, List.set_cons_succ])
    (first | (refine Reg.take 11 (v := ?_) rfl (by kernel_rfl) (by kernel_rfl) (by kernel_rfl) (fun _ _ _ h => h) (Or.inl ⟨by rfl, ?_⟩) (by assumption) ?_; rotate_left; (focus ((intro W hSW); (try dsimp only at hSW); (try go_split_ands); go_simp; (try (with_reducible rfl)); done))) | (refine Reg.take 11 (v := undef) rfl (by kernel_rfl) (by kernel_rfl) (by kernel_rfl) (fun _ _ _ h => h) (Or.inr ⟨by rfl, rfl⟩) (by assumption) ?_))
    (try simp only [Act.put, List.setIfInBounds_toArray, List.set_cons_zero, List.set_cons_succ])
    (first | (refine Reg.take 12 (v := ?_) rfl (by kernel_rfl) (by kernel_rfl) (by kernel_rfl) (fun _ _ _ h => h) (Or.inl ⟨by rfl, ?_⟩) (by assumption) ?_; rotate_left; (focus ((intro W hSW); (try dsimp only at hSW); (try go_split_ands); go_simp; (try (with_reducible rfl)); done))) | (refine Reg.take 12 (v := undef) rfl (by kernel_rfl) (by kernel_rfl) (by kernel_rfl) (fun _ _ _ h => h) (Or.inr ⟨by rfl, rfl⟩) (by assumption) ?_))
    (try simp only [Act.put, List.setIfInBounds_toArray, List.set_cons_zero, List.set_cons_succ])
    (first | (refine Reg.take 13 (v := ?_) rfl (by kernel_rfl) (by kernel_rfl) (by kernel_rfl) (fun _ _ _ h => h) (Or.inl ⟨by rfl, ?_⟩) (by assumption) ?_; rotate_left; (focus ((intro W hSW); (try dsimp only at hSW); (try go_split_ands); go_simp; (try (with_reducible rfl)); done))) | (refine Reg.take 13 (v := undef) rfl (by kernel_rfl) (by kernel_rfl) (by kernel_rfl) (fun _ _ _ h => h) (Or.inr ⟨by rfl, rfl⟩) (by assumption) ?_))
    (try simp only [Act.put, List.setIfInBounds_toArray, List.set_cons_zero, List.set_cons_succ])
    (first | (refine Reg.take 14 (v := ?_) rfl (by kernel_rfl) (by kernel_rfl) (by kernel_rfl) (fun _ _ _ h => h) (Or.inl ⟨by rfl, ?_⟩) (by assumption) ?_; rotate_left; (focus ((intro W hSW); (try dsimp only at hSW); (try go_split_ands); go_simp; (try (with_reducible rfl)); done))) | (refine Reg.take 14 (v := undef) rfl (by kernel_rfl) (by kernel_rfl) (by kernel_rfl) (fun _ _ _ h => h) (Or.inr ⟨by rfl, rfl⟩) (by assumption) ?_))
    (try simp only [Act.put, List.setIfInBounds_toArray, List.set_cons_zero, List.set_cons_succ])
    (first | (refine Reg.take 15 (v := ?_) rfl (by kernel_rfl) (by kernel_rfl) (by kernel_rfl) (fun _ _ _ h => h) (Or.inl ⟨by rfl, ?_⟩) (by assumption) ?_; rotate_left; (focus ((intro W hSW); (try dsimp only at hSW); (try go_split_ands); go_simp; (try (with_reducible rfl)); done))) | (refine Reg.take 15 (v := undef) rfl (by kernel_rfl) (by kernel_rfl) (by kernel_rfl) (fun _ _ _ h => h) (Or.inr ⟨by rfl, rfl⟩) (by assumption) ?_))
    (try simp only [Act.put, List.setIfInBounds_toArray, List.set_cons_zero, List.set_cons_succ])
    refine wpAnyH_done (by kernel_rfl) ?_ _
    go_wp2_with fail
    go_ret2
    exact ⟨⟨k, by rw [HPA.out]; rfl, HPL.out⟩, L2.out.drew⟩
end Lea
end Go.Proofs.YtmflngclncidjaaGreat
/-
  WALKS: parted, its two questions, and slices.Clone over leases.
-/
namespace Go.Proofs.YtmflngclncidjaaGreat
open Go.RowKit Mem
namespace Lea

/-- Two rows that lie in other blocks. -/
def Far (s t : Value) : Prop := s.ownBlock = none ∨ s.ownBlock ≠ t.ownBlock
theorem Far.symm {s t : Value} (h : Far s t) : Far t s := by
  unfold Far at *
  rcases e : t.ownBlock with _ | k
  · exact .inl rfl
  · refine .inr ?_
    rcases h with h | h
    · rw [h]; simp
    · rw [e] at h; exact Ne.symm h
/-- An append onto one row leaves the other where it is, and far. -/
theorem Far.step {base : Nat} {w : World} {s s' t : Value} {m : Nat} {xs : List Lv} (h : Far s t) (ht : OwnsL base w t m xs) (h5 : s'.ownBlock = s.ownBlock ∨ s'.ownBlock = some w.heap.size) : Far s' t := by
  unfold Far at *
  rcases h5 with h5 | h5
  · rw [h5]; exact h
  · refine .inr ?_
    rw [h5]
    intro e
    have := (ht.lt _ e.symm).2
    omega

set_option maxRecDepth 100000 in
set_option maxHeartbeats 6400000 in
theorem parted_any {A : Option Addr} {n c : Nat} {l : List Lv} {w : World} (h : RowL w A n c l) (hn : n ≤ 1000000) (g : Nat) (lb : Array Value) (eg : ∀ args w, (callFunc g args).run Tryz.prog w = .ok (.enter g args) w) (p : Lv → Bool) (hp : PredL g lb p w) :
    Calls Tryz.prog 94 #[.slice A n c, .func (.func g) #[] lb] w fun e w' => (∃ X i x Y j y, e = .returned (.tuple #[.slice X i x, .slice Y j y]) ∧ OwnsL w.heap.size w' (.slice X i x) i (l.filter p) ∧ OwnsL w.heap.size w' (.slice Y j y) j (l.filter (fun x => !p x))) ∧ Below w.heap.size w w' := by
  have HR := Lib.hid h
  have hbig := h.big
  have hlen := Lib.hid h.len
  have HP := Lib.hid hp
  clear h hp
  go_enter Tryz.func94, Tryz.ntmps94
  go_wp2
  go_loopw [4, 5, 10] (fun s t i wr => ∃ (k : Nat) (X : Option Addr) (a x : Nat) (Y : Option Addr) (b y : Nat), i = .int .i64 k ∧ s = .slice X a x ∧ t = .slice Y b y ∧ k ≤ n ∧ a ≤ k ∧ b ≤ k ∧ Hid (Below w.heap.size w wr ∧ OwnsL w.heap.size wr (.slice X a x) a ((l.take k).filter p) ∧ OwnsL w.heap.size wr (.slice Y b y) b ((l.take k).filter (fun x => !p x)) ∧ Far (.slice X a x) (.slice Y b y))) (fun _ _ i _ => n - (intOf i).toNat)
  case atStart => exact ⟨0, none, 0, 0, none, 0, 0, rfl, rfl, rfl, by omega, by omega, by omega, Below.refl _ _, OwnsL.nil _ _, OwnsL.nil _ _, .inl rfl⟩
  case round =>
    obtain ⟨k, X, a, x, Y, b, y, rfl, rfl, rfl, hk, ha, hb, hH⟩ := hrel
    by_cases hlt : k < n
    · obtain ⟨z, hz⟩ := HR.out.get hlt
      obtain ⟨q, o, hA, c0, c1, c2, c3⟩ := RowS.lease_at (HR.out.below hH.out.1) hz
      subst hA
      have hk0 : (0 : Int) ≤ (k : Int) := by omega
      have hkn : (k : Int) < (n : Int) := by omega
      have htk : Hid (l.take (k + 1) = l.take k ++ [z]) := by show _ = _; rw [List.take_add_one, hz]; rfl
      clear hz
      have A1 : Hid (Below wr.heap.size wr (wr.alloc (.cells #[.int .i64 z.key, .int .i64 z.host, .int .i64 z.epoch, .int .i64 z.til] 65))) := (Below.refl _ wr).alloc (Nat.le_refl _) _
      have B1 : Hid (LBox (wr.alloc (.cells #[.int .i64 z.key, .int .i64 z.host, .int .i64 z.epoch, .int .i64 z.til] 65)) wr.heap.size z) := Cells.new _ _ _
      obtain ⟨n0, n1, n2, n3⟩ := LBox.cells B1.out
      have HC := fun W (hW : Below w.heap.size w W) => HP.out W z hW
      cases e : p z
      · rw [e] at HC
        have HE := Lib.hid e
        clear e
        go_upto_region 4 with fail
        generalize wr.alloc (.cells #[.int .i64 z.key, .int .i64 z.host, .int .i64 z.epoch, .int .i64 z.til] 65) = w1 at *
        go_upto_region 6 with (go_at_fn g; refine (HC _ (hH.out.1.trans (A1.out.mono hH.out.1.size))).mono ?_; rintro e w2 ⟨rfl, hb2⟩)
        have A2 := Lib.hid (A1.out.trans (hb2.mono A1.out.size))
        have B2 := Lib.hid (Cells.below B1.out hb2)
        clear hb2 A1 B1 n0 n1 n2 n3
        obtain ⟨n0, n1, n2, n3⟩ := LBox.cells B2.out
        have A3 : Hid (Below wr.heap.size wr (w2.alloc (.cells #[.int .i64 z.key, .int .i64 z.host, .int .i64 z.epoch, .int .i64 z.til] 65))) := A2.out.alloc A2.out.size _
        have B3 : Hid (LBox (w2.alloc (.cells #[.int .i64 z.key, .int .i64 z.host, .int .i64 z.epoch, .int .i64 z.til] 65)) w2.heap.size z) := Cells.new _ _ _
        go_wp2_with (at_builtin
                     refine wpList_append_l rfl (.tmp 21) (.tmp 23) rfl rfl w.heap.size (.slice Y b y) b _ rfl (hH.out.2.2.1.below A3.out) _ 1 1 [z] rfl (RowS.one B3.out) (by omega) (Nat.le_trans hH.out.1.size A3.out.size) ?_
                     intro A' c' w' h1 h2 h3
                     have A4 := Lib.hid ((hH.out.1.trans (A3.out.mono hH.out.1.size)).trans (below_row (hH.out.2.2.1.below A3.out) h2 (Nat.le_trans hH.out.1.size A3.out.size)))
                     have O4 := Lib.hid h1
                     have F4 : Hid (Far (.slice A' (b + 1) c') (.slice X a x)) := Far.step hH.out.2.2.2.symm (hH.out.2.1.below A3.out) h3
                     have X4 := Lib.hid ((hH.out.2.1.below A3.out).kept h2 hH.out.2.2.2)
                     clear h1 h2 h3)
        go_roundw
        case rel =>
          refine ⟨k + 1, X, a, x, A', b + 1, c', by go_num, rfl, rfl, by omega, by omega, by omega, A4.out, ?_, ?_, F4.out.symm⟩
          · rw [htk.out, List.filter_append]; simpa [HE.out] using X4.out
          · rw [htk.out, List.filter_append]; simpa [HE.out] using O4.out
        case measure => simp [intOf]; omega
      · rw [e] at HC
        have HE := Lib.hid e
        clear e
        go_upto_region 4 with fail
        generalize wr.alloc (.cells #[.int .i64 z.key, .int .i64 z.host, .int .i64 z.epoch, .int .i64 z.til] 65) = w1 at *
        go_upto_region 5 with (go_at_fn g; refine (HC _ (hH.out.1.trans (A1.out.mono hH.out.1.size))).mono ?_; rintro e w2 ⟨rfl, hb2⟩)
        have A2 := Lib.hid (A1.out.trans (hb2.mono A1.out.size))
        have B2 := Lib.hid (Cells.below B1.out hb2)
        clear hb2 A1 B1 n0 n1 n2 n3
        obtain ⟨n0, n1, n2, n3⟩ := LBox.cells B2.out
        have A3 : Hid (Below wr.heap.size wr (w2.alloc (.cells #[.int .i64 z.key, .int .i64 z.host, .int .i64 z.epoch, .int .i64 z.til] 65))) := A2.out.alloc A2.out.size _
        have B3 : Hid (LBox (w2.alloc (.cells #[.int .i64 z.key, .int .i64 z.host, .int .i64 z.epoch, .int .i64 z.til] 65)) w2.heap.size z) := Cells.new _ _ _
        go_wp2_with (at_builtin
                     refine wpList_append_l rfl (.tmp 17) (.tmp 19) rfl rfl w.heap.size (.slice X a x) a _ rfl (hH.out.2.1.below A3.out) _ 1 1 [z] rfl (RowS.one B3.out) (by omega) (Nat.le_trans hH.out.1.size A3.out.size) ?_
                     intro A' c' w' h1 h2 h3
                     have A4 := Lib.hid ((hH.out.1.trans (A3.out.mono hH.out.1.size)).trans (below_row (hH.out.2.1.below A3.out) h2 (Nat.le_trans hH.out.1.size A3.out.size)))
                     have O4 := Lib.hid h1
                     have F4 : Hid (Far (.slice A' (a + 1) c') (.slice Y b y)) := Far.step hH.out.2.2.2 (hH.out.2.2.1.below A3.out) h3
                     have X4 := Lib.hid ((hH.out.2.2.1.below A3.out).kept h2 hH.out.2.2.2.symm)
                     clear h1 h2 h3)
        go_roundw
        case rel =>
          refine ⟨k + 1, A', a + 1, c', Y, b, y, by go_num, rfl, rfl, by omega, by omega, by omega, A4.out, ?_, ?_, F4.out⟩
          · rw [htk.out, List.filter_append]; simpa [HE.out] using O4.out
          · rw [htk.out, List.filter_append]; simpa [HE.out] using X4.out
        case measure => simp [intOf]; omega
    · have hkn : l.take k = l := List.take_of_length_le (by have := hlen.out; omega)
      have HK := Lib.hid hkn
      clear hkn
      go_wp2_with fail
      go_ret2
      have h := hH.out
      rw [HK.out] at h
      exact ⟨⟨X, a, x, Y, b, y, rfl, h.2.1, h.2.2.1⟩, h.1⟩

set_option maxRecDepth 100000 in
set_option maxHeartbeats 1600000 in
theorem tick1_any (now : Int) (q : Nat) (x : Lv) (w : World) (hq : OneBox w q 3 (.int .i64 now)) :
    Calls Tryz.prog 95 #[lv x, .pointer (some ⟨q, 0, none⟩)] w fun e w' => e = .returned (.bool (decide (x.til ≤ now))) ∧ Below w.heap.size w w' := by
  have L1 : Hid (Below w.heap.size w (w.alloc (.cells #[.int .i64 x.key, .int .i64 x.host, .int .i64 x.epoch, .int .i64 x.til] 65))) := (Below.refl w.heap.size w).alloc (Nat.le_refl _) _
  have B1 : Hid (OneBox (w.alloc (.cells #[.int .i64 x.key, .int .i64 x.host, .int .i64 x.epoch, .int .i64 x.til] 65)) q 3 (.int .i64 now)) := Cells.alloc hq _
  have B2 : Hid (LBox (w.alloc (.cells #[.int .i64 x.key, .int .i64 x.host, .int .i64 x.epoch, .int .i64 x.til] 65)) w.heap.size x) := Cells.new w _ _
  clear hq
  go_enter Tryz.func95, Tryz.ntmps95
  go_upto_region 1 with fail
  generalize w.alloc (.cells #[.int .i64 x.key, .int .i64 x.host, .int .i64 x.epoch, .int .i64 x.til] 65) = w1 at *
  have m0 := OneBox.cells B1.out
  obtain ⟨n0, n1, n2, n3⟩ := LBox.cells B2.out
  go_wp2_with fail
  go_ret
  exact ⟨rfl, L1.out⟩


theorem run_eql_nil (w : World) (A : Option Addr) (n c : Nat) : (binOp .eql 25 (.slice A n c) (.slice none 0 0)).run Tryz.prog w = .ok (.bool A.isNone) w :=
  Go.run_eql_slice_nil w _ _ A n c Tryz.underlying25

set_option maxRecDepth 100000 in
set_option maxHeartbeats 1600000 in
theorem clone_any {A : Option Addr} {n c : Nat} {l : List Lv} {w : World} (h : RowL w A n c l) (hn : n ≤ 1000000) :
    Calls Tryz.prog 40 #[.slice A n c] w fun e w' => (∃ B d, e = .returned (.slice B n d) ∧ OwnsL w.heap.size w' (.slice B n d) n l) ∧ Below w.heap.size w w' := by
  have HR := Lib.hid h
  have hb := h.big
  clear h
  have hq := fun w => run_eql_nil w A n c
  rcases A with _ | a
  · have hn : n = 0 := by
      rcases Nat.eq_zero_or_pos n with h0 | h0
      · exact h0
      · obtain ⟨b, o, e, -⟩ := HR.out.at_ h0
        cases e
    have hl : l = [] := List.eq_nil_of_length_eq_zero (by rw [HR.out.len, hn])
    subst hn hl
    have hd : (none : Option Addr).isNone = true := rfl
    rw [hd] at hq
    go_enter Tryz.func40, Tryz.ntmps40
    go_wp2
    go_ret
    exact ⟨⟨_, _, rfl, OwnsL.nil _ _⟩, Below.refl _ _⟩
  · have hd : (some a).isNone = false := rfl
    rw [hd] at hq
    have hmade : Hid (OwnsL w.heap.size (w.alloc (.cells #[] 65)) (.slice (some ⟨w.heap.size, 0, none⟩) 0 0) 0 []) := ⟨World.ownsRow_made w #[] 0 (Nat.le_refl _) (Nat.zero_le _) (by simp), rfl⟩
    go_enter Tryz.func40, Tryz.ntmps40
    go_wp2_with (at_builtin
                 refine wpList_append_l rfl (.tmp 5) (.tmp 6) rfl rfl w.heap.size _ 0 [] rfl hmade.out (some a) n c l rfl (RowS.alloc HR.out _) (by omega) (by simp) ?_
                 intro A' c' w' hown' hg' hb5
                 have O := Lib.hid (show OwnsL w.heap.size w' (.slice A' n c') n l by simpa using hown')
                 have B := Lib.hid (below_row hmade.out hg' (by simp))
                 clear hown' hg' hb5)
    go_ret
    exact ⟨⟨_, _, rfl, O.out⟩, ((Below.refl _ w).alloc (Nat.le_refl _) _).trans B.out⟩
end Lea
end Go.Proofs.YtmflngclncidjaaGreat
