/-
  WALKS: Put, Cut, Part, At.
-/
import Derived.Test.YthahemffeagifaaExtOver
import Derived.Test.YthahemffeagifaaExtIdx
namespace Go.Proofs.Ythahemffeagifaa
open Go.RowKit Mem
namespace Ext

theorem cells_set4 {w : World} {q : Nat} {t : TypeId} {a b c d : Value} (h : Cells w q t #[a, b, c, d]) (x y z v : Value) : Cells ((((w.setCell ⟨q, 0, none⟩ x).setCell ⟨q, 1, none⟩ y).setCell ⟨q, 2, none⟩ z).setCell ⟨q, 3, none⟩ v) q t #[x, y, z, v] :=
  Cells.set_ (Cells.set_ (Cells.set_ (Cells.set_ h 0 x) 1 y) 2 z) 3 v
/-- A row of one's own and an error, as a call gave them. -/
def GaveE (w : World) (r : List Ex) (er : Int) (en : Ending) (w' : World) : Prop := (∃ B m d, en = .returned (.tuple #[.slice B m d, .int .i64 er]) ∧ OwnsL w.heap.size w' (.slice B m d) m r) ∧ Below w.heap.size w w'

set_option maxRecDepth 100000 in
set_option maxHeartbeats 800000 in
theorem wrong_any (x : Ex) (hm : MayX x) (w : World) : Calls Try.prog 22 #[xv x] w fun e w' => e = .returned (.bool false) ∧ Below w.heap.size w w' := by
  have HB := fun w => Lib.hid (mayBe_any x hm w)
  clear hm
  have A1 : Hid (Below w.heap.size w (w.alloc (.cells #[.int .i64 x.lba, .int .i64 x.n, .int .i64 x.ver, .int .i64 x.zone, .int .i64 x.off] 28))) := (Below.refl _ w).alloc (Nat.le_refl _) _
  have B1 : Hid (LBox (w.alloc (.cells #[.int .i64 x.lba, .int .i64 x.n, .int .i64 x.ver, .int .i64 x.zone, .int .i64 x.off] 28)) w.heap.size x) := Cells.new _ _ _
  obtain ⟨n0, n1, n2, n3, n4⟩ := LBox.cells B1.out
  go_enter Try.func22, Try.ntmps22
  go_upto_region 1 with fail
  generalize w.alloc (.cells #[.int .i64 x.lba, .int .i64 x.n, .int .i64 x.ver, .int .i64 x.zone, .int .i64 x.off] 28) = w1 at *
  go_wp2_with (go_at_call 23; refine (HB _).out.mono ?_; rintro e w2 ⟨rfl, hb⟩; have L2 := Lib.hid (A1.out.trans (hb.mono A1.out.size)); clear hb)
  go_ret
  exact ⟨rfl, L2.out⟩

set_option maxRecDepth 100000 in
set_option maxHeartbeats 12800000 in
theorem put_any {A B : Option Addr} {n c m d : Nat} {l es : List Ex} {w : World} (hA : RowL w A n c l) (hB : RowL w B m d es) (hl : Ok 0 l) (he : ∀ x ∈ es, MayX x) (hn : n ≤ 10000) (hm9 : m ≤ 900) (hlong : (putE l es).length ≤ 10000) :
    Calls Try.prog 11 #[.slice A n c, .slice B m d] w (GaveE w (putE l es) 0) := by
  have HA := Lib.hid hA
  have HB := Lib.hid hB
  have HL := Lib.hid hl
  have hlen := Lib.hid hA.len
  have hlen2 := Lib.hid hB.len
  have HC := fun w (h : RowL w A n c l) => Lib.hid (check_ok h hl)
  have HW := fun w (h : RowL w B m d es) => Lib.hid (contains_any h 22 #[] (enters_of Try.func22 (by kernel_rfl) rfl) (fun _ => false) (fun W x hx _ => wrong_any x hx W) he)
  rw [show es.any (fun _ => false) = false by simp] at HW
  have HOK := Lib.hid (stack_ok (Nat.le_refl _) he)
  have HOV : Hid (Ok 0 (overE l (stackP es))) := ok_over hl (stack_ok (Nat.le_refl _) he).1
  have HST := fun w (h : RowL w B m d es) => Lib.hid (stacked_any m (Nat.le_refl _) h he hm9)
  have HLONG := Lib.hid hlong
  have HP : Hid (putE l es = joinE (overE l (stackP es))) := rfl
  clear hA hB hl he hlong
  generalize stackP es = T at *
  generalize putE l es = R at *
  go_enter Try.func11, Try.ntmps11
  go_wp2_with fail
  refine (HC w HA.out).out.mono ?_
  rintro e w1 ⟨rfl, hb⟩
  have L1 := Lib.hid hb
  clear hb
  go_wp2_with fail
  refine (HW w1 (HB.out.below L1.out)).out.mono ?_
  rintro e w3 ⟨rfl, hb⟩
  have L3 := Lib.hid (L1.out.trans (hb.mono L1.out.size))
  clear hb
  go_wp2_with fail
  refine (HST w3 (HB.out.below L3.out)).out.mono ?_
  rintro e' w4 ⟨⟨B4, m4, d4, rfl, hr⟩, hb⟩
  have L4 := Lib.hid (L3.out.trans (hb.mono L3.out.size))
  have R4 := Lib.hid hr
  clear hb hr
  go_wp2_with fail
  refine (over_any (HA.out.below L4.out) R4.out HL.out HOK.out.1 (by omega) (by have h1 := R4.out.len; have h2 := HOK.out.2; have h3 := sq_mono hm9; rw [hlen2.out] at h2; omega)).mono ?_
  rintro e' w5 ⟨⟨B5, m5, d5, rfl, ho⟩, hb⟩
  have L5 := Lib.hid (L4.out.trans (hb.mono L4.out.size))
  have HLN : Hid (m5 ≤ 3000000) := by have h1 := ho.2; have h2 := overE_len HL.out HOK.out.1; have h3 := HOK.out.2; have h4 := sq_mono hm9; have := hlen.out; rw [hlen2.out] at h3; show _ ≤ _; omega
  have R5 := Lib.hid (OwnsL.row ho (by have := HLN.out; omega))
  clear hb ho
  go_wp2_with fail
  refine (joined_any R5.out HOV.out (by have := HLN.out; omega)).mono ?_
  rintro e' w6 ⟨⟨B6, m6, d6, rfl, ho⟩, hb⟩
  have L6 := Lib.hid (L5.out.trans (hb.mono L5.out.size))
  rw [← HP.out] at ho
  have O6 := Lib.hid (ho.mono L5.out.size)
  have hd : decide ((10000 : Int) < (m6 : Int)) = false := decide_eq_false (by have h1 := ho.2; have h2 := HLONG.out; omega)
  clear hb ho
  go_wp2_with fail
  go_ret2
  exact ⟨⟨_, _, _, rfl, O6.out⟩, L6.out⟩

set_option maxRecDepth 100000 in
set_option maxHeartbeats 6400000 in
theorem part_any {A : Option Addr} {n c : Nat} {l : List Ex} {w : World} (hA : RowL w A n c l) (hl : Ok 0 l) (hn : n ≤ 1000000) (a k : Int) (hk : k ≤ 9223372036854775807) :
    Calls Try.prog 16 #[.slice A n c, .int .i64 a, .int .i64 k] w (GaveE w (bif rangeB a k then clips a (a + k) l else []) (errOf (rangeB a k))) := by
  have HA := Lib.hid hA
  have HL := Lib.hid hl
  have HC := fun w (h : RowL w A n c l) => Lib.hid (check_ok h hl)
  have HB := fun w => Lib.hid (blocks_any a k hk w)
  clear hA hl
  rcases hr : rangeB a k
  · rw [hr] at HB
    go_enter Try.func16, Try.ntmps16
    go_wp2_with fail
    refine (HC w HA.out).out.mono ?_
    rintro e w1 ⟨rfl, hb⟩
    have L1 := Lib.hid hb
    clear hb
    go_wp2_with (go_at_call 29; refine (HB _).out.mono ?_; rintro e w2 ⟨rfl, rfl⟩)
    go_ret2
    exact ⟨⟨_, _, _, rfl, OwnsL.nil _ _⟩, L1.out⟩
  · obtain ⟨r1, r2, r3⟩ := rangeB_iff.1 hr
    rw [hr] at HB
    have HRG := Lib.hid (And.intro r1 (And.intro r2 r3))
    have hw : IntKind.i64.wrap (a + k) = a + k := wrap_small (by omega) (by omega)
    clear r1 r2 r3 hr
    go_enter Try.func16, Try.ntmps16
    go_wp2_with fail
    refine (HC w HA.out).out.mono ?_
    rintro e w1 ⟨rfl, hb⟩
    have L1 := Lib.hid hb
    clear hb
    go_wp2_with (go_at_call 29; refine (HB _).out.mono ?_; rintro e w2 ⟨rfl, rfl⟩)
    refine (addParts_any (base := w.heap.size) (out := []) a (a + k) (OwnsL.nil _ _) L1.out.size (fun W h => HA.out.below (L1.out.trans h)) HL.out (by omega) (by omega) HRG.out.1 (by have := HRG.out; omega) (by have := HRG.out; omega) HRG.out.2.2).mono ?_
    rintro e w3 ⟨⟨Y, q, p, rfl, hO, -⟩, hb, -⟩
    have L3 := Lib.hid (L1.out.trans hb)
    have O3 := Lib.hid hO
    clear hO hb
    go_wp2_with fail
    go_ret2
    exact ⟨⟨_, _, _, rfl, O3.out⟩, L3.out⟩

set_option maxRecDepth 100000 in
set_option maxHeartbeats 6400000 in
theorem cut_list {A : Option Addr} {n c : Nat} {l : List Ex} {w : World} (hA : RowL w A n c l) (hl : Ok 0 l) (hn : n ≤ 1000000) (a k : Int) (hk : k ≤ 9223372036854775807) :
    Calls Try.prog 12 #[.slice A n c, .int .i64 a, .int .i64 k] w (GaveE w (bif rangeB a k then cutL l a k else []) (errOf (rangeB a k))) := by
  have HA := Lib.hid hA
  have HL := Lib.hid hl
  have HC := fun w (h : RowL w A n c l) => Lib.hid (check_ok h hl)
  have HB := fun w => Lib.hid (blocks_any a k hk w)
  clear hA hl
  rcases hr : rangeB a k
  · rw [hr] at HB
    go_enter Try.func12, Try.ntmps12
    go_wp2_with fail
    refine (HC w HA.out).out.mono ?_
    rintro e w1 ⟨rfl, hb⟩
    have L1 := Lib.hid hb
    clear hb
    go_wp2_with (go_at_call 29; refine (HB _).out.mono ?_; rintro e w2 ⟨rfl, rfl⟩)
    go_ret2
    exact ⟨⟨_, _, _, rfl, OwnsL.nil _ _⟩, L1.out⟩
  · obtain ⟨r1, r2, r3⟩ := rangeB_iff.1 hr
    rw [hr] at HB
    have HRG := Lib.hid (And.intro r1 (And.intro r2 r3))
    have hw : IntKind.i64.wrap (a + k) = a + k := wrap_small (by omega) (by omega)
    clear r1 r2 r3 hr
    go_enter Try.func12, Try.ntmps12
    go_wp2_with fail
    refine (HC w HA.out).out.mono ?_
    rintro e w1 ⟨rfl, hb⟩
    have L1 := Lib.hid hb
    clear hb
    go_wp2_with (go_at_call 29; refine (HB _).out.mono ?_; rintro e w2 ⟨rfl, rfl⟩)
    refine (addParts_any (base := w.heap.size) (out := []) 0 a (OwnsL.nil _ _) L1.out.size (fun W h => HA.out.below (L1.out.trans h)) HL.out (by omega) (by omega) (by omega) (by omega) HRG.out.1 (by have := HRG.out; omega)).mono ?_
    rintro e w3 ⟨⟨Y, q, p, rfl, hO, -⟩, hb, -⟩
    have L3 := Lib.hid (L1.out.trans hb)
    have O3 := Lib.hid (show OwnsL w.heap.size w3 (.slice Y q p) q (clips 0 a l) from hO)
    have HQ : Hid (q ≤ 1000000) := by have h1 := hO.2; have h2 := clips_len 0 a l; have h3 := HA.out.len; show _ ≤ _; rw [List.nil_append] at h1; omega
    clear hO hb
    go_wp2_with fail
    refine (addParts_any (base := w.heap.size) (a + k) 1099511627776 O3.out L3.out.size (fun W h => HA.out.below (L3.out.trans h)) HL.out (by have := HQ.out; omega) (by omega) (by have := HRG.out; omega) HRG.out.2.2 (by omega) (by omega)).mono ?_
    rintro e w4 ⟨⟨Y4, q4, p4, rfl, hO, -⟩, hb, -⟩
    have L4 := Lib.hid (L3.out.trans hb)
    have O4 := Lib.hid hO
    clear hO hb
    go_wp2_with fail
    go_ret2
    exact ⟨⟨_, _, _, rfl, O4.out⟩, L4.out⟩

def atP (l : List Ex) (a : Int) : Option Ex := bif rangeB a 1 then (clips a (a + 1) l).head? else none
def xvO : Option Ex → Value
  | some x => xv x
  | none => .agg #[.int .i64 0, .int .i64 0, .int .i64 0, .int .i64 0, .int .i64 0]
theorem atP_bad {l : List Ex} {a : Int} (h : rangeB a 1 = false) : atP l a = none := by unfold atP; rw [h]; rfl
theorem atP_ok {l : List Ex} {a : Int} (h : rangeB a 1 = true) : atP l a = (clips a (a + 1) l).head? := by unfold atP; rw [h]; rfl

set_option maxRecDepth 100000 in
set_option maxHeartbeats 6400000 in
theorem at_any {A : Option Addr} {n c : Nat} {l : List Ex} {w : World} (hA : RowL w A n c l) (hl : Ok 0 l) (hn : n ≤ 1000000) (a : Int) :
    Calls Try.prog 21 #[.slice A n c, .int .i64 a] w fun e w' => e = .returned (.tuple #[xvO (atP l a), .bool (atP l a).isSome]) ∧ Below w.heap.size w w' := by
  have HA := Lib.hid hA
  have HP := fun w (h : RowL w A n c l) => Lib.hid (part_any h hl hn a 1 (by omega))
  have L1 : Hid (Below w.heap.size w (w.alloc (.cells #[.int .i64 0, .int .i64 0, .int .i64 0, .int .i64 0, .int .i64 0] 28))) := (Below.refl _ w).alloc (Nat.le_refl _) _
  have N1 : Hid (LBox (w.alloc (.cells #[.int .i64 0, .int .i64 0, .int .i64 0, .int .i64 0, .int .i64 0] 28)) w.heap.size ⟨0, 0, 0, 0, 0⟩) := Cells.new w _ _
  clear hA hl
  go_enter Try.func21, Try.ntmps21
  go_upto_region 1 with fail
  generalize w.alloc (.cells #[.int .i64 0, .int .i64 0, .int .i64 0, .int .i64 0, .int .i64 0] 28) = w1 at *
  rcases hr : rangeB a 1
  · have HAT := Lib.hid (atP_bad (l := l) hr)
    rw [hr] at HP
    clear hr
    go_wp2_with fail
    refine (HP w1 (HA.out.below L1.out)).out.mono ?_
    rintro e w3 ⟨⟨B, m, d, rfl, hO⟩, hb⟩
    have L3 := Lib.hid (L1.out.trans (hb.mono L1.out.size))
    have N3 := Lib.hid (Cells.below N1.out hb)
    clear hO hb
    obtain ⟨z0, z1, z2, z3, z4⟩ := LBox.cells (x := ⟨0, 0, 0, 0, 0⟩) N3.out
    obtain ⟨f0, f1, f2, f3, f4⟩ := LBox.frozen (x := ⟨0, 0, 0, 0, 0⟩) N3.out
    dsimp only at z0 z1 z2 z3 z4
    have he : errOf false = 1 := rfl
    simp only [he]
    go_wp2_with fail
    refine bodyPost_ret_by (results_c1 rfl _ _ w.heap.size _ _ _ _ rfl (Cells.set5 N3.out (.int .i64 0) (.int .i64 0) (.int .i64 0) (.int .i64 0) (.int .i64 0)) Try.underlying28 rfl (by kernel_rfl)) rfl ?_
    exact ⟨by rw [HAT.out]; rfl, below5 L3.out (Nat.le_refl _) _ _ _ _ _ _ _ _ _ _⟩
  · have HAT := Lib.hid (atP_ok (l := l) hr)
    rw [hr] at HP
    clear hr
    go_wp2_with fail
    refine (HP w1 (HA.out.below L1.out)).out.mono ?_
    rintro e w3 ⟨⟨B, m, d, rfl, hO⟩, hb⟩
    have L3 := Lib.hid (L1.out.trans (hb.mono L1.out.size))
    have N3 := Lib.hid (Cells.below N1.out hb)
    have O3 := Lib.hid hO
    clear hO hb
    obtain ⟨z0, z1, z2, z3, z4⟩ := LBox.cells (x := ⟨0, 0, 0, 0, 0⟩) N3.out
    obtain ⟨f0, f1, f2, f3, f4⟩ := LBox.frozen (x := ⟨0, 0, 0, 0, 0⟩) N3.out
    dsimp only at z0 z1 z2 z3 z4
    have he : errOf true = 0 := rfl
    simp only [he, cond_true] at *
    generalize clips a (a + 1) l = C at *
    rcases C with _ | ⟨x, r⟩
    · obtain rfl : m = 0 := O3.out.2.symm
      go_wp2_with fail
      refine bodyPost_ret_by (results_c1 rfl _ _ w.heap.size _ _ _ _ rfl (Cells.set5 N3.out (.int .i64 0) (.int .i64 0) (.int .i64 0) (.int .i64 0) (.int .i64 0)) Try.underlying28 rfl (by kernel_rfl)) rfl ?_
      exact ⟨by rw [HAT.out]; rfl, below5 L3.out (Nat.le_refl _) _ _ _ _ _ _ _ _ _ _⟩
    · have hm : m = r.length + 1 := O3.out.2.symm
      obtain ⟨g, hB, -, -, ⟨q0, q1, q2, q3, q4⟩, -, -⟩ := OwnsL.put (k := 0) (x := x) O3.out rfl
      subst hB
      simp only [Nat.zero_mul, Nat.zero_add] at q0 q1 q2 q3 q4
      have hm0 : (0 : Int) < (m : Int) := by omega
      have hmz : ((m : Int) == 0) = false := by simp; omega
      have hmz2 : ¬ (m : Int) = 0 := by omega
      have hmz3 : ¬ m = 0 := by omega
      clear hm
      go_wp2_with fail
      refine bodyPost_ret_by (results_c1 rfl _ _ w.heap.size _ _ _ _ rfl (Cells.set5 N3.out (.int .i64 x.lba) (.int .i64 x.n) (.int .i64 x.ver) (.int .i64 x.zone) (.int .i64 x.off)) Try.underlying28 rfl (by kernel_rfl)) rfl ?_
      exact ⟨by rw [HAT.out]; rfl, below5 L3.out (Nat.le_refl _) _ _ _ _ _ _ _ _ _ _⟩

/-- What the law keeps of a block, as a value. -/
def bv : Option (Int × Int × Int) → Value
  | some (v, z, o) => .agg #[.bool true, .int .i64 v, .int .i64 z, .int .i64 o]
  | none => .agg #[.bool false, .int .i64 0, .int .i64 0, .int .i64 0]
theorem head_tell {l : List Ex} {a : Int} (hl : Ok 0 l) (hr : rangeB a 1 = true) : (atP l a).map (fun x => (x.ver, x.zone, x.off)) = tell l a := by
  rw [atP_ok hr]
  have h1 := tell_clips (a := a) (b := a + 1) hl a
  rw [if_pos (by omega)] at h1
  rw [← h1]
  have hok : Ok a (clips a (a + 1) l) := ok_clips hl (by omega)
  have hen := ends_clips a (a + 1) l
  rcases e : clips a (a + 1) l with _ | ⟨x, r⟩
  · rfl
  · rw [e] at hok hen
    have hx := en_lt hok.1
    have hx2 := hok.2.1
    have hx3 := hen x List.mem_cons_self
    have hxa : x.lba = a := by omega
    show some (x.ver, x.zone, x.off) = _
    rw [tell, if_pos (by unfold has; omega)]
    unfold blk
    by_cases hz : x.zone = -1
    · rw [if_pos hz, may_zone hok.1 hz]
    · rw [if_neg hz, show x.off + 16 * (a - x.lba) = x.off by omega]
theorem at_tell {l : List Ex} (hl : Ok 0 l) (a : Int) : (atP l a).map (fun x => (x.ver, x.zone, x.off)) = tell l a := by
  rcases hr : rangeB a 1
  · rw [atP_bad hr]
    have : ¬ (0 ≤ a ∧ 1 ≤ (1 : Int) ∧ a + 1 ≤ 1099511627776) := fun h => by rw [rangeB_iff.2 h] at hr; cases hr
    by_cases h0 : a < 0
    · rw [tell_low hl h0]; rfl
    · rw [tell_high hl (by omega)]; rfl
  · exact head_tell hl hr
set_option maxRecDepth 100000 in
set_option maxHeartbeats 6400000 in
theorem law_at {A : Option Addr} {n c : Nat} {l : List Ex} {w : World} (hA : RowL w A n c l) (hl : Ok 0 l) (hn : n ≤ 1000000) (a : Int) :
    Calls Try.prog 14 #[.slice A n c, .int .i64 a] w fun e w' => e = .returned (bv (tell l a)) ∧ Below w.heap.size w w' := by
  have HA := Lib.hid hA
  have HP := fun w (h : RowL w A n c l) => Lib.hid (at_any h hl hn a)
  have HT := Lib.hid (at_tell hl a)
  have L1 : Hid (Below w.heap.size w (w.alloc (.cells #[.bool false, .int .i64 0, .int .i64 0, .int .i64 0] 34))) := (Below.refl _ w).alloc (Nat.le_refl _) _
  have N1 : Hid (Cells (w.alloc (.cells #[.bool false, .int .i64 0, .int .i64 0, .int .i64 0] 34)) w.heap.size 34 #[.bool false, .int .i64 0, .int .i64 0, .int .i64 0]) := Cells.new w _ _
  clear hA hl
  generalize atP l a = r at *
  generalize tell l a = s at *
  go_enter Try.func14, Try.ntmps14
  go_upto_region 1 with fail
  generalize w.alloc (.cells #[.bool false, .int .i64 0, .int .i64 0, .int .i64 0] 34) = w1 at *
  go_wp2_with fail
  refine (HP w1 (HA.out.below L1.out)).out.mono ?_
  rintro e w3 ⟨rfl, hb⟩
  have L3 := Lib.hid (L1.out.trans (hb.mono L1.out.size))
  have N3 := Lib.hid (Cells.below N1.out hb)
  clear hb
  obtain ⟨x, hx⟩ : ∃ x : Ex, xvO r = xv x ∧ (∀ y, r = some y → x = y) := by
    rcases r with _ | y
    · exact ⟨⟨0, 0, 0, 0, 0⟩, rfl, fun y h => by cases h⟩
    · exact ⟨y, rfl, fun z h => by injection h⟩
  rw [hx.1]
  have HX := Lib.hid hx.2
  clear hx
  have A4 : Hid (Below w3.heap.size w3 (w3.alloc (.cells #[.int .i64 x.lba, .int .i64 x.n, .int .i64 x.ver, .int .i64 x.zone, .int .i64 x.off] 28))) := (Below.refl _ _).alloc (Nat.le_refl _) _
  have N4 : Hid (LBox (w3.alloc (.cells #[.int .i64 x.lba, .int .i64 x.n, .int .i64 x.ver, .int .i64 x.zone, .int .i64 x.off] 28)) w3.heap.size x) := Cells.new _ _ _
  have L4 := Lib.hid (L3.out.trans (A4.out.mono L3.out.size))
  have Z4 := Lib.hid (Cells.alloc N3.out (.cells #[.int .i64 x.lba, .int .i64 x.n, .int .i64 x.ver, .int .i64 x.zone, .int .i64 x.off] 28))
  clear N1 N3 A4
  go_upto_region 2 with fail
  generalize w3.alloc (.cells #[.int .i64 x.lba, .int .i64 x.n, .int .i64 x.ver, .int .i64 x.zone, .int .i64 x.off] 28) = w4 at *
  obtain ⟨n0, n1, n2, n3, n4⟩ := LBox.cells N4.out
  have z0 : w4.cell? ⟨w.heap.size, 0, none⟩ = some (.bool false) := Cells.cell Z4.out 0
  have z1 : w4.cell? ⟨w.heap.size, 1, none⟩ = some (.int .i64 0) := Cells.cell Z4.out 1
  have z2 : w4.cell? ⟨w.heap.size, 2, none⟩ = some (.int .i64 0) := Cells.cell Z4.out 2
  have z3 : w4.cell? ⟨w.heap.size, 3, none⟩ = some (.int .i64 0) := Cells.cell Z4.out 3
  have f0 := Cells.frozen Z4.out 0
  have f1 := Cells.frozen Z4.out 1
  have f2 := Cells.frozen Z4.out 2
  have f3 := Cells.frozen Z4.out 3
  rcases r with _ | y
  · have hs : Hid (s = none) := HT.out.symm
    simp only [Option.isSome_none]
    go_wp2_with fail
    refine bodyPost_ret_by (results_c0 rfl _ _ w.heap.size _ _ _ _ rfl (cells_set4 Z4.out (.bool false) (.int .i64 0) (.int .i64 0) (.int .i64 0)) Try.underlying34 rfl (by kernel_rfl)) rfl ?_
    exact ⟨by rw [hs.out]; rfl, below4 L4.out (Nat.le_refl _) _ _ _ _⟩
  · have hs : Hid (s = some (x.ver, x.zone, x.off)) := by rw [HX.out y rfl]; exact HT.out.symm
    simp only [Option.isSome_some]
    go_wp2_with fail
    refine bodyPost_ret_by (results_c0 rfl _ _ w.heap.size _ _ _ _ rfl (cells_set4 Z4.out (.bool true) (.int .i64 x.ver) (.int .i64 x.zone) (.int .i64 x.off)) Try.underlying34 rfl (by kernel_rfl)) rfl ?_
    exact ⟨by rw [hs.out]; rfl, below4 L4.out (Nat.le_refl _) _ _ _ _⟩
end Ext
end Go.Proofs.Ythahemffeagifaa
