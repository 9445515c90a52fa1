/-
  WALKS: live.Plan, live.Victim.
-/
import Derived.Test.YtnnphpfobdcmbaaLivPlan
namespace Go.Proofs.Ytnnphpfobdcmbaa
open Go.RowKit Mem Ext Zon Zns
namespace Liv

theorem run_headI (A : Option Addr) (n c k : Nat) (h : k ≤ c) (w : World) : (Instr.slice 26 (.slice A n c) none (some (.int .i64 (k : Int))) none).run Try.prog w = .ok (.slice A k c) w := by
  obtain ⟨i, hi, hz0, hz1, hz2⟩ := info_parts info_int
  have e : (if c = 0 then A else A.map (·.add 0)) = A := by
    split
    · rfl
    · cases A with
      | none => rfl
      | some x => simp [Addr.add]
  have h1 : (k : Int) ≤ (c : Int) := by omega
  have h0 : (0 : Int) ≤ (k : Int) := by omega
  simp [Instr.slice, Instr.sliceBounds, run_sliceBound, h0, h1, run_underlying Try.underlying26, sizeOf, typeInfo, hi, e]
def keyL (l : List Ext.Ex) (i : Nat) : Int := cntZ (i : Int) l
/-- All victims, in the order in which they are chosen. -/
def victims (d : Dx) (l : List Ext.Ex) (sk : List Int) : List Nat := sortB (keyL l) (chooseP d.n (fullB (d.xs.map Zv.z) l) sk)
def planP (d : Dx) (l : List Ext.Ex) (sk : List Int) (want : Int) : List Nat := bif needB d l then (victims d l sk).take want.toNat else []
theorem take_iN (l : List Nat) (k : Nat) : (iN l).take k = iN (l.take k) := by unfold iN; rw [List.map_take]
theorem victims_len (d : Dx) (l : List Ext.Ex) (sk : List Int) : (victims d l sk).length ≤ d.n := by
  unfold victims; rw [sortB_len]; exact choose_len _ _ _

set_option maxRecDepth 100000 in
set_option maxHeartbeats 6400000 in
theorem plan_any {d : Dx} {w : World} (h : DevAt w d) {B : Option Addr} {m e : Nat} {l : List Ext.Ex} (hl : RowL w B m e l) (hs : SmallN l) (want : Int) {C : Option Addr} {k f : Nat} {sk : List Int} (hk : Row ci w C k f sk) :
    Calls Try.prog 16 #[dxv d, .slice B m e, .int .i64 want, .slice C k f] w fun en w' => (∃ X i c, en = .returned (.slice X i c) ∧ Row ci w' X i c (iN (planP d l sk want))) ∧ Below w.heap.size w w' := by
  have HK := fun w (h : DevAt w d) (hl : RowL w B m e l) => Lib.hid (counts_any h hl hs)
  have HN := fun (hk : needB d l = true) => okD_n h (by unfold needB at hk; simp only [Bool.and_eq_true] at hk; exact hk.1)
  have HZL := fun (hk : needB d l = true) => okD_len h (by unfold needB at hk; simp only [Bool.and_eq_true] at hk; exact hk.1)
  have e1 : ∀ args w, (callFunc 34 args).run Try.prog w = .ok (.enter 34 args) w := enters_of Try.func34 (by kernel_rfl) rfl
  have e2 : ∀ args w, (callFunc 37 args).run Try.prog w = .ok (.enter 37 args) w := enters_of Try.func37 (by kernel_rfl) rfl
  have hbig := h.row.big
  have HD := Lib.hid h
  have HL := Lib.hid hl
  have HSK := Lib.hid hk
  have HV := Lib.hid (victims_len d l sk)
  have HVD : Hid (victims d l sk = sortB (keyL l) (chooseP d.n (fullB (d.xs.map Zv.z) l) sk)) := rfl
  have HCH := fun w g q (h : DevAt w d) (hn : d.n ≤ 64) (hz : ∀ x ∈ d.xs, x.z.data.length ≤ 65536) (hg : DBox w g d) (X : Option Addr) (i c : Nat) (hq : Ext.Cells w q 26 #[.slice X i c]) (hr : Row ci w X i c (cnts d.n l)) (hs : Row ci w C k f sk) => Lib.hid (choose_any h (by omega) hs 34 #[.pointer (some ⟨g, 0, none⟩), .pointer (some ⟨q, 0, none⟩)] e1 _ (plan1_any h hn hz hg hq hr))
  unfold planP
  generalize hok : needB d l = ok at *
  obtain ⟨cap, op, ac, A, n, c, xs⟩ := d
  have L1 := Lib.hid ((Below.refl w.heap.size w).alloc (Nat.le_refl _) (.cells #[.int .i64 cap, .int .i64 op, .int .i64 ac, .slice A n c] 38))
  have B1 := Lib.hid (DBox.new w ⟨cap, op, ac, A, n, c, xs⟩)
  unfold dxv at *
  dsimp only at *
  clear h hl hs hok hk
  rcases ok with _ | _
  · clear HN HZL HCH
    have er : Zon.errOf false = 1 := rfl
    rw [er] at HK
    clear er
    go_enter Try.func16, Try.ntmps16
    go_upto_region 1 with fail
    generalize w.alloc (.cells #[.int .i64 cap, .int .i64 op, .int .i64 ac, .slice A n c] 38) = w1 at *
    obtain ⟨m0, m1, m2, m3⟩ := B1.out.cells
    dsimp only at m0 m1 m2 m3
    go_upto_region 2 with (go_at_call 32; refine (HK w1 (HD.out.below L1.out) (HL.out.below L1.out)).out.mono ?_; rintro e w2 ⟨⟨X, i, f, rfl, -, -⟩, hb⟩; have L2 := Lib.hid (L1.out.trans (hb.mono L1.out.size)); clear hb)
    have L3 : Hid (Below w.heap.size w (w2.alloc (.cells #[.slice X i f] 26))) := L2.out.alloc L2.out.size _
    go_wp2_with fail
    go_ret
    exact ⟨⟨none, 0, 0, rfl, Row.nil _ _⟩, L3.out⟩
  · have hn64 := (HN rfl).2.1
    have hn1 := (HN rfl).1
    have HZ := Lib.hid (HZL rfl)
    clear HN HZL
    have er : Zon.errOf true = 0 := rfl
    rw [er] at HK
    clear er
    go_enter Try.func16, Try.ntmps16
    go_upto_region 1 with fail
    generalize w.alloc (.cells #[.int .i64 cap, .int .i64 op, .int .i64 ac, .slice A n c] 38) = w1 at *
    obtain ⟨m0, m1, m2, m3⟩ := B1.out.cells
    dsimp only at m0 m1 m2 m3
    go_upto_region 2 with (go_at_call 32; refine (HK w1 (HD.out.below L1.out) (HL.out.below L1.out)).out.mono ?_; rintro e w2 ⟨⟨X, i, r, rfl, hr, -⟩, hb⟩; have L2 := Lib.hid (L1.out.trans (hb.mono L1.out.size)); have R2 := Lib.hid (show Row ci w2 X i r (cnts n l) from hr); have B2 := Lib.hid (B1.out.below hb); clear hb hr)
    obtain rfl : n = i := by have := R2.out.len; rw [cnts_len] at this; exact this
    have b3 : Hid (Below w2.heap.size w2 (w2.alloc (.cells #[.slice X n r] 26))) := (Below.refl _ w2).alloc (Nat.le_refl _) _
    have Q3 : Hid (Ext.Cells (w2.alloc (.cells #[.slice X n r] 26)) w2.heap.size 26 #[.slice X n r]) := Ext.Cells.new _ _ _
    have L3 := Lib.hid (L2.out.trans (b3.out.mono L2.out.size))
    have R3 := Lib.hid (R2.out.below b3.out)
    have B3 := Lib.hid (B2.out.below b3.out)
    generalize hq : w2.heap.size = q at *
    generalize w2.alloc (.cells #[.slice X n r] 26) = w3 at *
    clear b3 m0 m1 m2 m3 B2 R2 L2 HK hq
    obtain ⟨m0, m1, m2, m3⟩ := DBox.cells B3.out
    dsimp only at m0 m1 m2 m3
    go_upto_region 5 with (go_at_call 33; refine (HCH w3 w.heap.size q (HD.out.below L3.out) hn64 HZ.out B3.out X n r Q3.out R3.out (HSK.out.below L3.out)).out.mono ?_; rintro e w4 ⟨⟨Y, j, s, rfl, ho⟩, hb⟩; have L4 := Lib.hid (L3.out.trans (hb.mono L3.out.size)); have O4 := Lib.hid (show Mem.Owns ci 3 w3.heap.size w4 (.slice Y j s) j (iN (chooseP n (fullB (xs.map Zv.z) l) sk)) from ho); have M4 := Lib.hid hb; clear hb ho)
    have hjn : j ≤ n := by have h1 := O4.out.len; rw [iN_len] at h1; have := choose_len n (fullB (xs.map Zv.z) l) sk; omega
    obtain ⟨N, hN⟩ : ∃ N, n = N + 1 := ⟨n - 1, by omega⟩
    have HSO := Lib.hid (sorted_any (N := N) O4.out M4.out.size (by omega) (fun x hx => by have := choose_lt hx; omega) (keyL l) 37 #[.pointer (some ⟨q, 0, none⟩)] e2
      (fun W hW x y hx hy => plan2_any (w := w3) Q3.out R3.out (M4.out.trans hW) (Nat.le_refl _) hn64 x y (by omega) (by omega)) (choose_rises _ _ _))
    have HJ := Lib.hid (show (chooseP n (fullB (xs.map Zv.z) l) sk).length = j by have h1 := O4.out.len; rw [iN_len] at h1; exact h1)
    clear m0 m1 m2 m3 HCH hN O4
    go_upto_region 6 with (go_at_call 36; refine HSO.out.mono ?_; rintro e w5 ⟨rfl, ⟨rs, ho, hp, hpp⟩, hb⟩; have O5 := Lib.hid ho; have P5 := Lib.hid (sortB_unique hp hpp); have L5 := Lib.hid (L4.out.trans (hb.mono (Nat.le_trans L3.out.size (Nat.le_refl _)))); clear hb ho hp hpp)
    have hmx := run_max2 (x := want) (y := 0)
    have hmn := run_min2 (x := (j : Int)) (y := max want 0)
    have hkk : min (j : Int) (max want 0) = ((min j want.toNat : Nat) : Int) := by omega
    have hkj : min j want.toNat ≤ j := Nat.min_le_left _ _
    have HMN : Hid (min j want.toNat = min j want.toNat) := rfl
    obtain ⟨A5, c5, hA5, R5⟩ := O5.out.row (by omega)
    injection hA5 with e5 _ e6
    subst e5 e6
    have R6 := Lib.hid R5
    have hjs := R5.cap
    have hhd := run_headI Y j s (min j want.toNat) (by omega)
    clear R5
    rw [hkk] at hmn
    clear hkk
    generalize hmm : min j want.toNat = t at *
    have HT := Lib.hid hmm
    clear hmm
    go_wp2_with fail
    go_ret
    refine ⟨⟨_, _, _, rfl, ?_⟩, L5.out⟩
    have h1 := R6.out.head hkj
    rw [take_iN] at h1
    have h2 : (victims ⟨cap, op, ac, A, n, c, xs⟩ l sk).take want.toNat = rs.take t := by
      rw [HVD.out, ← P5.out, ← HT.out]
      have : rs.length = j := by have h1 := O5.out.len; rw [iN_len] at h1; exact h1
      rw [← this, List.take_eq_take_iff]
      omega
    show Row ci w5 Y t s (iN ((victims ⟨cap, op, ac, A, n, c, xs⟩ l sk).take want.toNat))
    rw [h2]; exact h1

/-- What Victim tells of a list of victims. -/
def headV (l : List Nat) : Int × Bool := match l with | [] => (0, false) | x :: _ => ((x : Int), true)
set_option maxRecDepth 100000 in
set_option maxHeartbeats 3200000 in
theorem victim_any {d : Dx} {w : World} (h : DevAt w d) {B : Option Addr} {m e : Nat} {l : List Ext.Ex} (hl : RowL w B m e l) (hs : SmallN l) {C : Option Addr} {k f : Nat} {sk : List Int} (hk : Row ci w C k f sk) :
    Calls Try.prog 15 #[dxv d, .slice B m e, .slice C k f] w fun en w' => en = .returned (.tuple #[.int .i64 (headV (planP d l sk 1)).1, .bool (headV (planP d l sk 1)).2]) ∧ Below w.heap.size w w' := by
  have HP := fun w (h : DevAt w d) (hl : RowL w B m e l) (hk : Row ci w C k f sk) => Lib.hid (plan_any h hl hs 1 hk)
  have HD := Lib.hid h
  have HL := Lib.hid hl
  have HSK := Lib.hid hk
  have hbig := h.row.big
  generalize planP d l sk 1 = r at *
  obtain ⟨cap, op, ac, A, n, c, xs⟩ := d
  have L1 := Lib.hid ((Below.refl w.heap.size w).alloc (Nat.le_refl _) (.cells #[.int .i64 cap, .int .i64 op, .int .i64 ac, .slice A n c] 38))
  have B1 := Lib.hid (DBox.new w ⟨cap, op, ac, A, n, c, xs⟩)
  unfold dxv at *
  dsimp only at *
  clear h hl hs hk
  go_enter Try.func15, Try.ntmps15
  go_upto_region 1 with fail
  generalize w.alloc (.cells #[.int .i64 cap, .int .i64 op, .int .i64 ac, .slice A n c] 38) = w1 at *
  obtain ⟨m0, m1, m2, m3⟩ := B1.out.cells
  dsimp only at m0 m1 m2 m3
  go_upto_region 2 with (go_at_call 16; refine (HP w1 (HD.out.below L1.out) (HL.out.below L1.out) (HSK.out.below L1.out)).out.mono ?_; rintro e w2 ⟨⟨X, i, q, rfl, hr⟩, hb⟩; have L2 := Lib.hid (L1.out.trans (hb.mono L1.out.size)); have R2 := Lib.hid hr; clear hb hr)
  rcases r with _ | ⟨x, r⟩
  · obtain rfl : i = 0 := by have := R2.out.len; rw [iN_len] at this; exact this.symm
    go_wp2_with fail
    go_ret2
    exact ⟨rfl, L2.out⟩
  · obtain ⟨i1, rfl⟩ : ∃ t, i = t + 1 := ⟨r.length, by have := R2.out.len; rw [iN_len] at this; exact this.symm⟩
    obtain ⟨b, o, hX, c0⟩ := R2.out.cell (iN_get (l := x :: r) (i := 0) (x := x) rfl)
    subst hX
    have c0' : w2.cell? ⟨b, o, none⟩ = some (.int .i64 (x : Int)) := c0
    have hne : ¬ (((i1 : Int) + 1) = 0) := by omega
    have hpos : (0 : Int) < (i1 : Int) + 1 := by omega
    clear c0
    go_wp2_with fail
    go_ret2
    exact ⟨rfl, L2.out⟩
end Liv
end Go.Proofs.Ytnnphpfobdcmbaa
