/-
  THE STATEMENT LiveWaste: its walk.
-/
import Derived.Test.YtnnphpfobdcmbaaLivUp
namespace Go.Proofs.Ytnnphpfobdcmbaa
open Go.RowKit Mem Ext Zon Zns
namespace Liv

def sumC (l : List Ext.Ex) : Nat → Int
  | 0 => 0
  | k + 1 => sumC l k + cntZ (k : Int) l
theorem sumC_in {l : List Ext.Ex} (h : Ok 0 l) (k : Nat) : 0 ≤ sumC l k ∧ sumC l k ≤ 1099511627776 * (k : Int) := by
  induction k with
  | zero => simp [sumC]
  | succ k ih =>
    have := cntZ_in h (by omega) (k : Int)
    simp only [sumC]
    omega
theorem waste_sum (zs : List Zn) (l : List Ext.Ex) (k : Nat) : wasteS zs l k = wasteS zs [] k - sumC l k := by
  induction k with
  | zero => rfl
  | succ k ih => simp only [wasteS, sumC, cntZ, ih]; omega
theorem waste_pos (zs : List Zn) (k : Nat) : 0 ≤ wasteS zs [] k := by
  induction k with
  | zero => exact Int.le_refl _
  | succ k ih => simp only [wasteS, cntZ]; omega
theorem waste_law {zs : List Zn} {l : List Ext.Ex} {n : Nat} (h : Ok 0 l) : max (wasteS zs l n) 0 = max (max (wasteS zs [] n) 0 - sumC l n) 0 ∧ max (wasteS zs l n) 0 ≤ max (wasteS zs [] n) 0 := by
  have h1 := waste_sum zs l n
  have h2 := waste_pos zs n
  have h3 := (sumC_in h n).1
  omega

set_option maxRecDepth 100000 in
set_option maxHeartbeats 6400000 in
theorem liveWaste_walk {d : Dx} {w : World} (h : DevAt w d) {B : Option Addr} {m e : Nat} {l : List Ext.Ex} (hl : RowL w B m e l) (hs : SmallN l) :
    Calls Try.prog 7 #[dxv d, .slice B m e] w fun en w' => en = .returned (.bool true) ∧ Below w.heap.size w w' := by
  have HU := fun w => Lib.hid (up_any w)
  have HF := fun w (h : DevAt w d) => Lib.hid (few_any (L := B) (lc := e) h hl.big)
  have HK := fun w (h : DevAt w d) => Lib.hid (refCheck_dev h)
  have HE := fun w (h : RowL w B m e l) => Lib.hid (refCheck_any h)
  have HW := fun w (h : DevAt w d) (hl : RowL w B m e l) => Lib.hid (waste_any h hl hs)
  have HW0 := fun w (h : DevAt w d) => Lib.hid (waste_any h (B := none) (m := 0) (e := 0) (l := []) (RowS.nil _ _ _) (fun x hx => by cases hx))
  have HC := fun (hk : okD d.p = true) (he : okE l = true) w (hl : RowL w B m e l) => Lib.hid (count_ok hl hs d.n (by rw [count_n (okD_n h hk).2.1]; exact he))
  have HN := fun (hk : okD d.p = true) => okD_n h hk
  have HZL := fun (hk : okD d.p = true) => okD_len h hk
  have HP := fun (hk : okD d.p = true) (he : okE l = true) => Lib.hid (show needB d l = true ∧ needB d [] = true from by unfold needB; rw [hk, he]; exact ⟨rfl, rfl⟩)
  have hbig := h.row.big
  have hpl := h.plen
  have HD := Lib.hid h
  have HL := Lib.hid hl
  unfold wasteP at HW HW0
  generalize hok : okD d.p = ok at *
  generalize hoe : okE l = oe at *
  have HOE := Lib.hid hoe
  obtain ⟨cap, op, ac, A, n, c, xs⟩ := d
  have L1 := Lib.hid ((Below.refl w.heap.size w).alloc (Nat.le_refl _) (.cells #[.int .i64 cap, .int .i64 op, .int .i64 ac, .slice A n c] 38))
  have B1 := Lib.hid (DBox.new w ⟨cap, op, ac, A, n, c, xs⟩)
  have hpl : (xs.map Zv.z).length = n := hpl
  unfold dxv at *
  dsimp only at *
  clear h hl hs hok hoe
  go_enter Try.func7, Try.ntmps7
  go_upto_region 1 with fail
  generalize w.alloc (.cells #[.int .i64 cap, .int .i64 op, .int .i64 ac, .slice A n c] 38) = w1 at *
  go_upto_region 2 with (go_at_call 8; refine (HU w1).out.mono ?_; rintro e w2 ⟨rfl, hb⟩; have L2 := Lib.hid (L1.out.trans (hb.mono L1.out.size)); have B2 := Lib.hid (B1.out.below hb); clear hb)
  clear L1 B1 HU
  obtain ⟨m0, m1, m2, m3⟩ := B2.out.cells
  dsimp only at m0 m1 m2 m3
  go_wp2_with fail
  refine (HF w2 (HD.out.below L2.out)).out.mono ?_
  rintro e w3 ⟨⟨fb, rfl, hfb⟩, hb⟩
  have L3 := Lib.hid (L2.out.trans (hb.mono L2.out.size))
  have B3 := Lib.hid (B2.out.below hb)
  clear hb m0 m1 m2 m3 L2 B2 HF hfb
  obtain ⟨m0, m1, m2, m3⟩ := B3.out.cells
  dsimp only at m0 m1 m2 m3
  rcases fb with _ | _
  · go_wp2_with fail
    go_ret
    exact ⟨rfl, L3.out⟩
  rcases ok with _ | _
  · have er : Zon.errOf false = 1 := rfl
    rw [er] at HK
    clear er
    go_wp2_with (go_at_call 14; refine (HK w3 (HD.out.below L3.out)).out.mono ?_; rintro e w4 ⟨rfl, hb⟩; have L4 := Lib.hid (L3.out.trans (hb.mono L3.out.size)); clear hb)
    go_ret
    exact ⟨rfl, L4.out⟩
  have er : Zon.errOf true = 0 := rfl
  rw [er] at HK
  rcases oe with _ | _
  · go_wp2_with (first | (go_at_call 14; refine (HK w3 (HD.out.below L3.out)).out.mono ?_; rintro e w4 ⟨rfl, hb⟩; have L4 := Lib.hid (L3.out.trans (hb.mono L3.out.size)); clear hb) | (go_at_call 9; refine (HE w4 (HL.out.below L4.out)).out.mono ?_; rintro e w5 ⟨rfl, hb⟩; have L5 := Lib.hid (L4.out.trans (hb.mono L4.out.size)); clear hb) | fail)
    go_ret
    exact ⟨rfl, L5.out⟩
  have hn64 := (HN rfl).2.1
  have HZ := Lib.hid (HZL rfl)
  have HP2 := HP rfl rfl
  have HC2 := HC rfl rfl
  have HOK := Lib.hid (okE_iff.1 HOE.out)
  simp only [HP2.out.1] at HW
  simp only [HP2.out.2] at HW0
  rw [er] at HW HW0
  simp only [cond_true] at HW HW0
  have HLAW := Lib.hid (waste_law (zs := xs.map Zv.z) (l := l) (n := n) HOK.out)
  have HIN := Lib.hid (waste_in (zs := xs.map Zv.z) (by intro x hx; obtain ⟨y, hy, rfl⟩ := List.mem_map.1 hx; exact HZ.out y hy) (l := []) (show Ok 0 [] from trivial) n (by omega))
  have HSM := fun k => Lib.hid (sumC_in HOK.out k)
  clear HN HZL HP HC er HP2
  generalize hw1 : max (wasteS (xs.map Zv.z) l n) 0 = u1 at *
  generalize hw0 : max (wasteS (xs.map Zv.z) [] n) 0 = u0 at *
  have HU0 : Hid (0 ≤ u0 ∧ u0 ≤ 65536 * 64) := by have := HIN.out; constructor <;> omega
  clear HIN hw1 hw0
  go_upto_region 4 with (first | (go_at_call 14; refine (HK w3 (HD.out.below L3.out)).out.mono ?_; rintro e w4 ⟨rfl, hb⟩; have L4 := Lib.hid (L3.out.trans (hb.mono L3.out.size)); have B4 := Lib.hid (B3.out.below hb); clear hb) | (go_at_call 9; refine (HE w4 (HL.out.below L4.out)).out.mono ?_; rintro e w5 ⟨rfl, hb⟩; have L5 := Lib.hid (L4.out.trans (hb.mono L4.out.size)); have B5 := Lib.hid (B4.out.below hb); clear hb) | fail)
  clear HK HE L3 B3 L4 B4 m0 m1 m2 m3
  obtain ⟨m0, m1, m2, m3⟩ := B5.out.cells
  dsimp only at m0 m1 m2 m3
  go_upto_region 5 with (go_at_call 10; refine (HC2 w5 (HL.out.below L5.out)).out.mono ?_; rintro e w6 ⟨⟨X, i, r, rfl, hr, -⟩, hb⟩; have L6 := Lib.hid (L5.out.trans (hb.mono L5.out.size)); have B6 := Lib.hid (B5.out.below hb); have R6 := Lib.hid (show Row ci w6 X i r (cnts n l) from hr); clear hb hr)
  obtain rfl : n = i := by have := R6.out.len; rw [cnts_len] at this; exact this
  clear HC2 m0 m1 m2 m3 B5 L5
  obtain ⟨m0, m1, m2, m3⟩ := B6.out.cells
  dsimp only at m0 m1 m2 m3
  go_upto_region 6 with (go_at_call 19; refine (HW w6 (HD.out.below L6.out) (HL.out.below L6.out)).out.mono ?_; rintro e w7 ⟨rfl, hb⟩; have L7 := Lib.hid (L6.out.trans (hb.mono L6.out.size)); have B7 := Lib.hid (B6.out.below hb); have R7 := Lib.hid (R6.out.below hb); clear hb)
  clear HW m0 m1 m2 m3 B6 L6 R6
  obtain ⟨m0, m1, m2, m3⟩ := B7.out.cells
  dsimp only at m0 m1 m2 m3
  go_upto_region 7 with (go_at_call 19; refine (HW0 w7 (HD.out.below L7.out)).out.mono ?_; rintro e w8 ⟨rfl, hb⟩; have L8 := Lib.hid (L7.out.trans (hb.mono L7.out.size)); have R8 := Lib.hid (R7.out.below hb); clear hb)
  clear HW0 m0 m1 m2 m3 B7 L7 R7
  go_wp2_with fail
  go_loopw [12, 14, 62] (fun s _ v wr => ∃ (k : Nat) (u : Int), v = .int .i64 k ∧ s = .int .i64 u ∧ k ≤ n ∧ Hid (wr = w8 ∧ u = sumC l k)) (fun _ _ v _ => n - (intOf v).toNat)
  case atStart => exact ⟨0, 0, rfl, rfl, by omega, rfl, rfl⟩
  case round =>
    obtain ⟨k, u, rfl, rfl, hk, hH⟩ := hrel
    by_cases hlt : k < n
    · obtain ⟨b, o, hX, c0⟩ := R8.out.cell (cnts_get l hlt)
      subst hX
      have c0' : wr.cell? ⟨b, o + k, none⟩ = some (.int .i64 (cntZ (k : Int) l)) := by rw [hH.out.1]; exact c0
      clear c0
      have hk0 : (0 : Int) ≤ (k : Int) := by omega
      have hk1 : (k : Int) < (n : Int) := by omega
      have h1 := (HSM k).out
      have h2 := (HSM (k + 1)).out
      have HST : Hid (sumC l (k + 1) = u + cntZ (k : Int) l) := by show _ = _; rw [hH.out.2]; rfl
      rw [← hH.out.2] at h1
      rw [HST.out] at h2
      generalize cntZ (k : Int) l = v at *
      have hw1 : IntKind.i64.wrap (u + v) = u + v := Ext.wrap_small (by omega) (by omega)
      clear h1 h2
      go_wp2_with fail
      go_roundw
      case rel => exact ⟨k + 1, u + v, by go_num, rfl, by omega, hH.out.1, HST.out.symm⟩
      case measure => simp [intOf]; omega
    · have hkn : k = n := by omega
      have HK2 := Lib.hid hkn
      have h1 := (HSM k).out
      rw [← hH.out.2] at h1
      have hlaw := HLAW.out
      rw [← hkn, ← hH.out.2] at hlaw
      have h0 := HU0.out
      have hw1 : IntKind.i64.wrap (u0 - u) = u0 - u := Ext.wrap_small (by omega) (by omega)
      have hmx := run_max2 (x := u0 - u) (y := 0)
      rw [← hlaw.1] at hmx
      have hle : decide (u1 ≤ u0) = true := decide_eq_true hlaw.2
      clear hkn h1 h0 hlaw
      go_wp2_with fail
      go_ret
      exact ⟨rfl, by rw [hH.out.1]; exact L8.out⟩
end Liv
end Go.Proofs.Ytnnphpfobdcmbaa
