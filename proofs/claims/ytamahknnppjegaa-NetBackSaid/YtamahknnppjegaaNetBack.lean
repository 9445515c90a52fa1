/-
  THE STATEMENT NetBack: its walk.
-/
import Derived.Test.YtamahknnppjegaaNetLaw
import Derived.Test.YtamahknnppjegaaNetWrite
import Derived.Test.YtamahknnppjegaaNetRead
import Derived.Test.YtamahknnppjegaaCut
namespace Go.Proofs.Ytamahknnppjegaa
open Go.RowKit Mem Box
namespace Net
open Wire (B8 GaveE)

theorem write_ok {w : World} {cap : Nat} {Q : Option Addr} {n c : Nat} {l : List Mx} (h : NetAt w Q n c l) (hn : n ≤ 5000) (hk : ∀ p ∈ l.map Mx.p, okM p = true) :
    Calls Try.prog 23 #[nv cap Q n c] w (GaveE cb 5 w.heap.size w (writeP (l.map Mx.p)) 0) :=
  (write_any (cap := cap) h hn).mono fun e w' hh => by
    rcases hh with ⟨-, h1⟩ | ⟨⟨p, hp, hp2⟩, -⟩
    · exact h1
    · rw [hk p hp] at hp2; cases hp2
theorem read_ok {A : Option Addr} {n c : Nat} {pl : List Mp} {w : World} (h : Row cb w A n c (writeP pl)) (hn : n ≤ 100000000) {most : Int} {cap : Nat} (hm : most = (cap : Int)) (h1 : 1 ≤ cap) (h2 : cap ≤ 4096) (hk : ∀ p ∈ pl, okM p = true ∧ Fits p) (hl : pl.length ≤ cap) :
    Calls Try.prog 13 #[.slice A n c, .int .i64 most] w (GaveN1 w cap pl 0) :=
  (read_any h hn hm h1 h2).mono fun e w' hh => by
    have hr := write_read hk
    rcases hh with ⟨hnone, -⟩ | ⟨pl2, hp2, hh⟩
    · rw [hr] at hnone; cases hnone
    · rw [hr] at hp2
      injection hp2 with hp2
      subst hp2
      rcases hh with ⟨-, h3⟩ | ⟨h3, -⟩
      · exact h3
      · omega
theorem sent_ok (cap : Nat) (l : List Mp) : ∀ p ∈ sendP cap [] l, okM p = true := fun p hp => by
  obtain ⟨r, h1, h2⟩ := send_pre cap [] l
  rw [h1] at hp
  exact (h2 p (by simpa using hp)).2
set_option maxRecDepth 100000 in
set_option maxHeartbeats 12800000 in
theorem back_walk (most : Int) (M : Option Addr) (m e : Nat) (ls : List Mx) (B : Option Addr) (bn bc : Nat) (lb : List B8) (w : World) (h : NetAt w M m e ls) (hb0 : Row cb w B bn bc lb) :
    Calls Try.prog 5 #[.int .i64 most, .slice M m e, .slice B bn bc] w fun e w' => e = .returned (.bool true) ∧ Below w.heap.size w w' := by
  obtain ⟨r, P, k1, k2, k3, k4, k5, k6⟩ : ∃ (r : Int) (j : Nat), Int.tmod most 30 = r ∧ -30 < r ∧ r < 30 ∧ Int.tmod (r + 30) 30 = j ∧ (r + 30) % 30 = j ∧ j < 30 := Cut.cut_at most 30 (by omega)
  obtain ⟨cap, hcap⟩ : ∃ c : Nat, 1 + (P : Int) = (c : Int) := ⟨P + 1, by omega⟩
  have hc1 : 1 ≤ cap := by omega
  have hc30 : cap ≤ 30 := by omega
  have HN := fun W => Lib.hid (new_at hcap (by omega) (by omega) W)
  have HS := fun W (h2 : NetAt W M m e ls) => Lib.hid (send_new (cap := cap) (by omega) h2)
  have HM := Lib.hid h
  have HB := Lib.hid hb0
  have HBG := fun W (h : NetAt W M m e ls) => Lib.hid (big_any h)
  have HLV := Lib.hid (live_any w)
  have HCAP := Lib.hid hcap
  unfold nv at HS HN
  clear h hb0 hcap
  go_enter Try.func5, Try.ntmps5
  go_wp2_with fail
  refine HLV.out.mono ?_
  rintro e' w1 ⟨rfl, hb⟩
  have L1 := Lib.hid hb
  clear hb HLV
  go_wp2_with fail
  refine (HBG _ (HM.out.below L1.out)).out.mono ?_
  rintro e' w2 ⟨⟨bb, rfl⟩, hb⟩
  have L2 := Lib.hid (L1.out.trans (hb.mono L1.out.size))
  clear hb HBG
  rcases bb
  · rcases e1 : decide ((20000 : Int) < (bn : Int))
    · have hbn : bn ≤ 20000 := by have := of_decide_eq_false e1; omega
      go_wp2_with fail
      refine (HN w2).out.mono ?_
      rintro e' w3 ⟨rfl, hb⟩
      have L3 := Lib.hid (L2.out.trans (hb.mono L2.out.size))
      clear hb HN L1 L2 k1 k4 k5
      go_upto_region 8 with fail
      have A3 : Below w3.heap.size w3 (w3.alloc (.cells #[.int .i64 (cap : Int), .slice none 0 0] 28)) := (Below.refl _ w3).alloc (Nat.le_refl _) _
      have L4 := Lib.hid (L3.out.trans (A3.mono L3.out.size))
      have X4 : Hid (NBox (w3.alloc (.cells #[.int .i64 (cap : Int), .slice none 0 0] 28)) w3.heap.size cap none 0 0) := Cells.new _ _ _
      obtain ⟨g, hg⟩ : ∃ g, g = w3.heap.size := ⟨_, rfl⟩
      have EG : Hid (w.heap.size ≤ g) := by show _ ≤ _; rw [hg]; exact L3.out.size
      rw [← hg] at X4
      rw [← hg]
      clear hg L3 A3
      generalize w3.alloc (.cells #[.int .i64 (cap : Int), .slice none 0 0] 28) = w4 at *
      obtain ⟨k0, k1⟩ := NBox.cells X4.out
      go_upto_region 9 with (first | (go_at_call 27; refine (HS _ (HM.out.below L4.out)).out.mono ?_; rintro e' w5 ⟨Q, n, c, l, rfl, hO, hP, hnc, hb⟩; have L5 := Lib.hid (L4.out.trans (hb.mono L4.out.size)); have X5 := Lib.hid (Cells.below X4.out hb); have HBX := Lib.hid (Cells.lt X4.out); have HO := Lib.hid hO; have HP := Lib.hid hP; obtain ⟨j0, j1⟩ := NBox.cells X5.out; have f0 := Cells.frozen X5.out 0; have f1 := Cells.frozen X5.out 1; clear hb hO hP k0 k1) | fail)
      have bt := Mov.set2 w5 g (.int .i64 (cap : Int)) (.slice Q n c)
      have X6 := Lib.hid (Cells.set2 X5.out (.int .i64 (cap : Int)) (.slice Q n c))
      have L6 := Lib.hid (L5.out.trans (bt.up L5.out.size EG.out))
      have N6 := Lib.hid ((HO.out.mov X5.out (by decide) (fun y hy q hq => by have h1 := HO.out.low y hy q hq; have h2 := HBX.out; omega) bt).net (by omega))
      have hnl : n ≤ cap := by
        have h1 := send_len cap [] (ls.map Mx.p)
        rw [← HP.out, List.length_map, HO.out.len] at h1
        simp at h1
        omega
      have hn5 : n ≤ 5000 := by omega
      clear j0 j1 f0 f1 bt X5 X4 L4 L5 HO HBX HS
      generalize (w5.setCell ⟨g, 0, none⟩ (.int .i64 (cap : Int))).setCell ⟨g, 1, none⟩ (.slice Q n c) = w6 at *
      have HOK : ∀ p ∈ l.map Mx.p, okM p = true := by rw [HP.out]; exact sent_ok cap _
      have HOF : ∀ p ∈ l.map Mx.p, okM p = true ∧ Fits p := fun p hp => ⟨HOK p hp, at_fits N6.out p hp⟩
      have HPL : (l.map Mx.p).length ≤ cap := by rw [List.length_map, N6.out.row.len]; exact hnl
      have HWR := Lib.hid (write_ok (cap := cap) N6.out hn5 HOK)
      have hwl : (writeP (l.map Mx.p)).length ≤ 2010000 := by have := write_len HOF; omega
      have HWL := Lib.hid hwl
      have HRD := fun W X k d (h : Row cb W X k d (writeP (l.map Mx.p))) => Lib.hid (read_ok h (by have h1 := h.len; have h2 := HWL.out; omega) HCAP.out hc1 (by omega) HOF HPL)
      have HRB := fun W (h : Row cb W B bn bc lb) => Lib.hid (read_any h (by omega) HCAP.out hc1 (by omega))
      obtain ⟨k0, k1⟩ := NBox.cells X6.out
      clear HOK HOF HPL hwl hnl hc1
      unfold nv at HWR
      go_upto_region 10 with (first | (go_at_call 23; refine HWR.out.mono ?_; rintro e' w7 ⟨V, vk, vc, rfl, hV, hb⟩; have L7 := Lib.hid (L6.out.trans (hb.mono L6.out.size)); have X7 := Lib.hid (Cells.below X6.out hb); have B7 := Lib.hid hb; have V7 := Lib.hid (Wire.gave_row hV (by have := HWL.out; omega)).1; clear hb hV k0 k1) | fail)
      clear HWR
      go_upto_region 11 with (first | (go_at_call 13; refine (HRD _ _ _ _ V7.out).out.mono ?_; rintro e' w8 ⟨Q2, n2, c2, l2, rfl, hO, hP2, hb⟩; have L8 := Lib.hid (L7.out.trans (hb.mono L7.out.size)); have X8 := Lib.hid (Cells.below X7.out hb); have B8 := Lib.hid (B7.out.trans (hb.mono B7.out.size)); have N8 := Lib.hid (hO.net (by rw [← hO.len, ← List.length_map (f := Mx.p), hP2, List.length_map, N6.out.row.len]; omega)); have HP2 := Lib.hid hP2; (try unfold nv); clear hb hO hP2) | fail)
      have A8 : Below w8.heap.size w8 (w8.alloc (.cells #[.int .i64 (cap : Int), .slice Q2 n2 c2] 28)) := (Below.refl _ w8).alloc (Nat.le_refl _) _
      have L9 := Lib.hid (L8.out.trans (A8.mono L8.out.size))
      have X9 := Lib.hid (Cells.below X8.out A8)
      have B9 := Lib.hid (B8.out.trans (A8.mono B8.out.size))
      have N9 := Lib.hid (N8.out.below A8)
      have C9 : Hid (NBox (w8.alloc (.cells #[.int .i64 (cap : Int), .slice Q2 n2 c2] 28)) w8.heap.size cap Q2 n2 c2) := Cells.new _ _ _
      obtain ⟨g2, hg2⟩ : ∃ g, g = w8.heap.size := ⟨_, rfl⟩
      rw [← hg2] at C9
      rw [← hg2]
      clear A8 hg2 L8 X8 B8 N8 L7 X7 B7 V7 HRD
      generalize w8.alloc (.cells #[.int .i64 (cap : Int), .slice Q2 n2 c2] 28) = w9 at *
      have HSA := Lib.hid (same_any (ca := cap) (cb := cap) N9.out (N6.out.below B9.out))
      rw [HP2.out, decide_eq_true rfl, decide_eq_true rfl, Bool.and_true] at HSA
      obtain ⟨k0, k1⟩ := NBox.cells X9.out
      obtain ⟨m0, m1⟩ := NBox.cells C9.out
      unfold nv at HSA
      go_upto_region 13 with (first | (go_at_call 15; refine HSA.out.mono ?_; rintro e' w10 ⟨rfl, hb⟩; have L10 := Lib.hid (L9.out.trans (hb.mono L9.out.size)); clear hb k0 k1 m0 m1) | fail)
      clear HSA X9 C9 N9 B9 L9
      go_wp2_with fail
      refine (HRB _ (HB.out.below L10.out)).out.mono ?_
      rintro e' w11 (⟨-, rfl, hb⟩ | ⟨pl2, hp2, ⟨hle, Q3, n3, c3, l3, rfl, hO, hP3, hb⟩ | ⟨-, rfl, hb⟩⟩)
      · have L11 := Lib.hid ((L10.out.trans (hb.mono L10.out.size)).alloc (Nat.le_trans L10.out.size hb.size) (.cells #[.int .i64 0, .slice none 0 0] 28))
        unfold nv
        clear hb HRB
        go_wp2_with fail
        go_ret
        exact ⟨rfl, L11.out⟩
      · have L11 := Lib.hid (L10.out.trans (hb.mono L10.out.size))
        obtain ⟨q1, q2⟩ := read_write hp2
        have hn3 : n3 ≤ 5000 := by rw [← hO.len, ← List.length_map (f := Mx.p), hP3]; omega
        have N11 := Lib.hid (hO.net (by omega))
        have HW3 := fun W (h : NetAt W Q3 n3 c3 l3) => Lib.hid (write_ok (cap := cap) h hn3 (by rw [hP3]; exact fun p hp => (q1 p hp).1))
        rw [hP3, q2] at HW3
        have hlb := HB.out.len
        have HLB := Lib.hid hlb
        unfold nv at *
        clear hb HRB hp2 q1 q2 hO hP3 hle hlb
        go_upto_region 14 with fail
        have A8 : Below w11.heap.size w11 (w11.alloc (.cells #[.int .i64 (cap : Int), .slice Q3 n3 c3] 28)) := (Below.refl _ w11).alloc (Nat.le_refl _) _
        have L12 := Lib.hid (L11.out.trans (A8.mono L11.out.size))
        have N12 := Lib.hid (N11.out.below A8)
        have C12 : Hid (NBox (w11.alloc (.cells #[.int .i64 (cap : Int), .slice Q3 n3 c3] 28)) w11.heap.size cap Q3 n3 c3) := Cells.new _ _ _
        obtain ⟨g3, hg3⟩ : ∃ g, g = w11.heap.size := ⟨_, rfl⟩
        rw [← hg3] at C12
        rw [← hg3]
        clear A8 hg3 L11 N11
        generalize w11.alloc (.cells #[.int .i64 (cap : Int), .slice Q3 n3 c3] 28) = w12 at *
        obtain ⟨m0, m1⟩ := NBox.cells C12.out
        go_upto_region 17 with (first | (go_at_call 23; refine (HW3 _ N12.out).out.mono ?_; rintro e' w13 ⟨V, vk, vc, rfl, hV, hb⟩; have L13 := Lib.hid (L12.out.trans (hb.mono L12.out.size)); have V13 := Lib.hid (Wire.gave_row hV (by have := HLB.out; omega)).1; clear hb hV m0 m1) | fail)
        have s1 := run_str V13.out
        have s2 := run_str (HB.out.below L13.out)
        go_wp2_with fail
        go_ret
        exact ⟨by simp, L13.out⟩
      · have L11 := Lib.hid ((L10.out.trans (hb.mono L10.out.size)).alloc (Nat.le_trans L10.out.size hb.size) (.cells #[.int .i64 0, .slice none 0 0] 28))
        unfold nv
        clear hb HRB
        go_wp2_with fail
        go_ret
        exact ⟨rfl, L11.out⟩
    · go_wp2_with fail
      go_ret
      exact ⟨rfl, L2.out⟩
  · go_wp2_with fail
    go_ret
    exact ⟨rfl, L2.out⟩
end Net
end Go.Proofs.Ytamahknnppjegaa
