/-
  THE STATEMENT NetCarries: its walk.
-/
import Derived.Test.YtamahknnppjegaaNetCarM
import Derived.Test.YtamahknnppjegaaNetLaw
import Derived.Test.YtamahknnppjegaaNetRowM
import Derived.Test.YtamahknnppjegaaCut
namespace Go.Proofs.Ytamahknnppjegaa
open Go.RowKit Mem Box GM
namespace Net
open Wire (B8)

theorem sz_up {g r1 r2 r3 lo : Nat} {w w' : World} (h : g < lo ∧ r1 < lo ∧ r2 < lo ∧ r3 < lo ∧ lo ≤ w.heap.size) (hs : w.heap.size ≤ w'.heap.size) : g < lo ∧ r1 < lo ∧ r2 < lo ∧ r3 < lo ∧ lo ≤ w'.heap.size := ⟨h.1, h.2.1, h.2.2.1, h.2.2.2.1, Nat.le_trans h.2.2.2.2 hs⟩

set_option maxRecDepth 100000 in
set_option maxHeartbeats 51200000 in
theorem carries_walk (most : Int) (A : Option Addr) (N C : Nat) (os : List Ox) (w : World) (h : OpsAt w A N C os) :
    Calls Try.prog 4 #[.int .i64 most, .slice A N C] w fun e w' => e = .returned (.bool true) ∧ Below w.heap.size w w' := by
  obtain ⟨r, P, k1, k2, k3, k4, k5, k6⟩ : ∃ (r : Int) (j : Nat), Int.tmod most 30 = r ∧ -30 < r ∧ r < 30 ∧ Int.tmod (r + 30) 30 = j ∧ (r + 30) % 30 = j ∧ j < 30 := Cut.cut_at most 30 (by omega)
  obtain ⟨cap, hcap⟩ : ∃ c : Nat, 1 + (P : Int) = (c : Int) := ⟨P + 1, by omega⟩
  have hc1 : 1 ≤ cap := by omega
  have hc30 : cap ≤ 30 := by omega
  have HN := fun W => Lib.hid (new_at hcap (by omega) (by omega) W)
  have HA := Lib.hid h
  have HFW := fun W (h : OpsAt W A N C os) => Lib.hid (few_any h)
  have HLV := Lib.hid (live_any w)
  have HCAP := Lib.hid hcap
  have hbig := h.row.big
  unfold nv at HN
  clear h hcap
  go_enter Try.func4, Try.ntmps4
  go_wp2_with fail
  refine HLV.out.mono ?_
  rintro e' w1 ⟨rfl, hb⟩
  have L1 := Lib.hid hb
  clear hb HLV
  go_wp2_with fail
  refine (HFW _ (HA.out.below L1.out)).out.mono ?_
  rintro e' w2 ⟨⟨bb, rfl, hbt⟩, hb⟩
  have L2 := Lib.hid (L1.out.trans (hb.mono L1.out.size))
  clear hb HFW
  rcases bb
  · clear hbt
    go_wp2_with fail
    go_ret
    exact ⟨by rfl, L2.out⟩
  have hN100 : N ≤ 100 := hbt rfl
  clear hbt
  go_wp2_with fail
  refine (HN w2).out.mono ?_
  rintro e' w3 ⟨rfl, hb⟩
  have L3 := Lib.hid (L2.out.trans (hb.mono L2.out.size))
  clear hb HN L1 L2 k1 k4 k5
  go_upto_region 8 with fail
  have A3 : Below w3.heap.size w3 (w3.alloc (.cells #[.int .i64 (cap : Int), .slice none 0 0] 28)) := (Below.refl _ w3).alloc (Nat.le_refl _) _
  have L4 := Lib.hid (L3.out.trans (A3.mono L3.out.size))
  have X4 : Hid (NBox (w3.alloc (.cells #[.int .i64 (cap : Int), .slice none 0 0] 28)) w3.heap.size cap none 0 0) := Cells.new _ _ _
  obtain ⟨g, hg⟩ : ∃ g, g = w3.heap.size := ⟨_, rfl⟩
  have EG : Hid (w.heap.size ≤ g ∧ (w3.alloc (.cells #[.int .i64 (cap : Int), .slice none 0 0] 28)).heap.size = g + 1) := by show _ ∧ _; rw [hg]; exact ⟨L3.out.size, by simp⟩
  rw [← hg] at X4
  rw [← hg]
  clear hg L3 A3
  generalize w3.alloc (.cells #[.int .i64 (cap : Int), .slice none 0 0] 28) = w4 at *
  have hmm := @run_makeMap Try.prog
  go_upto_region 11 with fail
  clear hmm
  have M1 : Hid (MI (w4.alloc (.map #[] 0)) w4.heap.size []) := FMap.made mkS okS btI w4
  have A5 : Below w4.heap.size w4 (w4.alloc (.map #[] 0)) := (Below.refl _ w4).alloc (Nat.le_refl _) _
  have X5 := Lib.hid (Cells.below X4.out A5)
  have L5 := Lib.hid (L4.out.trans (A5.mono L4.out.size))
  have hs5 : (w4.alloc (.map #[] 0)).heap.size = g + 1 + 1 := by rw [World.size_alloc]; have := EG.out.2; omega
  rw [show w4.heap.size = g + 1 from EG.out.2] at *
  have EW : Hid (w.heap.size ≤ g) := EG.out.1
  clear EG A5 L4 X4
  generalize w4.alloc (.map #[] 0) = w5 at *
  have M2 : Hid (MB (w5.alloc (.map #[] 0)) w5.heap.size []) := FMap.made mkS okS btB w5
  have A6 : Below w5.heap.size w5 (w5.alloc (.map #[] 0)) := (Below.refl _ w5).alloc (Nat.le_refl _) _
  have X6 := Lib.hid (Cells.below X5.out A6)
  have L6 := Lib.hid (L5.out.trans (A6.mono L5.out.size))
  have M16 := Lib.hid (M1.out.below A6)
  have hs6 : (w5.alloc (.map #[] 0)).heap.size = g + 1 + 1 + 1 := by rw [World.size_alloc]; omega
  rw [hs5] at *
  clear hs5 A6 L5 X5 M1
  generalize w5.alloc (.map #[] 0) = w6 at *
  have M3 : Hid (MI (w6.alloc (.map #[] 0)) w6.heap.size []) := FMap.made mkS okS btI w6
  have A7 : Below w6.heap.size w6 (w6.alloc (.map #[] 0)) := (Below.refl _ w6).alloc (Nat.le_refl _) _
  have CS : Hid (Cm w (w6.alloc (.map #[] 0)) g (g + 1) (g + 1 + 1) w6.heap.size cap none 0 0 [] [] [] []) := by
    have := EW.out
    exact ⟨L6.out.trans (A7.mono L6.out.size), Cells.below X6.out A7, ⟨g + 4, by omega, by omega, by omega, by omega, by rw [World.size_alloc]; omega, OwnN.nil _ _ _⟩, M16.out.below A7, M2.out.below A7, M3.out, by omega, by omega⟩
  rw [hs6] at *
  clear hs6 A7 L6 X6 M16 M2 M3 EW
  generalize w6.alloc (.map #[] 0) = w7 at *
  obtain ⟨r3, hr3⟩ : ∃ x, x = g + 1 + 1 + 1 := ⟨_, rfl⟩
  rw [← hr3] at CS
  rw [← hr3]
  obtain ⟨r2, hr2⟩ : ∃ x, x = g + 1 + 1 := ⟨_, rfl⟩
  rw [← hr2] at CS
  rw [← hr2]
  obtain ⟨r1, hr1⟩ : ∃ x, x = g + 1 := ⟨_, rfl⟩
  rw [← hr1] at CS
  rw [← hr1]
  clear hr1 hr2 hr3
  rw [HCAP.out]
  go_wp2_with fail
  go_loopw [12, 13, 14, 15, 16, 17, 19, 48] (fun _ _ _ _ _ _ _ t wr => ∃ (i : Nat) (Q : Option Addr) (n c : Nat) (l : List Mx) (a : List (Kb × Int)) (b : List (Kb × Bool)) (d : List (Kb × Int)) (S O : Kb → Nat), t = .int .i64 i ∧ i ≤ N ∧ Hid (Cm w wr g r1 r2 r3 cap Q n c l a b d) ∧ Hid (Cq (l.map Mx.p) a b d S O cap i)) (fun _ _ _ _ _ _ _ t _ => N - (intOf t).toNat)
  case atStart => exact ⟨0, none, 0, 0, [], [], [], [], _, _, rfl, by omega, CS.out, Cq.nil cap⟩
  case round =>
    clear CS
    obtain ⟨i, Q, n, c, l, a, b, d, S, O, rfl, hi, CR, HQ⟩ := hrel
    have HN5 : Hid (n ≤ 5000) := by
      show n ≤ 5000
      have h1 := HQ.out.len
      rw [List.length_map] at h1
      have h2 : l.length = n := CR.out.own.elim fun _ h => h.2.2.2.2.2.len
      omega
    have hn5 := HN5.out
    have HNL : Hid (l.length = n) := CR.out.own.elim fun _ h => h.2.2.2.2.2.len
    by_cases hlt : i < N
    · obtain ⟨o, ho, hoa⟩ := HA.out.get hlt
      obtain ⟨b3, o3, hQ3, hcs3⟩ := HA.out.cells ho
      subst hQ3
      obtain ⟨dd, ii, L, m, e, ls⟩ := o
      dsimp only at hcs3 hoa
      obtain ⟨c0, c1, c2⟩ := hcs3 wr CR.out.below
      have HOA := Lib.hid hoa
      have hi0 : (0 : Int) ≤ (i : Int) := by omega
      have hin : (i : Int) < (N : Int) := by omega
      clear hcs3 hoa ho
      by_cases hd : dd = 0
      · skip
        obtain rfl : dd = 0 := hd
        obtain ⟨rr, hR, hrok, hrl, hrc⟩ := op_send cap (l.map Mx.p) ii (ls.map Mx.p)
        have HR := Lib.hid hR
        have HRO := Lib.hid hrok
        have HRL := Lib.hid hrl
        have HRC := Lib.hid hrc
        clear hR hrok hrl hrc
        have A1 : Below wr.heap.size wr (wr.alloc (.cells #[.int .i64 0, .int .i64 ii, .slice L m e] 35)) := (Below.refl _ _).alloc (Nat.le_refl _) _
        have C1 := Lib.hid (CR.out.fresh A1)
        have P1 : Hid (OBox (wr.alloc (.cells #[.int .i64 0, .int .i64 ii, .slice L m e] 35)) wr.heap.size ⟨0, ii, L, m, e, ls⟩) := Cells.new _ _ _
        go_upto_region 14 with fail
        obtain ⟨p, hp⟩ : ∃ x, x = wr.heap.size := ⟨_, rfl⟩
        rw [← hp] at P1
        rw [← hp]
        clear hp A1 c0 c1 c2 CR
        generalize (wr.alloc (.cells #[.int .i64 0, .int .i64 ii, .slice L m e] 35)) = w1 at *
        obtain ⟨k0, k1⟩ := NBox.cells C1.out.box
        obtain ⟨o0, o1, o2⟩ := OBox.cells P1.out
        (try dsimp only at o0 o1 o2)
        go_upto_region 16 with fail
        clear k0 k1 o0 o1 o2
        obtain ⟨k0, k1⟩ := NBox.cells C1.out.box
        obtain ⟨o0, o1, o2⟩ := OBox.cells (x := ⟨0, ii, L, m, e, ls⟩) P1.out
        (try dsimp only at o0 o1 o2)
        have HBD := Lib.hid (body_any (cap := cap) (C1.out.net HN5.out) HN5.out (by omega) (o := ⟨0, ii, L, m, e, ls⟩) (HOA.out.below C1.out.below))
        dsimp only at HBD
        rw [HR.out] at HBD
        unfold nv oxv at HBD
        dsimp only at HBD
        go_upto_region 18 with (first | (go_at_call 17; refine HBD.out.mono ?_; rintro en w2 ⟨Q2, n2, c2, l2, y, rfl, hO, hP, hyp, hya, hyn, hyo, hap, hb⟩; (try dsimp only at hP hyp); have C2 := Lib.hid (C1.out.fresh hb); have P2 := Lib.hid (Cells.below P1.out hb); have LO : Hid (g < w1.heap.size ∧ r1 < w1.heap.size ∧ r2 < w1.heap.size ∧ r3 < w1.heap.size ∧ w1.heap.size ≤ w2.heap.size) := ⟨C1.out.box.lt, C1.out.s.lt, C1.out.m.lt, C1.out.o.lt, hb.size⟩; have HO := Lib.hid hO; have HP := Lib.hid hP; have HYP := Lib.hid hyp; have HYA := Lib.hid hya; (try unfold nv); (try unfold mxv); (try dsimp only); clear hO hP hyp hya hyn hyo hap hb k0 k1 o0 o1 o2 HBD) | fail)
        obtain ⟨lo, hlo⟩ : ∃ x, x = w1.heap.size := ⟨_, rfl⟩
        rw [← hlo] at LO HO
        clear hlo C1 P1
        have A8 : Below w2.heap.size w2 ((w2.alloc (.cells #[.int .i64 (cap : Int), .slice Q2 n2 c2] 28)).alloc (.cells #[.int .i64 y.k, .int .i64 y.f, .int .i64 y.t, .int .i64 y.i, .slice y.A y.n y.c, .slice y.B y.m y.d] 39)) := ((Below.refl _ _).alloc (Nat.le_refl _) _).alloc (by simp) _
        have C3 := Lib.hid (C2.out.fresh A8)
        have P3 := Lib.hid (Cells.below P2.out A8)
        have X3 : Hid (NBox ((w2.alloc (.cells #[.int .i64 (cap : Int), .slice Q2 n2 c2] 28)).alloc (.cells #[.int .i64 y.k, .int .i64 y.f, .int .i64 y.t, .int .i64 y.i, .slice y.A y.n y.c, .slice y.B y.m y.d] 39)) w2.heap.size (cap) Q2 n2 c2) := Cells.alloc (Cells.new _ _ _) _
        have Y3 : Hid (MBox ((w2.alloc (.cells #[.int .i64 (cap : Int), .slice Q2 n2 c2] 28)).alloc (.cells #[.int .i64 y.k, .int .i64 y.f, .int .i64 y.t, .int .i64 y.i, .slice y.A y.n y.c, .slice y.B y.m y.d] 39)) (w2.heap.size + 1) y) := by
          have := Cells.new (w2.alloc (.cells #[.int .i64 (cap : Int), .slice Q2 n2 c2] 28)) #[.int .i64 y.k, .int .i64 y.f, .int .i64 y.t, .int .i64 y.i, .slice y.A y.n y.c, .slice y.B y.m y.d] 39
          rw [World.size_alloc] at this
          exact this
        have N3 := Lib.hid (HO.out.below A8)
        have YA3 := Lib.hid (HYA.out.below A8)
        have LO3 : Hid (g < lo ∧ r1 < lo ∧ r2 < lo ∧ r3 < lo ∧ lo ≤ ((w2.alloc (.cells #[.int .i64 (cap : Int), .slice Q2 n2 c2] 28)).alloc (.cells #[.int .i64 y.k, .int .i64 y.f, .int .i64 y.t, .int .i64 y.i, .slice y.A y.n y.c, .slice y.B y.m y.d] 39)).heap.size) := ⟨LO.out.1, LO.out.2.1, LO.out.2.2.1, LO.out.2.2.2.1, Nat.le_trans LO.out.2.2.2.2 A8.size⟩
        obtain ⟨q, hq⟩ : ∃ x, x = w2.heap.size := ⟨_, rfl⟩
        rw [← hq] at X3 Y3
        rw [← hq]
        clear hq A8 C2 P2 HO HYA LO
        generalize ((w2.alloc (.cells #[.int .i64 (cap : Int), .slice Q2 n2 c2] 28)).alloc (.cells #[.int .i64 y.k, .int .i64 y.f, .int .i64 y.t, .int .i64 y.i, .slice y.A y.n y.c, .slice y.B y.m y.d] 39)) = w3 at *
        obtain ⟨kk, hkk⟩ : ∃ x, x = rr.length := ⟨_, rfl⟩
        have hlm : ls.length = m := HOA.out.row.len
        have hnl : l.length = n := C3.out.own.elim fun _ h => h.2.2.2.2.2.len
        have hn2 : n2 = n + kk := by rw [← N3.out.len, ← List.length_map (f := Mx.p), HP.out, List.length_append, List.length_map, hnl, hkk]
        have hkm : kk ≤ m := by have := HRL.out; rw [List.length_map, hlm] at this; omega
        have hkc : n + kk ≤ cap := by have h1 := HRC.out; have h2 := HQ.out.len; rw [List.length_append, List.length_map, hnl, ← hkk] at h1; rw [List.length_map, hnl] at h2; omega
        have HKK := Lib.hid hkk
        subst hn2
        rw [← hkk]
        clear hkk hlm hnl
        have e1 : decide ((kk : Int) < 0) = false := decide_eq_false (by omega)
        have e2 : decide (m < kk) = false := decide_eq_false (by omega)
        obtain ⟨x0, x1⟩ := NBox.cells X3.out
        obtain ⟨o0, o1, o2⟩ := OBox.cells (x := ⟨0, ii, L, m, e, ls⟩) P3.out
        (try dsimp only at o0 o1 o2)
        have htl := run_tailM Q2 (n + kk) c2 n (by omega)
        rw [Nat.add_sub_cancel_left] at htl
        have NT3 : Hid (NetAt w3 Q2 (n + kk) c2 l2) := N3.out.net (by omega)
        have HLM : Hid ((l2.drop n).map Mx.p = rr) := by
          show _ = _
          have hnl : (l.map Mx.p).length = n := by rw [List.length_map]; exact C3.out.own.elim fun _ h => h.2.2.2.2.2.len
          rw [List.map_drop, HP.out, ← hnl, List.drop_left]
        have R3 : Hid (NetAt w3 (tailM Q2 c2 n) kk (c2 - n) (l2.drop n)) := by
          have := row_tail NT3.out.row (k := n) (by omega)
          rw [Nat.add_sub_cancel_left] at this
          exact ⟨this, fun x hx => NT3.out.at_ x (List.mem_of_mem_drop hx)⟩
        obtain ⟨T, hT⟩ : ∃ T, T = tailM Q2 c2 n := ⟨_, rfl⟩
        rw [← hT] at htl R3
        have HT := Lib.hid hT
        clear hT NT3
        go_upto_region 23 with fail
        clear x0 x1 o0 o1 o2 htl e1 e2
        have QS3 : Hid (Ct a (fun s => S s + cnt (rr.take 0) s)) := ct_same HQ.out.cs fun s => by simp [cnt]
        go_loopw [19, 115] (fun _ t wx => ∃ (k : Nat) (a' : List (Kb × Int)), t = .int .i64 k ∧ k ≤ kk ∧ Hid (Cm w wx g r1 r2 r3 cap Q n c l a' b d) ∧ Hid (Ct a' (fun s => S s + cnt (rr.take k) s)) ∧ Hid (OBox wx p ⟨0, ii, L, m, e, ls⟩ ∧ NBox wx q cap Q2 (n + kk) c2 ∧ OwnN lo lo wx (.slice Q2 (n + kk) c2) (n + kk) l2) ∧ Hid (g < lo ∧ r1 < lo ∧ r2 < lo ∧ r3 < lo ∧ lo ≤ wx.heap.size)) (fun _ t _ => kk - (intOf t).toNat)
        case atStart => exact ⟨0, a, rfl, by omega, C3, QS3, ⟨P3.out, X3.out, N3.out⟩, LO3⟩
        case round =>
          clear R3 C3 P3 X3 N3 LO3 QS3
          obtain ⟨k, a', rfl, hk, C4, QS4, B4, LO4⟩ := hrel
          obtain ⟨w4, hw4⟩ : ∃ x, x = wr := ⟨_, rfl⟩
          subst hw4
          have P4 := Lib.hid B4.out.1
          have X4 := Lib.hid B4.out.2.1
          have N4 := Lib.hid B4.out.2.2
          clear B4
          by_cases hlt : k < kk
          · have NT4 : Hid (NetAt w4 Q2 (n + kk) c2 l2) := N4.out.net (by omega)
            have R4 : Hid (NetAt w4 T kk (c2 - n) (l2.drop n)) := by
              have := row_tail NT4.out.row (k := n) (by omega)
              rw [Nat.add_sub_cancel_left, ← HT.out] at this
              exact ⟨this, fun x hx => NT4.out.at_ x (List.mem_of_mem_drop hx)⟩
            obtain ⟨z, hz, hzm⟩ := R4.out.get hlt
            obtain ⟨b2, q2, hQ, hb2, hcs⟩ := R4.out.cells hz
            obtain ⟨m0, m1, m2, m3, m4, m5⟩ := hcs w4 (Below.refl _ _)
            have hzr : rr[k]? = some z.p := by rw [← HLM.out, List.getElem?_map, hz]; rfl
            have HZO : Hid (okM z.p = true) := HRO.out _ (List.mem_of_getElem? hzr)
            have HZK : Hid (okS (keyP z.p)) := okS_key HZO.out hzm.fits
            have hk0 : (0 : Int) ≤ (k : Int) := by omega
            have hkn : (k : Int) < (kk : Int) := by omega
            obtain ⟨v, hv⟩ : ∃ v : Nat, v = S (keyP z.p) + cnt (rr.take k) (keyP z.p) := ⟨_, rfl⟩
            have HCV : Hid (cv a' (keyP z.p) = (v : Int)) := by show _ = _; rw [hv]; exact QS4.out.cv _
            have hvb : v ≤ 600000 := by
              have h1 := HQ.out.bs (keyP z.p)
              have h2 := cnt_le (rr.take k) (keyP z.p)
              rw [List.length_take] at h2
              omega
            have QS6 : Hid (Ct (setB a' (keyP z.p) ((v : Int) + 1)) (fun s => S s + cnt (rr.take (k + 1)) s)) := by
              have h1 := QS4.out.more (keyP z.p)
              rw [← hv] at h1
              refine ct_same h1 fun s => ?_
              show S s + cnt (rr.take k) s + (if s = keyP z.p then 1 else 0) = S s + cnt (rr.take (k + 1)) s
              rw [cnt_snoc hzr s, Nat.add_assoc]
            clear hv hzr hz hcs hb2 R4 NT4
            subst hQ
            have A5 : Below w4.heap.size w4 (w4.alloc (.cells #[.int .i64 z.k, .int .i64 z.f, .int .i64 z.t, .int .i64 z.i, .slice z.A z.n z.c, .slice z.B z.m z.d] 39)) := (Below.refl _ _).alloc (Nat.le_refl _) _
            have C5 := Lib.hid (C4.out.fresh A5)
            have P5 := Lib.hid (Cells.below P4.out A5)
            have X5 := Lib.hid (Cells.below X4.out A5)
            have N5 := Lib.hid (N4.out.below A5)
            have LO5 := Lib.hid (sz_up LO4.out A5.size)
            have Z5 : Hid (MBox (w4.alloc (.cells #[.int .i64 z.k, .int .i64 z.f, .int .i64 z.t, .int .i64 z.i, .slice z.A z.n z.c, .slice z.B z.m z.d] 39)) w4.heap.size z) := Cells.new _ _ _
            have ZA5 := Lib.hid (hzm.below A5)
            go_upto_region 25 with fail
            obtain ⟨u, hu⟩ : ∃ x, x = w4.heap.size := ⟨_, rfl⟩
            rw [← hu] at Z5
            rw [← hu]
            clear hu A5 m0 m1 m2 m3 m4 m5 hzm C4 P4 X4 N4 LO4
            generalize w4.alloc (.cells #[.int .i64 z.k, .int .i64 z.f, .int .i64 z.t, .int .i64 z.i, .slice z.A z.n z.c, .slice z.B z.m z.d] 39) = w5 at *
            obtain ⟨m0, m1, m2, m3, m4, m5⟩ := MBox.cells Z5.out
            go_wp2_with (first | (go_at_call 25; refine (key_any ZA5.out HZO.out).mono ?_; rintro en w6 ⟨rfl, hb⟩; have C6 := Lib.hid (C5.out.fresh hb); have P6 := Lib.hid (Cells.below P5.out hb); have X6 := Lib.hid (Cells.below X5.out hb); have N6 := Lib.hid (OwnN.below N5.out hb); have LO6 := Lib.hid (sz_up LO5.out hb.size); clear hb; have hget := getI C6.out.s HZK.out; rw [HCV.out] at hget; obtain ⟨w7, hput, hL7, hV7, hz7⟩ := putI C6.out.s HZK.out ((v : Int) + 1); have C7 := Lib.hid (C6.out.putS hL7 hV7); have P7 := Lib.hid (Cells.mov P6.out hV7 (by simpa using C6.out.s.ne P6.out)); have X7 := Lib.hid (Cells.mov X6.out hV7 (by simpa using C6.out.s.ne X6.out)); have N7 := Lib.hid (N6.out.low_ LO6.out.2.1 hV7); have LO7 := Lib.hid (sz_up LO6.out hV7.size); clear hL7 hV7 hz7) | fail)
            go_roundw
            case rel => exact ⟨k + 1, _, by go_num, by omega, C7, QS6, ⟨P7.out, X7.out, N7.out⟩, LO7⟩
            case measure => simp [intOf]; omega
          · have hkk : k = kk := by omega
            subst hkk
            have HA' : Hid (Ct a' (fun s => S s + cnt rr s)) := ct_same QS4.out fun s => by rw [List.take_of_length_le (by have := HKK.out; omega)]
            have HQ2 := Lib.hid (HQ.out.sent HRO.out (by have h1 := HRC.out; have h2 := HQ.out.len; omega) (by omega) HA'.out)
            have hn2 : (n + k) ≤ cap := by rw [← N4.out.len, ← List.length_map (f := Mx.p), HP.out]; exact HQ2.out.len
            have hgt : decide (cap < (n + k)) = false := decide_eq_false (by omega)
            obtain ⟨x0, x1⟩ := NBox.cells X4.out
            obtain ⟨o0, o1, o2⟩ := OBox.cells (x := ⟨0, ii, L, m, e, ls⟩) P4.out
            (try dsimp only at o0 o1 o2)
            obtain ⟨k0, k1⟩ := NBox.cells C4.out.box
            have f0 := Cells.frozen C4.out.box 0
            have f1 := Cells.frozen C4.out.box 1
            have CE := Lib.hid (C4.out.give LO4.out N4.out)
            rw [← HP.out] at HQ2
            go_wp2_with fail
            go_roundw
            case rel => exact ⟨i + 1, Q2, (n + k), c2, l2, _, _, _, _, _, by go_num, by omega, CE.out, HQ2.out⟩
            case measure => simp [intOf]; omega
      have h0 := hd
      clear hd
      by_cases hd : dd = 1
      · skip
        obtain rfl : dd = 1 := hd
        have A1 : Below wr.heap.size wr (wr.alloc (.cells #[.int .i64 1, .int .i64 ii, .slice L m e] 35)) := (Below.refl _ _).alloc (Nat.le_refl _) _
        have C1 := Lib.hid (CR.out.fresh A1)
        have P1 : Hid (OBox (wr.alloc (.cells #[.int .i64 1, .int .i64 ii, .slice L m e] 35)) wr.heap.size ⟨1, ii, L, m, e, ls⟩) := Cells.new _ _ _
        go_upto_region 14 with fail
        obtain ⟨p, hp⟩ : ∃ x, x = wr.heap.size := ⟨_, rfl⟩
        rw [← hp] at P1
        rw [← hp]
        clear hp A1 c0 c1 c2 CR
        generalize (wr.alloc (.cells #[.int .i64 1, .int .i64 ii, .slice L m e] 35)) = w1 at *
        obtain ⟨k0, k1⟩ := NBox.cells C1.out.box
        obtain ⟨o0, o1, o2⟩ := OBox.cells P1.out
        (try dsimp only at o0 o1 o2)
        go_upto_region 16 with fail
        clear k0 k1 o0 o1 o2
        rcases op_take cap (l.map Mx.p) ii (ls.map Mx.p) with ⟨j, xp, hx, hR⟩ | ⟨cap2, pl, p2, er, kk, hR, her⟩
        · have HR := Lib.hid hR
          have HXP := Lib.hid hx
          have HXO : Hid (okM xp = true) := HQ.out.inv.ok _ (List.mem_of_getElem? hx)
          have HQ2 := Lib.hid (HQ.out.took hx)
          clear hR hx
          obtain ⟨k0, k1⟩ := NBox.cells C1.out.box
          obtain ⟨o0, o1, o2⟩ := OBox.cells (x := ⟨1, ii, L, m, e, ls⟩) P1.out
          (try dsimp only at o0 o1 o2)
          have HBD := Lib.hid (body_any (cap := cap) (C1.out.net HN5.out) HN5.out (by omega) (o := ⟨1, ii, L, m, e, ls⟩) (HOA.out.below C1.out.below))
          dsimp only at HBD
          rw [HR.out] at HBD
          unfold nv oxv at HBD
          dsimp only at HBD
          go_upto_region 18 with (first | (go_at_call 17; refine HBD.out.mono ?_; rintro en w2 ⟨Q2, n2, c2, l2, y, rfl, hO, hP, hyp, hya, hyn, hyo, hap, hb⟩; (try dsimp only at hP hyp); have C2 := Lib.hid (C1.out.fresh hb); have P2 := Lib.hid (Cells.below P1.out hb); have LO : Hid (g < w1.heap.size ∧ r1 < w1.heap.size ∧ r2 < w1.heap.size ∧ r3 < w1.heap.size ∧ w1.heap.size ≤ w2.heap.size) := ⟨C1.out.box.lt, C1.out.s.lt, C1.out.m.lt, C1.out.o.lt, hb.size⟩; have HO := Lib.hid hO; have HP := Lib.hid hP; have HYP := Lib.hid hyp; have HYA := Lib.hid hya; (try unfold nv); (try unfold mxv); (try dsimp only); clear hO hP hyp hya hyn hyo hap hb k0 k1 o0 o1 o2 HBD) | fail)
          obtain ⟨lo, hlo⟩ : ∃ x, x = w1.heap.size := ⟨_, rfl⟩
          rw [← hlo] at LO HO
          clear hlo C1 P1
          have A8 : Below w2.heap.size w2 ((w2.alloc (.cells #[.int .i64 (cap : Int), .slice Q2 n2 c2] 28)).alloc (.cells #[.int .i64 y.k, .int .i64 y.f, .int .i64 y.t, .int .i64 y.i, .slice y.A y.n y.c, .slice y.B y.m y.d] 39)) := ((Below.refl _ _).alloc (Nat.le_refl _) _).alloc (by simp) _
          have C3 := Lib.hid (C2.out.fresh A8)
          have P3 := Lib.hid (Cells.below P2.out A8)
          have X3 : Hid (NBox ((w2.alloc (.cells #[.int .i64 (cap : Int), .slice Q2 n2 c2] 28)).alloc (.cells #[.int .i64 y.k, .int .i64 y.f, .int .i64 y.t, .int .i64 y.i, .slice y.A y.n y.c, .slice y.B y.m y.d] 39)) w2.heap.size (cap) Q2 n2 c2) := Cells.alloc (Cells.new _ _ _) _
          have Y3 : Hid (MBox ((w2.alloc (.cells #[.int .i64 (cap : Int), .slice Q2 n2 c2] 28)).alloc (.cells #[.int .i64 y.k, .int .i64 y.f, .int .i64 y.t, .int .i64 y.i, .slice y.A y.n y.c, .slice y.B y.m y.d] 39)) (w2.heap.size + 1) y) := by
            have := Cells.new (w2.alloc (.cells #[.int .i64 (cap : Int), .slice Q2 n2 c2] 28)) #[.int .i64 y.k, .int .i64 y.f, .int .i64 y.t, .int .i64 y.i, .slice y.A y.n y.c, .slice y.B y.m y.d] 39
            rw [World.size_alloc] at this
            exact this
          have N3 := Lib.hid (HO.out.below A8)
          have YA3 := Lib.hid (HYA.out.below A8)
          have LO3 : Hid (g < lo ∧ r1 < lo ∧ r2 < lo ∧ r3 < lo ∧ lo ≤ ((w2.alloc (.cells #[.int .i64 (cap : Int), .slice Q2 n2 c2] 28)).alloc (.cells #[.int .i64 y.k, .int .i64 y.f, .int .i64 y.t, .int .i64 y.i, .slice y.A y.n y.c, .slice y.B y.m y.d] 39)).heap.size) := ⟨LO.out.1, LO.out.2.1, LO.out.2.2.1, LO.out.2.2.2.1, Nat.le_trans LO.out.2.2.2.2 A8.size⟩
          obtain ⟨q, hq⟩ : ∃ x, x = w2.heap.size := ⟨_, rfl⟩
          rw [← hq] at X3 Y3
          rw [← hq]
          clear hq A8 C2 P2 HO HYA LO
          generalize ((w2.alloc (.cells #[.int .i64 (cap : Int), .slice Q2 n2 c2] 28)).alloc (.cells #[.int .i64 y.k, .int .i64 y.f, .int .i64 y.t, .int .i64 y.i, .slice y.A y.n y.c, .slice y.B y.m y.d] 39)) = w3 at *
          have HYO : Hid (okM y.p = true) := by show _ = _; rw [HYP.out]; exact HXO.out
          have HYK : Hid (okS (keyP y.p)) := okS_key HYO.out YA3.out.fits
          obtain ⟨v, hv⟩ : ∃ v : Nat, v = O (keyP y.p) := ⟨_, rfl⟩
          have HCV : Hid (cv d (keyP y.p) = (v : Int)) := by show _ = _; rw [hv]; exact HQ.out.co.cv _
          have hvb : v ≤ 100 := by rw [hv]; exact Nat.le_trans (HQ.out.bo _) (by omega)
          have HV := Lib.hid hv
          rw [← HYP.out, ← hv] at HQ2
          clear hv HXO
          obtain ⟨m0, m1, m2, m3, m4, m5⟩ := MBox.cells Y3.out
          obtain ⟨o0, o1, o2⟩ := OBox.cells (x := ⟨1, ii, L, m, e, ls⟩) P3.out
          (try dsimp only at o0 o1 o2)
          go_upto_region 29 with (first | (go_at_call 25; refine (key_any YA3.out HYO.out).mono ?_; rintro en w4 ⟨rfl, hb⟩; have C4 := Lib.hid (C3.out.fresh hb); have P4 := Lib.hid (Cells.below P3.out hb); have X4 := Lib.hid (Cells.below X3.out hb); have N4 := Lib.hid (OwnN.below N3.out hb); have LO4 := Lib.hid (sz_up LO3.out hb.size); clear hb; have hget := getI C4.out.o HYK.out; rw [HCV.out] at hget; obtain ⟨w5, hput, hL5, hV5, hz5⟩ := putI C4.out.o HYK.out ((v : Int) + 1); have C5 := Lib.hid (C4.out.putO hL5 hV5); have P5 := Lib.hid (Cells.mov P4.out hV5 (by simpa using C4.out.o.ne P4.out)); have X5 := Lib.hid (Cells.mov X4.out hV5 (by simpa using C4.out.o.ne X4.out)); have N5 := Lib.hid (N4.out.low_ LO4.out.2.2.2.1 hV5); have LO5 := Lib.hid (sz_up LO4.out hV5.size); clear hL5 hV5 hz5) | fail)
          clear m0 m1 m2 m3 m4 m5 o0 o1 o2 hget hput C3 C4 P3 P4 X3 X4 N3 N4 LO3 LO4 Y3 YA3
          have hn2 : n2 ≤ cap := by rw [← N5.out.len, ← List.length_map (f := Mx.p), HP.out]; exact HQ2.out.len
          have hgt : decide (cap < n2) = false := decide_eq_false (by omega)
          obtain ⟨x0, x1⟩ := NBox.cells X5.out
          obtain ⟨o0, o1, o2⟩ := OBox.cells (x := ⟨1, ii, L, m, e, ls⟩) P5.out
          (try dsimp only at o0 o1 o2)
          obtain ⟨k0, k1⟩ := NBox.cells C5.out.box
          have f0 := Cells.frozen C5.out.box 0
          have f1 := Cells.frozen C5.out.box 1
          have CE := Lib.hid (C5.out.give LO5.out N5.out)
          rw [← HP.out] at HQ2
          go_wp2_with fail
          go_roundw
          case rel => exact ⟨i + 1, Q2, n2, c2, l2, _, _, _, _, _, by go_num, by omega, CE.out, HQ2.out⟩
          case measure => simp [intOf]; omega
        · have HR := Lib.hid hR
          have HER := Lib.hid her
          clear hR her
          obtain ⟨k0, k1⟩ := NBox.cells C1.out.box
          obtain ⟨o0, o1, o2⟩ := OBox.cells (x := ⟨1, ii, L, m, e, ls⟩) P1.out
          (try dsimp only at o0 o1 o2)
          have HBD := Lib.hid (body_any (cap := cap) (C1.out.net HN5.out) HN5.out (by omega) (o := ⟨1, ii, L, m, e, ls⟩) (HOA.out.below C1.out.below))
          dsimp only at HBD
          rw [HR.out] at HBD
          unfold nv oxv at HBD
          dsimp only at HBD
          go_upto_region 18 with (first | (go_at_call 17; refine HBD.out.mono ?_; rintro en w2 ⟨Q2, n2, c2, l2, y, rfl, hO, hP, hyp, hya, hyn, hyo, hap, hb⟩; (try dsimp only at hP hyp); have C2 := Lib.hid (C1.out.fresh hb); have P2 := Lib.hid (Cells.below P1.out hb); have LO : Hid (g < w1.heap.size ∧ r1 < w1.heap.size ∧ r2 < w1.heap.size ∧ r3 < w1.heap.size ∧ w1.heap.size ≤ w2.heap.size) := ⟨C1.out.box.lt, C1.out.s.lt, C1.out.m.lt, C1.out.o.lt, hb.size⟩; have HO := Lib.hid hO; have HP := Lib.hid hP; have HYP := Lib.hid hyp; have HYA := Lib.hid hya; (try unfold nv); (try unfold mxv); (try dsimp only); clear hO hP hyp hya hyn hyo hap hb k0 k1 o0 o1 o2 HBD) | fail)
          obtain ⟨lo, hlo⟩ : ∃ x, x = w1.heap.size := ⟨_, rfl⟩
          rw [← hlo] at LO HO
          clear hlo C1 P1
          have A8 : Below w2.heap.size w2 ((w2.alloc (.cells #[.int .i64 (cap2 : Int), .slice Q2 n2 c2] 28)).alloc (.cells #[.int .i64 y.k, .int .i64 y.f, .int .i64 y.t, .int .i64 y.i, .slice y.A y.n y.c, .slice y.B y.m y.d] 39)) := ((Below.refl _ _).alloc (Nat.le_refl _) _).alloc (by simp) _
          have C3 := Lib.hid (C2.out.fresh A8)
          have P3 := Lib.hid (Cells.below P2.out A8)
          have X3 : Hid (NBox ((w2.alloc (.cells #[.int .i64 (cap2 : Int), .slice Q2 n2 c2] 28)).alloc (.cells #[.int .i64 y.k, .int .i64 y.f, .int .i64 y.t, .int .i64 y.i, .slice y.A y.n y.c, .slice y.B y.m y.d] 39)) w2.heap.size (cap2) Q2 n2 c2) := Cells.alloc (Cells.new _ _ _) _
          have Y3 : Hid (MBox ((w2.alloc (.cells #[.int .i64 (cap2 : Int), .slice Q2 n2 c2] 28)).alloc (.cells #[.int .i64 y.k, .int .i64 y.f, .int .i64 y.t, .int .i64 y.i, .slice y.A y.n y.c, .slice y.B y.m y.d] 39)) (w2.heap.size + 1) y) := by
            have := Cells.new (w2.alloc (.cells #[.int .i64 (cap2 : Int), .slice Q2 n2 c2] 28)) #[.int .i64 y.k, .int .i64 y.f, .int .i64 y.t, .int .i64 y.i, .slice y.A y.n y.c, .slice y.B y.m y.d] 39
            rw [World.size_alloc] at this
            exact this
          have N3 := Lib.hid (HO.out.below A8)
          have YA3 := Lib.hid (HYA.out.below A8)
          have LO3 : Hid (g < lo ∧ r1 < lo ∧ r2 < lo ∧ r3 < lo ∧ lo ≤ ((w2.alloc (.cells #[.int .i64 (cap2 : Int), .slice Q2 n2 c2] 28)).alloc (.cells #[.int .i64 y.k, .int .i64 y.f, .int .i64 y.t, .int .i64 y.i, .slice y.A y.n y.c, .slice y.B y.m y.d] 39)).heap.size) := ⟨LO.out.1, LO.out.2.1, LO.out.2.2.1, LO.out.2.2.2.1, Nat.le_trans LO.out.2.2.2.2 A8.size⟩
          obtain ⟨q, hq⟩ : ∃ x, x = w2.heap.size := ⟨_, rfl⟩
          rw [← hq] at X3 Y3
          rw [← hq]
          clear hq A8 C2 P2 HO HYA LO
          generalize ((w2.alloc (.cells #[.int .i64 (cap2 : Int), .slice Q2 n2 c2] 28)).alloc (.cells #[.int .i64 y.k, .int .i64 y.f, .int .i64 y.t, .int .i64 y.i, .slice y.A y.n y.c, .slice y.B y.m y.d] 39)) = w3 at *
          have hne : (er != 0) = true := by simpa using HER.out
          go_wp2_with fail
          go_roundw
          case rel => exact ⟨i + 1, _, n, c, l, _, _, _, _, _, by go_num, by omega, C3.out, HQ.out.next⟩
          case measure => simp [intOf]; omega
      have h1 := hd
      clear hd
      by_cases hd : dd = 3
      · rcases Int.lt_or_le ii 0 with hneg | hpos
        · have HI : Hid (ii < 0 ∨ ((l.map Mx.p).length : Int) ≤ ii) := Or.inl hneg
          have eg : decide (0 ≤ ii) = false := decide_eq_false (by omega)
          obtain rfl : dd = 3 := hd
          have A1 : Below wr.heap.size wr (wr.alloc (.cells #[.int .i64 3, .int .i64 ii, .slice L m e] 35)) := (Below.refl _ _).alloc (Nat.le_refl _) _
          have C1 := Lib.hid (CR.out.fresh A1)
          have P1 : Hid (OBox (wr.alloc (.cells #[.int .i64 3, .int .i64 ii, .slice L m e] 35)) wr.heap.size ⟨3, ii, L, m, e, ls⟩) := Cells.new _ _ _
          go_upto_region 14 with fail
          obtain ⟨p, hp⟩ : ∃ x, x = wr.heap.size := ⟨_, rfl⟩
          rw [← hp] at P1
          rw [← hp]
          clear hp A1 c0 c1 c2 CR
          generalize (wr.alloc (.cells #[.int .i64 3, .int .i64 ii, .slice L m e] 35)) = w1 at *
          obtain ⟨k0, k1⟩ := NBox.cells C1.out.box
          obtain ⟨o0, o1, o2⟩ := OBox.cells P1.out
          (try dsimp only at o0 o1 o2)
          go_upto_region 16 with fail
          clear k0 k1 o0 o1 o2
          obtain ⟨cap2, pl, p2, er, kk, hR, her⟩ := op_nodouble cap (l.map Mx.p) HI.out (ls.map Mx.p)
          have HR := Lib.hid hR
          have HER := Lib.hid her
          clear hR her
          obtain ⟨k0, k1⟩ := NBox.cells C1.out.box
          obtain ⟨o0, o1, o2⟩ := OBox.cells (x := ⟨3, ii, L, m, e, ls⟩) P1.out
          (try dsimp only at o0 o1 o2)
          have HBD := Lib.hid (body_any (cap := cap) (C1.out.net HN5.out) HN5.out (by omega) (o := ⟨3, ii, L, m, e, ls⟩) (HOA.out.below C1.out.below))
          dsimp only at HBD
          rw [HR.out] at HBD
          unfold nv oxv at HBD
          dsimp only at HBD
          go_upto_region 18 with (first | (go_at_call 17; refine HBD.out.mono ?_; rintro en w2 ⟨Q2, n2, c2, l2, y, rfl, hO, hP, hyp, hya, hyn, hyo, hap, hb⟩; (try dsimp only at hP hyp); have C2 := Lib.hid (C1.out.fresh hb); have P2 := Lib.hid (Cells.below P1.out hb); have LO : Hid (g < w1.heap.size ∧ r1 < w1.heap.size ∧ r2 < w1.heap.size ∧ r3 < w1.heap.size ∧ w1.heap.size ≤ w2.heap.size) := ⟨C1.out.box.lt, C1.out.s.lt, C1.out.m.lt, C1.out.o.lt, hb.size⟩; have HO := Lib.hid hO; have HP := Lib.hid hP; have HYP := Lib.hid hyp; have HYA := Lib.hid hya; (try unfold nv); (try unfold mxv); (try dsimp only); clear hO hP hyp hya hyn hyo hap hb k0 k1 o0 o1 o2 HBD) | fail)
          obtain ⟨lo, hlo⟩ : ∃ x, x = w1.heap.size := ⟨_, rfl⟩
          rw [← hlo] at LO HO
          clear hlo C1 P1
          have A8 : Below w2.heap.size w2 ((w2.alloc (.cells #[.int .i64 (cap2 : Int), .slice Q2 n2 c2] 28)).alloc (.cells #[.int .i64 y.k, .int .i64 y.f, .int .i64 y.t, .int .i64 y.i, .slice y.A y.n y.c, .slice y.B y.m y.d] 39)) := ((Below.refl _ _).alloc (Nat.le_refl _) _).alloc (by simp) _
          have C3 := Lib.hid (C2.out.fresh A8)
          have P3 := Lib.hid (Cells.below P2.out A8)
          have X3 : Hid (NBox ((w2.alloc (.cells #[.int .i64 (cap2 : Int), .slice Q2 n2 c2] 28)).alloc (.cells #[.int .i64 y.k, .int .i64 y.f, .int .i64 y.t, .int .i64 y.i, .slice y.A y.n y.c, .slice y.B y.m y.d] 39)) w2.heap.size (cap2) Q2 n2 c2) := Cells.alloc (Cells.new _ _ _) _
          have Y3 : Hid (MBox ((w2.alloc (.cells #[.int .i64 (cap2 : Int), .slice Q2 n2 c2] 28)).alloc (.cells #[.int .i64 y.k, .int .i64 y.f, .int .i64 y.t, .int .i64 y.i, .slice y.A y.n y.c, .slice y.B y.m y.d] 39)) (w2.heap.size + 1) y) := by
            have := Cells.new (w2.alloc (.cells #[.int .i64 (cap2 : Int), .slice Q2 n2 c2] 28)) #[.int .i64 y.k, .int .i64 y.f, .int .i64 y.t, .int .i64 y.i, .slice y.A y.n y.c, .slice y.B y.m y.d] 39
            rw [World.size_alloc] at this
            exact this
          have N3 := Lib.hid (HO.out.below A8)
          have YA3 := Lib.hid (HYA.out.below A8)
          have LO3 : Hid (g < lo ∧ r1 < lo ∧ r2 < lo ∧ r3 < lo ∧ lo ≤ ((w2.alloc (.cells #[.int .i64 (cap2 : Int), .slice Q2 n2 c2] 28)).alloc (.cells #[.int .i64 y.k, .int .i64 y.f, .int .i64 y.t, .int .i64 y.i, .slice y.A y.n y.c, .slice y.B y.m y.d] 39)).heap.size) := ⟨LO.out.1, LO.out.2.1, LO.out.2.2.1, LO.out.2.2.2.1, Nat.le_trans LO.out.2.2.2.2 A8.size⟩
          obtain ⟨q, hq⟩ : ∃ x, x = w2.heap.size := ⟨_, rfl⟩
          rw [← hq] at X3 Y3
          rw [← hq]
          clear hq A8 C2 P2 HO HYA LO
          generalize ((w2.alloc (.cells #[.int .i64 (cap2 : Int), .slice Q2 n2 c2] 28)).alloc (.cells #[.int .i64 y.k, .int .i64 y.f, .int .i64 y.t, .int .i64 y.i, .slice y.A y.n y.c, .slice y.B y.m y.d] 39)) = w3 at *
          have hne : (er != 0) = true := by simpa using HER.out
          go_wp2_with fail
          go_roundw
          case rel => exact ⟨i + 1, _, n, c, l, _, _, _, _, _, by go_num, by omega, C3.out, HQ.out.next⟩
          case measure => simp [intOf]; omega
        rcases Int.lt_or_le ii (n : Int) with hlt2 | hge
        · obtain ⟨j, rfl⟩ : ∃ j : Nat, ii = (j : Int) := ⟨ii.toNat, by omega⟩
          obtain ⟨x, hx, hxm⟩ := (CR.out.net HN5.out).get (i := j) (by omega)
          have hjn : j < n := by omega
          have HX := Lib.hid hx
          have hxp : (l.map Mx.p)[j]? = some x.p := by rw [List.getElem?_map, hx]; rfl
          have HXP := Lib.hid hxp
          have HXO : Hid (okM x.p = true) := HQ.out.inv.ok _ (List.mem_of_getElem? hxp)
          clear hx hxm hxp hpos hlt2
          obtain rfl : dd = 3 := hd
          have A1 : Below wr.heap.size wr (wr.alloc (.cells #[.int .i64 3, .int .i64 (j : Int), .slice L m e] 35)) := (Below.refl _ _).alloc (Nat.le_refl _) _
          have C1 := Lib.hid (CR.out.fresh A1)
          have P1 : Hid (OBox (wr.alloc (.cells #[.int .i64 3, .int .i64 (j : Int), .slice L m e] 35)) wr.heap.size ⟨3, (j : Int), L, m, e, ls⟩) := Cells.new _ _ _
          go_upto_region 14 with fail
          obtain ⟨p, hp⟩ : ∃ x, x = wr.heap.size := ⟨_, rfl⟩
          rw [← hp] at P1
          rw [← hp]
          clear hp A1 c0 c1 c2 CR
          generalize (wr.alloc (.cells #[.int .i64 3, .int .i64 (j : Int), .slice L m e] 35)) = w1 at *
          obtain ⟨k0, k1⟩ := NBox.cells C1.out.box
          obtain ⟨o0, o1, o2⟩ := OBox.cells P1.out
          (try dsimp only at o0 o1 o2)
          obtain ⟨b2, q2, hQ, hb2, hcs⟩ := (C1.out.net HN5.out).cells HX.out
          subst hQ
          obtain ⟨m0, m1, m2, m3, m4, m5⟩ := hcs w1 (Below.refl _ _)
          have hj0 : (0 : Int) ≤ (j : Int) := by omega
          have hjn : (j : Int) < (n : Int) := by omega
          have hjn' : j < n := by omega
          have HXM := Lib.hid ((C1.out.net HN5.out).at_ x (List.mem_of_getElem? HX.out))
          have HXK : Hid (okS (keyP x.p)) := okS_key HXO.out HXM.out.fits
          clear hb2 hcs
          go_upto_region 16 with (first | (go_at_call 25; refine (key_any HXM.out HXO.out).mono ?_; rintro en w2 ⟨rfl, hb⟩; have C2 := Lib.hid (C1.out.fresh hb); have P2 := Lib.hid (Cells.below P1.out hb); clear hb; obtain ⟨w3, hput, hL3, hV3, hz3⟩ := putD C2.out.m HXK.out true; have C3 := Lib.hid (C2.out.putD hL3 hV3); have P3 := Lib.hid (Cells.mov P2.out hV3 (by simpa using C2.out.m.ne P2.out)); clear hL3 hV3 hz3) | fail)
          clear k0 k1 o0 o1 o2 m0 m1 m2 m3 m4 m5 C1 P1 C2 P2 hput HXM
          have HQ3 := Lib.hid (HQ.out.mark (keyP x.p))
          clear HQ
          obtain ⟨b', hb'⟩ : ∃ x1, x1 = setB b (keyP x.p) true := ⟨_, rfl⟩
          have HDV : Hid (dv b' (keyP x.p) = true) := by show _ = _; rw [hb', dv_set]; simp
          rw [← hb'] at C3 HQ3
          clear hb'
          have HQ := HQ3
          rcases op_double cap (l.map Mx.p) HXP.out (ls.map Mx.p) with ⟨hroom, hR⟩ | ⟨cap2, pl, p2, er, kk, hR, her⟩
          · have HR := Lib.hid hR
            have HQ2 : Hid (Cq (l.map Mx.p ++ [x.p]) a b' d S O cap (i + 1)) := HQ.out.with (HQ.out.inv.twice HXP.out HDV.out) (by rw [List.length_append, List.length_singleton]; omega)
            clear hR hroom
            obtain ⟨k0, k1⟩ := NBox.cells C3.out.box
            obtain ⟨o0, o1, o2⟩ := OBox.cells (x := ⟨3, (j : Int), L, m, e, ls⟩) P3.out
            (try dsimp only at o0 o1 o2)
            have HBD := Lib.hid (body_any (cap := cap) (C3.out.net HN5.out) HN5.out (by omega) (o := ⟨3, (j : Int), L, m, e, ls⟩) (HOA.out.below C3.out.below))
            dsimp only at HBD
            rw [HR.out] at HBD
            unfold nv oxv at HBD
            dsimp only at HBD
            go_upto_region 18 with (first | (go_at_call 17; refine HBD.out.mono ?_; rintro en w4 ⟨Q2, n2, c2, l2, y, rfl, hO, hP, hyp, hya, hyn, hyo, hap, hb⟩; (try dsimp only at hP hyp); have C4 := Lib.hid (C3.out.fresh hb); have P4 := Lib.hid (Cells.below P3.out hb); have LO : Hid (g < w3.heap.size ∧ r1 < w3.heap.size ∧ r2 < w3.heap.size ∧ r3 < w3.heap.size ∧ w3.heap.size ≤ w4.heap.size) := ⟨C3.out.box.lt, C3.out.s.lt, C3.out.m.lt, C3.out.o.lt, hb.size⟩; have HO := Lib.hid hO; have HP := Lib.hid hP; have HYP := Lib.hid hyp; have HYA := Lib.hid hya; (try unfold nv); (try unfold mxv); (try dsimp only); clear hO hP hyp hya hyn hyo hap hb k0 k1 o0 o1 o2 HBD) | fail)
            obtain ⟨lo, hlo⟩ : ∃ x, x = w3.heap.size := ⟨_, rfl⟩
            rw [← hlo] at LO HO
            clear hlo C3 P3
            have A8 : Below w4.heap.size w4 ((w4.alloc (.cells #[.int .i64 (cap : Int), .slice Q2 n2 c2] 28)).alloc (.cells #[.int .i64 y.k, .int .i64 y.f, .int .i64 y.t, .int .i64 y.i, .slice y.A y.n y.c, .slice y.B y.m y.d] 39)) := ((Below.refl _ _).alloc (Nat.le_refl _) _).alloc (by simp) _
            have C5 := Lib.hid (C4.out.fresh A8)
            have P5 := Lib.hid (Cells.below P4.out A8)
            have X5 : Hid (NBox ((w4.alloc (.cells #[.int .i64 (cap : Int), .slice Q2 n2 c2] 28)).alloc (.cells #[.int .i64 y.k, .int .i64 y.f, .int .i64 y.t, .int .i64 y.i, .slice y.A y.n y.c, .slice y.B y.m y.d] 39)) w4.heap.size (cap) Q2 n2 c2) := Cells.alloc (Cells.new _ _ _) _
            have Y5 : Hid (MBox ((w4.alloc (.cells #[.int .i64 (cap : Int), .slice Q2 n2 c2] 28)).alloc (.cells #[.int .i64 y.k, .int .i64 y.f, .int .i64 y.t, .int .i64 y.i, .slice y.A y.n y.c, .slice y.B y.m y.d] 39)) (w4.heap.size + 1) y) := by
              have := Cells.new (w4.alloc (.cells #[.int .i64 (cap : Int), .slice Q2 n2 c2] 28)) #[.int .i64 y.k, .int .i64 y.f, .int .i64 y.t, .int .i64 y.i, .slice y.A y.n y.c, .slice y.B y.m y.d] 39
              rw [World.size_alloc] at this
              exact this
            have N5 := Lib.hid (HO.out.below A8)
            have YA5 := Lib.hid (HYA.out.below A8)
            have LO5 : Hid (g < lo ∧ r1 < lo ∧ r2 < lo ∧ r3 < lo ∧ lo ≤ ((w4.alloc (.cells #[.int .i64 (cap : Int), .slice Q2 n2 c2] 28)).alloc (.cells #[.int .i64 y.k, .int .i64 y.f, .int .i64 y.t, .int .i64 y.i, .slice y.A y.n y.c, .slice y.B y.m y.d] 39)).heap.size) := ⟨LO.out.1, LO.out.2.1, LO.out.2.2.1, LO.out.2.2.2.1, Nat.le_trans LO.out.2.2.2.2 A8.size⟩
            obtain ⟨q, hq⟩ : ∃ x, x = w4.heap.size := ⟨_, rfl⟩
            rw [← hq] at X5 Y5
            rw [← hq]
            clear hq A8 C4 P4 HO HYA LO
            generalize ((w4.alloc (.cells #[.int .i64 (cap : Int), .slice Q2 n2 c2] 28)).alloc (.cells #[.int .i64 y.k, .int .i64 y.f, .int .i64 y.t, .int .i64 y.i, .slice y.A y.n y.c, .slice y.B y.m y.d] 39)) = w5 at *
            have hn2 : n2 ≤ cap := by rw [← N5.out.len, ← List.length_map (f := Mx.p), HP.out]; exact HQ2.out.len
            have hgt : decide (cap < n2) = false := decide_eq_false (by omega)
            obtain ⟨x0, x1⟩ := NBox.cells X5.out
            obtain ⟨o0, o1, o2⟩ := OBox.cells (x := ⟨3, (j : Int), L, m, e, ls⟩) P5.out
            (try dsimp only at o0 o1 o2)
            obtain ⟨k0, k1⟩ := NBox.cells C5.out.box
            have f0 := Cells.frozen C5.out.box 0
            have f1 := Cells.frozen C5.out.box 1
            have CE := Lib.hid (C5.out.give LO5.out N5.out)
            rw [← HP.out] at HQ2
            go_wp2_with fail
            go_roundw
            case rel => exact ⟨i + 1, Q2, n2, c2, l2, _, _, _, _, _, by go_num, by omega, CE.out, HQ2.out⟩
            case measure => simp [intOf]; omega
          · have HR := Lib.hid hR
            have HER := Lib.hid her
            clear hR her
            obtain ⟨k0, k1⟩ := NBox.cells C3.out.box
            obtain ⟨o0, o1, o2⟩ := OBox.cells (x := ⟨3, (j : Int), L, m, e, ls⟩) P3.out
            (try dsimp only at o0 o1 o2)
            have HBD := Lib.hid (body_any (cap := cap) (C3.out.net HN5.out) HN5.out (by omega) (o := ⟨3, (j : Int), L, m, e, ls⟩) (HOA.out.below C3.out.below))
            dsimp only at HBD
            rw [HR.out] at HBD
            unfold nv oxv at HBD
            dsimp only at HBD
            go_upto_region 18 with (first | (go_at_call 17; refine HBD.out.mono ?_; rintro en w4 ⟨Q2, n2, c2, l2, y, rfl, hO, hP, hyp, hya, hyn, hyo, hap, hb⟩; (try dsimp only at hP hyp); have C4 := Lib.hid (C3.out.fresh hb); have P4 := Lib.hid (Cells.below P3.out hb); have LO : Hid (g < w3.heap.size ∧ r1 < w3.heap.size ∧ r2 < w3.heap.size ∧ r3 < w3.heap.size ∧ w3.heap.size ≤ w4.heap.size) := ⟨C3.out.box.lt, C3.out.s.lt, C3.out.m.lt, C3.out.o.lt, hb.size⟩; have HO := Lib.hid hO; have HP := Lib.hid hP; have HYP := Lib.hid hyp; have HYA := Lib.hid hya; (try unfold nv); (try unfold mxv); (try dsimp only); clear hO hP hyp hya hyn hyo hap hb k0 k1 o0 o1 o2 HBD) | fail)
            obtain ⟨lo, hlo⟩ : ∃ x, x = w3.heap.size := ⟨_, rfl⟩
            rw [← hlo] at LO HO
            clear hlo C3 P3
            have A8 : Below w4.heap.size w4 ((w4.alloc (.cells #[.int .i64 (cap2 : Int), .slice Q2 n2 c2] 28)).alloc (.cells #[.int .i64 y.k, .int .i64 y.f, .int .i64 y.t, .int .i64 y.i, .slice y.A y.n y.c, .slice y.B y.m y.d] 39)) := ((Below.refl _ _).alloc (Nat.le_refl _) _).alloc (by simp) _
            have C5 := Lib.hid (C4.out.fresh A8)
            have P5 := Lib.hid (Cells.below P4.out A8)
            have X5 : Hid (NBox ((w4.alloc (.cells #[.int .i64 (cap2 : Int), .slice Q2 n2 c2] 28)).alloc (.cells #[.int .i64 y.k, .int .i64 y.f, .int .i64 y.t, .int .i64 y.i, .slice y.A y.n y.c, .slice y.B y.m y.d] 39)) w4.heap.size (cap2) Q2 n2 c2) := Cells.alloc (Cells.new _ _ _) _
            have Y5 : Hid (MBox ((w4.alloc (.cells #[.int .i64 (cap2 : Int), .slice Q2 n2 c2] 28)).alloc (.cells #[.int .i64 y.k, .int .i64 y.f, .int .i64 y.t, .int .i64 y.i, .slice y.A y.n y.c, .slice y.B y.m y.d] 39)) (w4.heap.size + 1) y) := by
              have := Cells.new (w4.alloc (.cells #[.int .i64 (cap2 : Int), .slice Q2 n2 c2] 28)) #[.int .i64 y.k, .int .i64 y.f, .int .i64 y.t, .int .i64 y.i, .slice y.A y.n y.c, .slice y.B y.m y.d] 39
              rw [World.size_alloc] at this
              exact this
            have N5 := Lib.hid (HO.out.below A8)
            have YA5 := Lib.hid (HYA.out.below A8)
            have LO5 : Hid (g < lo ∧ r1 < lo ∧ r2 < lo ∧ r3 < lo ∧ lo ≤ ((w4.alloc (.cells #[.int .i64 (cap2 : Int), .slice Q2 n2 c2] 28)).alloc (.cells #[.int .i64 y.k, .int .i64 y.f, .int .i64 y.t, .int .i64 y.i, .slice y.A y.n y.c, .slice y.B y.m y.d] 39)).heap.size) := ⟨LO.out.1, LO.out.2.1, LO.out.2.2.1, LO.out.2.2.2.1, Nat.le_trans LO.out.2.2.2.2 A8.size⟩
            obtain ⟨q, hq⟩ : ∃ x, x = w4.heap.size := ⟨_, rfl⟩
            rw [← hq] at X5 Y5
            rw [← hq]
            clear hq A8 C4 P4 HO HYA LO
            generalize ((w4.alloc (.cells #[.int .i64 (cap2 : Int), .slice Q2 n2 c2] 28)).alloc (.cells #[.int .i64 y.k, .int .i64 y.f, .int .i64 y.t, .int .i64 y.i, .slice y.A y.n y.c, .slice y.B y.m y.d] 39)) = w5 at *
            have hne : (er != 0) = true := by simpa using HER.out
            go_wp2_with fail
            go_roundw
            case rel => exact ⟨i + 1, _, n, c, l, _, _, _, _, _, by go_num, by omega, C5.out, HQ.out.next⟩
            case measure => simp [intOf]; omega
        · have HI : Hid (ii < 0 ∨ ((l.map Mx.p).length : Int) ≤ ii) := Or.inr (by rw [List.length_map, HNL.out]; exact hge)
          have eg : decide (0 ≤ ii) = true := decide_eq_true (by omega)
          have el : decide (ii < (n : Int)) = false := decide_eq_false (by omega)
          obtain rfl : dd = 3 := hd
          have A1 : Below wr.heap.size wr (wr.alloc (.cells #[.int .i64 3, .int .i64 ii, .slice L m e] 35)) := (Below.refl _ _).alloc (Nat.le_refl _) _
          have C1 := Lib.hid (CR.out.fresh A1)
          have P1 : Hid (OBox (wr.alloc (.cells #[.int .i64 3, .int .i64 ii, .slice L m e] 35)) wr.heap.size ⟨3, ii, L, m, e, ls⟩) := Cells.new _ _ _
          go_upto_region 14 with fail
          obtain ⟨p, hp⟩ : ∃ x, x = wr.heap.size := ⟨_, rfl⟩
          rw [← hp] at P1
          rw [← hp]
          clear hp A1 c0 c1 c2 CR
          generalize (wr.alloc (.cells #[.int .i64 3, .int .i64 ii, .slice L m e] 35)) = w1 at *
          obtain ⟨k0, k1⟩ := NBox.cells C1.out.box
          obtain ⟨o0, o1, o2⟩ := OBox.cells P1.out
          (try dsimp only at o0 o1 o2)
          go_upto_region 16 with fail
          clear k0 k1 o0 o1 o2
          obtain ⟨cap2, pl, p2, er, kk, hR, her⟩ := op_nodouble cap (l.map Mx.p) HI.out (ls.map Mx.p)
          have HR := Lib.hid hR
          have HER := Lib.hid her
          clear hR her
          obtain ⟨k0, k1⟩ := NBox.cells C1.out.box
          obtain ⟨o0, o1, o2⟩ := OBox.cells (x := ⟨3, ii, L, m, e, ls⟩) P1.out
          (try dsimp only at o0 o1 o2)
          have HBD := Lib.hid (body_any (cap := cap) (C1.out.net HN5.out) HN5.out (by omega) (o := ⟨3, ii, L, m, e, ls⟩) (HOA.out.below C1.out.below))
          dsimp only at HBD
          rw [HR.out] at HBD
          unfold nv oxv at HBD
          dsimp only at HBD
          go_upto_region 18 with (first | (go_at_call 17; refine HBD.out.mono ?_; rintro en w2 ⟨Q2, n2, c2, l2, y, rfl, hO, hP, hyp, hya, hyn, hyo, hap, hb⟩; (try dsimp only at hP hyp); have C2 := Lib.hid (C1.out.fresh hb); have P2 := Lib.hid (Cells.below P1.out hb); have LO : Hid (g < w1.heap.size ∧ r1 < w1.heap.size ∧ r2 < w1.heap.size ∧ r3 < w1.heap.size ∧ w1.heap.size ≤ w2.heap.size) := ⟨C1.out.box.lt, C1.out.s.lt, C1.out.m.lt, C1.out.o.lt, hb.size⟩; have HO := Lib.hid hO; have HP := Lib.hid hP; have HYP := Lib.hid hyp; have HYA := Lib.hid hya; (try unfold nv); (try unfold mxv); (try dsimp only); clear hO hP hyp hya hyn hyo hap hb k0 k1 o0 o1 o2 HBD) | fail)
          obtain ⟨lo, hlo⟩ : ∃ x, x = w1.heap.size := ⟨_, rfl⟩
          rw [← hlo] at LO HO
          clear hlo C1 P1
          have A8 : Below w2.heap.size w2 ((w2.alloc (.cells #[.int .i64 (cap2 : Int), .slice Q2 n2 c2] 28)).alloc (.cells #[.int .i64 y.k, .int .i64 y.f, .int .i64 y.t, .int .i64 y.i, .slice y.A y.n y.c, .slice y.B y.m y.d] 39)) := ((Below.refl _ _).alloc (Nat.le_refl _) _).alloc (by simp) _
          have C3 := Lib.hid (C2.out.fresh A8)
          have P3 := Lib.hid (Cells.below P2.out A8)
          have X3 : Hid (NBox ((w2.alloc (.cells #[.int .i64 (cap2 : Int), .slice Q2 n2 c2] 28)).alloc (.cells #[.int .i64 y.k, .int .i64 y.f, .int .i64 y.t, .int .i64 y.i, .slice y.A y.n y.c, .slice y.B y.m y.d] 39)) w2.heap.size (cap2) Q2 n2 c2) := Cells.alloc (Cells.new _ _ _) _
          have Y3 : Hid (MBox ((w2.alloc (.cells #[.int .i64 (cap2 : Int), .slice Q2 n2 c2] 28)).alloc (.cells #[.int .i64 y.k, .int .i64 y.f, .int .i64 y.t, .int .i64 y.i, .slice y.A y.n y.c, .slice y.B y.m y.d] 39)) (w2.heap.size + 1) y) := by
            have := Cells.new (w2.alloc (.cells #[.int .i64 (cap2 : Int), .slice Q2 n2 c2] 28)) #[.int .i64 y.k, .int .i64 y.f, .int .i64 y.t, .int .i64 y.i, .slice y.A y.n y.c, .slice y.B y.m y.d] 39
            rw [World.size_alloc] at this
            exact this
          have N3 := Lib.hid (HO.out.below A8)
          have YA3 := Lib.hid (HYA.out.below A8)
          have LO3 : Hid (g < lo ∧ r1 < lo ∧ r2 < lo ∧ r3 < lo ∧ lo ≤ ((w2.alloc (.cells #[.int .i64 (cap2 : Int), .slice Q2 n2 c2] 28)).alloc (.cells #[.int .i64 y.k, .int .i64 y.f, .int .i64 y.t, .int .i64 y.i, .slice y.A y.n y.c, .slice y.B y.m y.d] 39)).heap.size) := ⟨LO.out.1, LO.out.2.1, LO.out.2.2.1, LO.out.2.2.2.1, Nat.le_trans LO.out.2.2.2.2 A8.size⟩
          obtain ⟨q, hq⟩ : ∃ x, x = w2.heap.size := ⟨_, rfl⟩
          rw [← hq] at X3 Y3
          rw [← hq]
          clear hq A8 C2 P2 HO HYA LO
          generalize ((w2.alloc (.cells #[.int .i64 (cap2 : Int), .slice Q2 n2 c2] 28)).alloc (.cells #[.int .i64 y.k, .int .i64 y.f, .int .i64 y.t, .int .i64 y.i, .slice y.A y.n y.c, .slice y.B y.m y.d] 39)) = w3 at *
          have hne : (er != 0) = true := by simpa using HER.out
          go_wp2_with fail
          go_roundw
          case rel => exact ⟨i + 1, _, n, c, l, _, _, _, _, _, by go_num, by omega, C3.out, HQ.out.next⟩
          case measure => simp [intOf]; omega
      have h3 := hd
      clear hd
      have d0 : (dd == 0) = false := by simpa using h0
      have d1 : (dd == 1) = false := by simpa using h1
      have d3 : (dd == 3) = false := by simpa using h3
      have A1 : Below wr.heap.size wr (wr.alloc (.cells #[.int .i64 dd, .int .i64 ii, .slice L m e] 35)) := (Below.refl _ _).alloc (Nat.le_refl _) _
      have C1 := Lib.hid (CR.out.fresh A1)
      have P1 : Hid (OBox (wr.alloc (.cells #[.int .i64 dd, .int .i64 ii, .slice L m e] 35)) wr.heap.size ⟨dd, ii, L, m, e, ls⟩) := Cells.new _ _ _
      go_upto_region 14 with fail
      obtain ⟨p, hp⟩ : ∃ x, x = wr.heap.size := ⟨_, rfl⟩
      rw [← hp] at P1
      rw [← hp]
      clear hp A1 c0 c1 c2 CR
      generalize (wr.alloc (.cells #[.int .i64 dd, .int .i64 ii, .slice L m e] 35)) = w1 at *
      obtain ⟨k0, k1⟩ := NBox.cells C1.out.box
      obtain ⟨o0, o1, o2⟩ := OBox.cells P1.out
      (try dsimp only at o0 o1 o2)
      go_upto_region 16 with fail
      clear k0 k1 o0 o1 o2
      rcases op_other cap (l.map Mx.p) h0 h1 h3 ii (ls.map Mx.p) with ⟨pl, kk, hR, hs1, hs2, hs3⟩ | ⟨cap2, pl, p2, er, kk, hR, her⟩
      · have HR := Lib.hid hR
        have HQ2 : Hid (Cq pl a b d S O cap (i + 1)) := HQ.out.with (HQ.out.inv.less hs1 hs2) (Nat.le_trans hs3 HQ.out.len)
        clear hR hs1 hs2 hs3
        obtain ⟨k0, k1⟩ := NBox.cells C1.out.box
        obtain ⟨o0, o1, o2⟩ := OBox.cells (x := ⟨dd, ii, L, m, e, ls⟩) P1.out
        (try dsimp only at o0 o1 o2)
        have HBD := Lib.hid (body_any (cap := cap) (C1.out.net HN5.out) HN5.out (by omega) (o := ⟨dd, ii, L, m, e, ls⟩) (HOA.out.below C1.out.below))
        dsimp only at HBD
        rw [HR.out] at HBD
        unfold nv oxv at HBD
        dsimp only at HBD
        go_upto_region 18 with (first | (go_at_call 17; refine HBD.out.mono ?_; rintro en w2 ⟨Q2, n2, c2, l2, y, rfl, hO, hP, hyp, hya, hyn, hyo, hap, hb⟩; (try dsimp only at hP hyp); have C2 := Lib.hid (C1.out.fresh hb); have P2 := Lib.hid (Cells.below P1.out hb); have LO : Hid (g < w1.heap.size ∧ r1 < w1.heap.size ∧ r2 < w1.heap.size ∧ r3 < w1.heap.size ∧ w1.heap.size ≤ w2.heap.size) := ⟨C1.out.box.lt, C1.out.s.lt, C1.out.m.lt, C1.out.o.lt, hb.size⟩; have HO := Lib.hid hO; have HP := Lib.hid hP; have HYP := Lib.hid hyp; have HYA := Lib.hid hya; (try unfold nv); (try unfold mxv); (try dsimp only); clear hO hP hyp hya hyn hyo hap hb k0 k1 o0 o1 o2 HBD) | fail)
        obtain ⟨lo, hlo⟩ : ∃ x, x = w1.heap.size := ⟨_, rfl⟩
        rw [← hlo] at LO HO
        clear hlo C1 P1
        have A8 : Below w2.heap.size w2 ((w2.alloc (.cells #[.int .i64 (cap : Int), .slice Q2 n2 c2] 28)).alloc (.cells #[.int .i64 y.k, .int .i64 y.f, .int .i64 y.t, .int .i64 y.i, .slice y.A y.n y.c, .slice y.B y.m y.d] 39)) := ((Below.refl _ _).alloc (Nat.le_refl _) _).alloc (by simp) _
        have C3 := Lib.hid (C2.out.fresh A8)
        have P3 := Lib.hid (Cells.below P2.out A8)
        have X3 : Hid (NBox ((w2.alloc (.cells #[.int .i64 (cap : Int), .slice Q2 n2 c2] 28)).alloc (.cells #[.int .i64 y.k, .int .i64 y.f, .int .i64 y.t, .int .i64 y.i, .slice y.A y.n y.c, .slice y.B y.m y.d] 39)) w2.heap.size (cap) Q2 n2 c2) := Cells.alloc (Cells.new _ _ _) _
        have Y3 : Hid (MBox ((w2.alloc (.cells #[.int .i64 (cap : Int), .slice Q2 n2 c2] 28)).alloc (.cells #[.int .i64 y.k, .int .i64 y.f, .int .i64 y.t, .int .i64 y.i, .slice y.A y.n y.c, .slice y.B y.m y.d] 39)) (w2.heap.size + 1) y) := by
          have := Cells.new (w2.alloc (.cells #[.int .i64 (cap : Int), .slice Q2 n2 c2] 28)) #[.int .i64 y.k, .int .i64 y.f, .int .i64 y.t, .int .i64 y.i, .slice y.A y.n y.c, .slice y.B y.m y.d] 39
          rw [World.size_alloc] at this
          exact this
        have N3 := Lib.hid (HO.out.below A8)
        have YA3 := Lib.hid (HYA.out.below A8)
        have LO3 : Hid (g < lo ∧ r1 < lo ∧ r2 < lo ∧ r3 < lo ∧ lo ≤ ((w2.alloc (.cells #[.int .i64 (cap : Int), .slice Q2 n2 c2] 28)).alloc (.cells #[.int .i64 y.k, .int .i64 y.f, .int .i64 y.t, .int .i64 y.i, .slice y.A y.n y.c, .slice y.B y.m y.d] 39)).heap.size) := ⟨LO.out.1, LO.out.2.1, LO.out.2.2.1, LO.out.2.2.2.1, Nat.le_trans LO.out.2.2.2.2 A8.size⟩
        obtain ⟨q, hq⟩ : ∃ x, x = w2.heap.size := ⟨_, rfl⟩
        rw [← hq] at X3 Y3
        rw [← hq]
        clear hq A8 C2 P2 HO HYA LO
        generalize ((w2.alloc (.cells #[.int .i64 (cap : Int), .slice Q2 n2 c2] 28)).alloc (.cells #[.int .i64 y.k, .int .i64 y.f, .int .i64 y.t, .int .i64 y.i, .slice y.A y.n y.c, .slice y.B y.m y.d] 39)) = w3 at *
        have hn2 : n2 ≤ cap := by rw [← N3.out.len, ← List.length_map (f := Mx.p), HP.out]; exact HQ2.out.len
        have hgt : decide (cap < n2) = false := decide_eq_false (by omega)
        obtain ⟨x0, x1⟩ := NBox.cells X3.out
        obtain ⟨o0, o1, o2⟩ := OBox.cells (x := ⟨dd, ii, L, m, e, ls⟩) P3.out
        (try dsimp only at o0 o1 o2)
        obtain ⟨k0, k1⟩ := NBox.cells C3.out.box
        have f0 := Cells.frozen C3.out.box 0
        have f1 := Cells.frozen C3.out.box 1
        have CE := Lib.hid (C3.out.give LO3.out N3.out)
        rw [← HP.out] at HQ2
        go_wp2_with fail
        go_roundw
        case rel => exact ⟨i + 1, Q2, n2, c2, l2, _, _, _, _, _, by go_num, by omega, CE.out, HQ2.out⟩
        case measure => simp [intOf]; omega
      · have HR := Lib.hid hR
        have HER := Lib.hid her
        clear hR her
        obtain ⟨k0, k1⟩ := NBox.cells C1.out.box
        obtain ⟨o0, o1, o2⟩ := OBox.cells (x := ⟨dd, ii, L, m, e, ls⟩) P1.out
        (try dsimp only at o0 o1 o2)
        have HBD := Lib.hid (body_any (cap := cap) (C1.out.net HN5.out) HN5.out (by omega) (o := ⟨dd, ii, L, m, e, ls⟩) (HOA.out.below C1.out.below))
        dsimp only at HBD
        rw [HR.out] at HBD
        unfold nv oxv at HBD
        dsimp only at HBD
        go_upto_region 18 with (first | (go_at_call 17; refine HBD.out.mono ?_; rintro en w2 ⟨Q2, n2, c2, l2, y, rfl, hO, hP, hyp, hya, hyn, hyo, hap, hb⟩; (try dsimp only at hP hyp); have C2 := Lib.hid (C1.out.fresh hb); have P2 := Lib.hid (Cells.below P1.out hb); have LO : Hid (g < w1.heap.size ∧ r1 < w1.heap.size ∧ r2 < w1.heap.size ∧ r3 < w1.heap.size ∧ w1.heap.size ≤ w2.heap.size) := ⟨C1.out.box.lt, C1.out.s.lt, C1.out.m.lt, C1.out.o.lt, hb.size⟩; have HO := Lib.hid hO; have HP := Lib.hid hP; have HYP := Lib.hid hyp; have HYA := Lib.hid hya; (try unfold nv); (try unfold mxv); (try dsimp only); clear hO hP hyp hya hyn hyo hap hb k0 k1 o0 o1 o2 HBD) | fail)
        obtain ⟨lo, hlo⟩ : ∃ x, x = w1.heap.size := ⟨_, rfl⟩
        rw [← hlo] at LO HO
        clear hlo C1 P1
        have A8 : Below w2.heap.size w2 ((w2.alloc (.cells #[.int .i64 (cap2 : Int), .slice Q2 n2 c2] 28)).alloc (.cells #[.int .i64 y.k, .int .i64 y.f, .int .i64 y.t, .int .i64 y.i, .slice y.A y.n y.c, .slice y.B y.m y.d] 39)) := ((Below.refl _ _).alloc (Nat.le_refl _) _).alloc (by simp) _
        have C3 := Lib.hid (C2.out.fresh A8)
        have P3 := Lib.hid (Cells.below P2.out A8)
        have X3 : Hid (NBox ((w2.alloc (.cells #[.int .i64 (cap2 : Int), .slice Q2 n2 c2] 28)).alloc (.cells #[.int .i64 y.k, .int .i64 y.f, .int .i64 y.t, .int .i64 y.i, .slice y.A y.n y.c, .slice y.B y.m y.d] 39)) w2.heap.size (cap2) Q2 n2 c2) := Cells.alloc (Cells.new _ _ _) _
        have Y3 : Hid (MBox ((w2.alloc (.cells #[.int .i64 (cap2 : Int), .slice Q2 n2 c2] 28)).alloc (.cells #[.int .i64 y.k, .int .i64 y.f, .int .i64 y.t, .int .i64 y.i, .slice y.A y.n y.c, .slice y.B y.m y.d] 39)) (w2.heap.size + 1) y) := by
          have := Cells.new (w2.alloc (.cells #[.int .i64 (cap2 : Int), .slice Q2 n2 c2] 28)) #[.int .i64 y.k, .int .i64 y.f, .int .i64 y.t, .int .i64 y.i, .slice y.A y.n y.c, .slice y.B y.m y.d] 39
          rw [World.size_alloc] at this
          exact this
        have N3 := Lib.hid (HO.out.below A8)
        have YA3 := Lib.hid (HYA.out.below A8)
        have LO3 : Hid (g < lo ∧ r1 < lo ∧ r2 < lo ∧ r3 < lo ∧ lo ≤ ((w2.alloc (.cells #[.int .i64 (cap2 : Int), .slice Q2 n2 c2] 28)).alloc (.cells #[.int .i64 y.k, .int .i64 y.f, .int .i64 y.t, .int .i64 y.i, .slice y.A y.n y.c, .slice y.B y.m y.d] 39)).heap.size) := ⟨LO.out.1, LO.out.2.1, LO.out.2.2.1, LO.out.2.2.2.1, Nat.le_trans LO.out.2.2.2.2 A8.size⟩
        obtain ⟨q, hq⟩ : ∃ x, x = w2.heap.size := ⟨_, rfl⟩
        rw [← hq] at X3 Y3
        rw [← hq]
        clear hq A8 C2 P2 HO HYA LO
        generalize ((w2.alloc (.cells #[.int .i64 (cap2 : Int), .slice Q2 n2 c2] 28)).alloc (.cells #[.int .i64 y.k, .int .i64 y.f, .int .i64 y.t, .int .i64 y.i, .slice y.A y.n y.c, .slice y.B y.m y.d] 39)) = w3 at *
        have hne : (er != 0) = true := by simpa using HER.out
        go_wp2_with fail
        go_roundw
        case rel => exact ⟨i + 1, _, n, c, l, _, _, _, _, _, by go_num, by omega, C3.out, HQ.out.next⟩
        case measure => simp [intOf]; omega
    · have hiN : i = N := by omega
      subst hiN
      obtain ⟨w0, hw0⟩ : ∃ x, x = wr := ⟨_, rfl⟩
      subst hw0
      have hmm := @run_makeMap Try.prog
      have A1 : Below w0.heap.size w0 (w0.alloc (.map #[] 0)) := (Below.refl _ w0).alloc (Nat.le_refl _) _
      have B1 := Lib.hid A1
      have M1 : Hid (MI (w0.alloc (.map #[] 0)) w0.heap.size []) := FMap.made mkS okS btI w0
      obtain ⟨r4, hr4⟩ : ∃ x, x = w0.heap.size := ⟨_, rfl⟩
      have HR4 : Hid (r4 = w0.heap.size) := hr4
      go_upto_region 34 with fail
      clear hmm
      rw [← hr4] at M1
      rw [← hr4]
      clear hr4 A1
      generalize w0.alloc (.map #[] 0) = w1 at *
      obtain ⟨k0, k1⟩ := NBox.cells (CR.out.fresh B1.out).box
      go_upto_region 35 with fail
      clear k0 k1
      have QL1 : Hid (Ct [] (cnt ((l.map Mx.p).take 0))) := ct_same Ct.nil fun s => by simp [cnt]
      go_loopw [22, 144] (fun _ t wx => ∃ (k : Nat) (ksl : List (Kb × Int)), t = .int .i64 k ∧ k ≤ n ∧ Hid (Below w0.heap.size w0 wx) ∧ Hid (MI wx r4 ksl) ∧ Hid (Ct ksl (cnt ((l.map Mx.p).take k)))) (fun _ t _ => n - (intOf t).toNat)
      case atStart => exact ⟨0, [], rfl, by omega, B1, M1, QL1⟩
      case round =>
        clear B1 M1 QL1
        obtain ⟨k, ksl, rfl, hk, B4, M4, QL4⟩ := hrel
        obtain ⟨w4, hw4⟩ : ∃ x, x = wr := ⟨_, rfl⟩
        subst hw4
        by_cases hlt : k < n
        · have NT4 : Hid (NetAt w4 Q n c l) := (CR.out.fresh B4.out).net HN5.out
          obtain ⟨z, hz, hzm⟩ := NT4.out.get hlt
          obtain ⟨b2, q2, hQ, hb2, hcs⟩ := NT4.out.cells hz
          obtain ⟨m0, m1, m2, m3, m4, m5⟩ := hcs w4 (Below.refl _ _)
          have hzp : (l.map Mx.p)[k]? = some z.p := by rw [List.getElem?_map, hz]; rfl
          have HZO : Hid (okM z.p = true) := HQ.out.inv.ok _ (List.mem_of_getElem? hzp)
          have HZK : Hid (okS (keyP z.p)) := okS_key HZO.out hzm.fits
          have hk0 : (0 : Int) ≤ (k : Int) := by omega
          have hkn : (k : Int) < (n : Int) := by omega
          obtain ⟨v, hv⟩ : ∃ v : Nat, v = cnt ((l.map Mx.p).take k) (keyP z.p) := ⟨_, rfl⟩
          have HCV : Hid (cv ksl (keyP z.p) = (v : Int)) := by show _ = _; rw [hv]; exact QL4.out.cv _
          have hvb : v ≤ 600000 := by
            have h2 := cnt_le ((l.map Mx.p).take k) (keyP z.p)
            rw [List.length_take] at h2
            omega
          have QL6 : Hid (Ct (setB ksl (keyP z.p) ((v : Int) + 1)) (cnt ((l.map Mx.p).take (k + 1)))) := by
            have h1 := QL4.out.more (keyP z.p)
            rw [← hv] at h1
            refine ct_same h1 fun s => ?_
            rw [cnt_snoc hzp s]
            rfl
          clear hv hzp hz hcs hb2 NT4
          subst hQ
          have A5 : Below w4.heap.size w4 (w4.alloc (.cells #[.int .i64 z.k, .int .i64 z.f, .int .i64 z.t, .int .i64 z.i, .slice z.A z.n z.c, .slice z.B z.m z.d] 39)) := (Below.refl _ _).alloc (Nat.le_refl _) _
          have B5 := Lib.hid (B4.out.trans (A5.mono B4.out.size))
          have M5 := Lib.hid (M4.out.below A5)
          have Z5 : Hid (MBox (w4.alloc (.cells #[.int .i64 z.k, .int .i64 z.f, .int .i64 z.t, .int .i64 z.i, .slice z.A z.n z.c, .slice z.B z.m z.d] 39)) w4.heap.size z) := Cells.new _ _ _
          have ZA5 := Lib.hid (hzm.below A5)
          go_upto_region 37 with fail
          obtain ⟨u, hu⟩ : ∃ x, x = w4.heap.size := ⟨_, rfl⟩
          rw [← hu] at Z5
          rw [← hu]
          clear hu A5 m0 m1 m2 m3 m4 m5 hzm B4 M4
          generalize w4.alloc (.cells #[.int .i64 z.k, .int .i64 z.f, .int .i64 z.t, .int .i64 z.i, .slice z.A z.n z.c, .slice z.B z.m z.d] 39) = w5 at *
          obtain ⟨m0, m1, m2, m3, m4, m5⟩ := MBox.cells Z5.out
          go_wp2_with (first | (go_at_call 25; refine (key_any ZA5.out HZO.out).mono ?_; rintro en w6 ⟨rfl, hb⟩; have B6 := Lib.hid (B5.out.trans (hb.mono B5.out.size)); have M6 := Lib.hid (M5.out.below hb); clear hb; have hget := getI M6.out HZK.out; rw [HCV.out] at hget; obtain ⟨w7, hput, hL7, hV7, hz7⟩ := putI M6.out HZK.out ((v : Int) + 1); have M7 := Lib.hid hL7; have B7 := Lib.hid (B6.out.trans (hV7.up B6.out.size (by have := HR4.out; omega))); clear hL7 hV7 hz7) | fail)
          go_roundw
          case rel => exact ⟨k + 1, _, by go_num, by omega, B7, M7, QL6⟩
          case measure => simp [intOf]; omega
        · have hkk : k = n := by omega
          have HL : Hid (Ct ksl (cnt (l.map Mx.p))) := ct_same QL4.out fun s => by rw [List.take_of_length_le (by rw [List.length_map, HNL.out]; omega)]
          have BB := B4
          have MM := M4
          clear B4 M4 QL4 hkk
          go_upto_region 39 with fail
          obtain ⟨itb, hitb⟩ : ∃ x, x = w4.heap.size := ⟨_, rfl⟩
          obtain ⟨wr0, hrange, hR0, hB0⟩ := GM.run_range (t := 48) (P := Try.prog) Try.underlying48 (CR.out.fresh BB.out).o
          rw [← hitb] at hrange hR0
          have HIT : Hid (w0.heap.size < itb ∧ r4 < itb) := by
            have h1 := BB.out.size
            have h2 := MM.out.lt
            have h3 := HR4.out
            show _ ∧ _
            omega
          have BR := Lib.hid (BB.out.trans (hB0.mono BB.out.size))
          have MR := Lib.hid (MM.out.below hB0)
          have RR := Lib.hid hR0
          clear hR0 hB0 hitb BB MM
          go_upto_region 40 with fail
          clear hrange
          go_loopw [23, 24] (fun _ _ wx => ∃ (rest : List (Kb × Int)), Hid (Below w0.heap.size w0 wx ∧ MI wx r4 ksl ∧ Rng mkS okS btI wx r3 itb d rest)) (fun _ _ wx => wx.rangeLeft r3 itb)
          case atStart => exact ⟨d, BR.out, MR.out, RR.out⟩
          case round =>
            clear BR MR RR
            obtain ⟨rest, hH⟩ := hrel
            obtain ⟨wx, hwx⟩ : ∃ W, W = wr := ⟨_, rfl⟩
            subst hwx
            have BX := Lib.hid hH.out.1
            have MX := Lib.hid hH.out.2.1
            have RX := Lib.hid hH.out.2.2
            clear hH
            have HML : Hid (wx.rangeLeft r3 itb = rest.length) := rng_left RX.out
            rcases GM.run_next (P := Try.prog) kyS RX.out 0 with ⟨hnil, hnext0⟩ | ⟨kv, rest', w7, hkr, hlt7, hcov, hsub, hnext0, hR7, hV7, hz7, hentry⟩
            · have hnext : ∀ ty, (Instr.next (.pointer (some ⟨itb, 0, none⟩)) false ty).run Try.prog wx = .ok (.tuple #[.bool false]) wx := fun _ => hnext0
              clear hnil hnext0
              have BB := BX
              have MM := MX
              clear HML HIT RX
              obtain ⟨it0, hit0⟩ : ∃ x, x = itb := ⟨_, rfl⟩
              subst hit0
              go_upto_region 44 with fail
              clear hnext
              obtain ⟨itb, hitb⟩ : ∃ x, x = wx.heap.size := ⟨_, rfl⟩
              obtain ⟨wr0, hrange, hR0, hB0⟩ := GM.run_range (t := 48) (P := Try.prog) Try.underlying48 MM.out
              rw [← hitb] at hrange hR0
              have HIT : Hid (w0.heap.size < itb ∧ r4 < itb) := by
                have h1 := BB.out.size
                have h2 := MM.out.lt
                have h3 := HR4.out
                show _ ∧ _
                omega
              have BR := Lib.hid (BB.out.trans (hB0.mono BB.out.size))
              have MR := Lib.hid (MM.out.below hB0)
              have RR := Lib.hid hR0
              clear hR0 hB0 hitb BB MM
              go_upto_region 45 with fail
              clear hrange
              go_loopw [25] (fun _ wx => ∃ (rest : List (Kb × Int)), Hid (Below w0.heap.size w0 wx ∧ MI wx r4 ksl ∧ Rng mkS okS btI wx r4 itb ksl rest)) (fun _ wx => wx.rangeLeft r4 itb)
              case atStart => exact ⟨ksl, BR.out, MR.out, RR.out⟩
              case round =>
                clear BR MR RR
                obtain ⟨rest, hH⟩ := hrel
                obtain ⟨wx, hwx⟩ : ∃ W, W = wr := ⟨_, rfl⟩
                subst hwx
                have BX := Lib.hid hH.out.1
                have MX := Lib.hid hH.out.2.1
                have RX := Lib.hid hH.out.2.2
                clear hH
                have HML : Hid (wx.rangeLeft r4 itb = rest.length) := rng_left RX.out
                rcases GM.run_next (P := Try.prog) kyS RX.out 0 with ⟨hnil, hnext0⟩ | ⟨kv, rest', w7, hkr, hlt7, hcov, hsub, hnext0, hR7, hV7, hz7, hentry⟩
                · have hnext : ∀ ty, (Instr.next (.pointer (some ⟨itb, 0, none⟩)) false ty).run Try.prog wx = .ok (.tuple #[.bool false]) wx := fun _ => hnext0
                  clear hnil hnext0
                  go_wp2_with fail
                  go_ret
                  exact ⟨rfl, CR.out.below.trans (BX.out.mono CR.out.below.size)⟩
                · obtain ⟨s, kz⟩ := kv
                  have hkd : (s, kz) ∈ ksl := RX.out.sub _ hkr
                  have hks : okS s := RX.out.ok _ hkd
                  have hnext : ∀ ty, (Instr.next (.pointer (some ⟨itb, 0, none⟩)) false ty).run Try.prog wx = .ok (.tuple #[.bool true, .string (str s), .int .i64 kz]) w7 := fun _ => hnext0
                  replace hentry : (Instr.entry (.pointer (some ⟨itb, 0, none⟩))).run Try.prog w7 = .ok (.tuple #[.string (str s), .int .i64 kz]) w7 := hentry
                  have B7 := Lib.hid (BX.out.trans (hV7.up BX.out.size (by have := HIT.out; omega)))
                  have M7 := Lib.hid (MX.out.mov hV7 (by simp only [List.mem_singleton]; have := HIT.out; omega))
                  have R7 := Lib.hid hR7
                  have HLT := Lib.hid hlt7
                  have HM7 : Hid (w7.rangeLeft r4 itb = rest'.length) := rng_left R7.out
                  have C7 := Lib.hid (CR.out.fresh B7.out)
                  have hgs := getI C7.out.s hks
                  obtain ⟨sN, hsN⟩ : ∃ v : Nat, v = S s := ⟨_, rfl⟩
                  rw [HQ.out.cs.cv s, ← hsN] at hgs
                  have hsb : sN ≤ 600000 := by rw [hsN]; exact Nat.le_trans (HQ.out.bs s) (by omega)
                  have hsp : 0 < sN := by rw [hsN]; exact HQ.out.inv.pos s (by have := (HL.out.mem hkd).2; dsimp only at this; omega)
                  have e1 : ((sN : Int) == 0) = false := by simp; omega
                  clear hnext0 hkr hlt7 hcov hsub hR7 hV7 hz7 hkd hks hsN
                  go_wp2_with fail
                  go_roundw
                  case rel => exact ⟨rest', B7.out, M7.out, R7.out⟩
                  case measure => rw [HM7.out, HML.out]; exact HLT.out
            · obtain ⟨s, kz⟩ := kv
              have hkd : (s, kz) ∈ d := RX.out.sub _ hkr
              have hks : okS s := RX.out.ok _ hkd
              have hnext : ∀ ty, (Instr.next (.pointer (some ⟨itb, 0, none⟩)) false ty).run Try.prog wx = .ok (.tuple #[.bool true, .string (str s), .int .i64 kz]) w7 := fun _ => hnext0
              replace hentry : (Instr.entry (.pointer (some ⟨itb, 0, none⟩))).run Try.prog w7 = .ok (.tuple #[.string (str s), .int .i64 kz]) w7 := hentry
              have B7 := Lib.hid (BX.out.trans (hV7.up BX.out.size (by have := HIT.out; omega)))
              have M7 := Lib.hid (MX.out.mov hV7 (by simp only [List.mem_singleton]; have := HIT.out; omega))
              have R7 := Lib.hid hR7
              have HLT := Lib.hid hlt7
              have HM7 : Hid (w7.rangeLeft r3 itb = rest'.length) := rng_left R7.out
              have C7 := Lib.hid (CR.out.fresh B7.out)
              have hgs := getI C7.out.s hks
              obtain ⟨sN, hsN⟩ : ∃ v : Nat, v = S s := ⟨_, rfl⟩
              rw [HQ.out.cs.cv s, ← hsN] at hgs
              have hsb : sN ≤ 600000 := by rw [hsN]; exact Nat.le_trans (HQ.out.bs s) (by omega)
              have hgd := getD_ C7.out.m hks
              have hgl := getI M7.out hks
              obtain ⟨lN, hlN⟩ : ∃ v : Nat, v = cnt (l.map Mx.p) s := ⟨_, rfl⟩
              rw [HL.out.cv s, ← hlN] at hgl
              have hlb : lN ≤ 5000 := by rw [hlN]; exact Nat.le_trans (cnt_le _ _) (by rw [List.length_map, HNL.out]; omega)
              have hom := HQ.out.co.mem hkd
              dsimp only at hom
              obtain ⟨oN, hoN⟩ : ∃ v : Nat, v = O s := ⟨_, rfl⟩
              have hob : oN ≤ 600000 := by rw [hoN]; exact Nat.le_trans (HQ.out.bo s) (by omega)
              rw [← hoN] at hom
              obtain ⟨rfl, hop⟩ := hom
              have hsp : 0 < sN := by rw [hsN]; exact HQ.out.inv.pos s (by omega)
              have hle : dv b s = false → oN + lN ≤ sN := fun h => by rw [hsN, hoN, hlN]; exact HQ.out.inv.le s h
              have e1 : ((sN : Int) == 0) = false := by simp; omega
              clear hnext0 hkr hlt7 hcov hsub hR7 hV7 hz7 hkd hks hsN hlN hoN hop
              obtain ⟨D0, hD0⟩ : ∃ x, x = dv b s := ⟨_, rfl⟩
              rw [← hD0] at hgd hle
              clear hD0
              rcases D0
              · have hle := hle rfl
                have e2 : decide (sN < oN + lN) = false := decide_eq_false (by omega)
                have e3 : decide ((sN : Int) < (oN : Int) + (lN : Int)) = false := decide_eq_false (by omega)
                go_wp2_with fail
                go_roundw
                case rel => exact ⟨rest', B7.out, M7.out, R7.out⟩
                case measure => rw [HM7.out, HML.out]; exact HLT.out
              · clear hle
                go_wp2_with fail
                go_roundw
                case rel => exact ⟨rest', B7.out, M7.out, R7.out⟩
                case measure => rw [HM7.out, HML.out]; exact HLT.out
end Net
end Go.Proofs.Ytamahknnppjegaa
