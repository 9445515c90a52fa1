/-
  THE STATEMENT SegBack WITHIN A BOUND (SegBackUpto): what was written is found; of what was cut off those frames that are whole; the arguments stay as they were.
-/
import Derived.Test.YtpdmlimjhpgdiaaSegPre
import Derived.Test.YtpdmlimjhpgdiaaFrameU
import Derived.Lib.AppendZeros
namespace Go.Proofs.Ytpdmlimjhpgdiaa
open Go.ChangeShapes Go.WideShapes Go.ChangeAt Go.RowKit Mem
namespace Seg
open Wire

theorem weigh_mem {r : Rc} : ∀ {l : List Rc}, r ∈ l → r.data.length + 20 ≤ weigh l
  | x :: l, h => by
    rw [weigh_cons]
    rcases List.mem_cons.1 h with rfl | h
    · omega
    · have := weigh_mem h
      omega
/-- What the records weigh is small, and so are the frames. -/
theorem frames_small {l : List Rc} (hg : goods l) (h : weigh l ≤ 3145728) : (frames l).length ≤ 15728640 := by
  refine Nat.le_trans (frames_weigh l hg fun r hr => ?_) (by omega)
  have : r.data.length + 20 ≤ weigh l := by
    exact weigh_mem hr
  omega
theorem segB_cases (h : Hdr) (l : List Rc) : (nn (hnums h) ∧ (∀ r ∈ l, check r = 0) ∧ segB h l = (frame (headX h) ++ frames l, 0)) ∨ segB h l = ([], 1) ∨ segB h l = ([], 2) := by
  by_cases hn : nn (hnums h)
  · rcases hr : recsB l with ⟨b, e⟩
    rcases recsB_bad l b e hr with ⟨rfl, hc⟩ | ⟨he, rfl, i, r, -, hc, -⟩
    · refine .inl ⟨hn, hc, ?_⟩
      unfold segB
      rw [if_pos hn, recsB_ok l hc]
      simp
    · right
      have hs : segB h l = ([], e) := by unfold segB; rw [if_pos hn, hr]; simp [he]
      rcases check_le r with h1 | h1 | h1
      · omega
      · left; rw [hs, ← hc, h1]
      · right; rw [hs, ← hc, h1]
  · right; left
    unfold segB
    rw [if_neg hn]

set_option maxRecDepth 100000 in
set_option maxHeartbeats 3200000 in
theorem segBack_out {h : Hdr} {A : Option Addr} {n c : Nat} {xs : List Rv} {w : World} (cut zeros : Int) (hr : RowR w A n c xs) (hf : fits (hnums h)) (hg : goods (xs.map Rv.r)) (hw : weigh (xs.map Rv.r) ≤ 3145728)
    (hout : 100000 < weigh (xs.map Rv.r) ∨ segB h (xs.map Rv.r) = ([], 1) ∨ segB h (xs.map Rv.r) = ([], 2)) :
    Calls Try.prog 3 #[hdV h, .slice A n c, .int .i64 cut, .int .i64 zeros] w fun e w' => e = .returned (.bool true) ∧ Below w.heap.size w w' := by
  have HR := Lib.hid hr
  have hbk := bulk_weigh (l := xs.map Rv.r) (by omega)
  have HB := fun w (h : RowR w A n c xs) => Lib.hid (big_any (most := 100000) h)
  rw [hbk] at HB
  have HS := fun w (hr : RowR w A n c xs) => Lib.hid (seg_any hr hf hg (by have := frames_small hg hw; omega))
  have B1 := Lib.hid ((Below.refl _ w).alloc (Nat.le_refl _) (.cells #[.int .i64 h.host, .int .i64 h.epoch, .int .i64 h.seq] 23))
  have C1 : Hid (Cells (w.alloc (.cells #[.int .i64 h.host, .int .i64 h.epoch, .int .i64 h.seq] 23)) w.heap.size 23 #[.int .i64 h.host, .int .i64 h.epoch, .int .i64 h.seq]) := heap_alloc_new w _
  have hout := Lib.hid hout
  generalize weigh (xs.map Rv.r) = S at *
  generalize segB h (xs.map Rv.r) = sg at *
  unfold hdV at *
  clear hr hf hg hbk hw
  go_enter Try.func3, Try.ntmps3
  go_wp2_with fail
  generalize w.alloc (.cells #[.int .i64 h.host, .int .i64 h.epoch, .int .i64 h.seq] 23) = w1 at *
  refine (live_any w1).mono ?_
  rintro e w2 ⟨rfl, hb⟩
  have B2 := Lib.hid (B1.out.trans (hb.mono B1.out.size))
  have C2 := Lib.hid (Cells.below C1.out hb)
  clear hb B1 C1
  go_wp2_with fail
  refine (HB w2 (HR.out.below B2.out)).out.mono ?_
  rintro e w3 ⟨rfl, hb⟩
  have B3 := Lib.hid (B2.out.trans (hb.mono B2.out.size))
  have C3 := Lib.hid (Cells.below C2.out hb)
  clear hb B2 C2 HB
  by_cases hbg : 100000 < S
  · have hb2 : decide ((100000 : Int) < (S : Int)) = true := by simp; omega
    clear hbg
    go_wp2_with fail
    go_ret
    exact ⟨rfl, B3.out⟩
  · have hb2 : decide ((100000 : Int) < (S : Int)) = false := by simp; omega
    have h0 := C3.out.cell 0
    have h1 := C3.out.cell 1
    have h2 := C3.out.cell 2
    simp at h0 h1 h2
    have hsg : sg = ([], 1) ∨ sg = ([], 2) := by rcases hout.out with h | h; exact absurd h hbg; exact h
    rcases hsg with rfl | rfl
    all_goals
      clear hout hbg
      go_wp2_with fail
      refine (HS w3 (HR.out.below B3.out)).out.mono ?_
      rintro e w4 ⟨X, k, d, rfl, hX, hb⟩
      obtain ⟨-, rfl⟩ := gave_row (w := w) hX (by simp)
      have B4 := Lib.hid (B3.out.trans (hb.mono B3.out.size))
      clear hX hb
      simp only [List.length_nil] at *
      go_wp2_with fail
      go_ret
      exact ⟨rfl, B4.out⟩

set_option maxRecDepth 100000 in
set_option maxHeartbeats 6400000 in
theorem segBack_good {hd : Hdr} {A : Option Addr} {n c : Nat} {xs : List Rv} {w : World} (cut zeros : Int) (hr : RowR w A n c xs) (hf : fits (hnums hd)) (hg : goods (xs.map Rv.r)) (hnn : nn (hnums hd)) (hck : ∀ r ∈ xs.map Rv.r, check r = 0) (hw : weigh (xs.map Rv.r) ≤ 100000) :
    Calls Try.prog 3 #[hdV hd, .slice A n c, .int .i64 cut, .int .i64 zeros] w fun e w' => e = .returned (.bool true) ∧ Below w.heap.size w w' := by
  have HR := Lib.hid hr
  have hbk := bulk_weigh (l := xs.map Rv.r) (by omega)
  have HB := fun w (h : RowR w A n c xs) => Lib.hid (big_any (most := 100000) h)
  rw [hbk] at HB
  have hfr := frames_weigh (xs.map Rv.r) hg (fun r hr => by have := weigh_mem hr; omega)
  have HS := fun w (hr : RowR w A n c xs) => Lib.hid (seg_any hr hf hg (by omega))
  have hsg : segB hd (xs.map Rv.r) = (frame (headX hd) ++ frames (xs.map Rv.r), 0) := by
    unfold segB
    rw [if_pos hnn, recsB_ok _ hck]
    simp
  rw [hsg] at HS
  have hgd : ∀ r ∈ xs.map Rv.r, good r := fun r hr => ⟨hck r hr, hg r hr⟩
  have hhl : (frame (headX hd)).length ≤ 100 := by
    have h1 := headX_len hd hf hnn
    have h2 := frame_len (headX hd)
    have h3 := enc_len_le (n := (headX hd).length) (by omega)
    omega
  have hh0 : 5 ≤ (frame (headX hd)).length := frame_ge _
  have hln : (xs.map Rv.r).length = n := by rw [List.length_map, hr.len]
  obtain ⟨zr, Z, z1, z2, z3, z4, z5, z6⟩ := cut_hundred zeros
  obtain ⟨cr, C, c1, c2, c3, c4, c5, c6⟩ := cut_at cut (frame (headX hd) ++ frames (xs.map Rv.r)).length (by simp; omega)
  have HF1 := fun X m d w (hr : Row cb w X m d (frame (headX hd) ++ frames (xs.map Rv.r) ++ List.replicate Z 0#8)) (hm : m ≤ 1000000) => Lib.hid (scan_to (l := xs.map Rv.r) (b := frames (xs.map Rv.r) ++ List.replicate Z 0#8) (by rw [← List.append_assoc]; exact hr) hm hf hnn (scans_frames _ (one_zeros Z) _ hgd))
  have HF2 := fun X d w (hr : Row cb w X C d ((frame (headX hd) ++ frames (xs.map Rv.r)).take C)) (hm : C ≤ 1000000) => Lib.hid (scan_cut (l := xs.map Rv.r) hr hm hf hnn hgd)
  have hkl := kept_le (frame (headX hd)).length (xs.map Rv.r) C
  have hki := fun k (hk : k < (xs.map Rv.r).length) => Lib.hid (kept_iff (u0 := (frame (headX hd)).length) (C := C) hk)
  have hstart : Hid (∀ (h0 : 0 < n), (starts (frame (headX hd)).length (sized (xs.map Rv.r)))[0]? = some (((frame (headX hd)).length : Nat) : Int)) := by
    intro h0
    rw [starts_get _ _ 0 (by omega)]
    simp [frames]
  have HNe := fun w => neq_same_hdr hd w
  have HEnd := fun LA LC AA AC k w hr hk => Lib.hid (end_any (h := hd) (l := xs.map Rv.r) (u0 := (frame (headX hd)).length) (LA := LA) (LC := LC) (AA := AA) (AC := AC) (k := k) (w := w) hr hk)
  have B1 := Lib.hid ((Below.refl _ w).alloc (Nat.le_refl _) (.cells #[.int .i64 hd.host, .int .i64 hd.epoch, .int .i64 hd.seq] 23))
  have C1 : Hid (Cells (w.alloc (.cells #[.int .i64 hd.host, .int .i64 hd.epoch, .int .i64 hd.seq] 23)) w.heap.size 23 #[.int .i64 hd.host, .int .i64 hd.epoch, .int .i64 hd.seq]) := heap_alloc_new w _
  have HLEN : Hid ((frame (headX hd) ++ frames (xs.map Rv.r)).length = (frame (headX hd)).length + (frames (xs.map Rv.r)).length) := List.length_append
  have hbl : (frame (headX hd) ++ frames (xs.map Rv.r)).length ≤ 600000 := by rw [List.length_append]; omega
  have hb0 : 5 ≤ (frame (headX hd) ++ frames (xs.map Rv.r)).length := by rw [List.length_append]; omega
  unfold FndL at HF1
  unfold FndC at HF2
  unfold hdV at *
  rw [hln] at HF1 HEnd hki hkl
  rw [← HLEN.out] at HEnd
  clear hr hf hg hbk hfr hsg hnn hck
  generalize hL : xs.map Rv.r = l at *
  have HL := Lib.hid hL
  clear hL
  generalize hBS : frame (headX hd) ++ frames l = bs at *
  generalize (frame (headX hd)).length = u0 at *
  have HBS := Lib.hid hBS
  clear hBS
  generalize hS : weigh l = S at *
  have hb2 : decide ((100000 : Int) < (S : Int)) = false := by simp; omega
  clear hS hw
  generalize hK : kept u0 l C = K at *
  have HK := Lib.hid hK
  clear hK
  go_enter Try.func3, Try.ntmps3
  go_wp2_with fail
  generalize w.alloc (.cells #[.int .i64 hd.host, .int .i64 hd.epoch, .int .i64 hd.seq] 23) = w1 at *
  refine (live_any w1).mono ?_
  rintro e w2 ⟨rfl, hb⟩
  have B2 := Lib.hid (B1.out.trans (hb.mono B1.out.size))
  have C2 := Lib.hid (Cells.below C1.out hb)
  clear hb B1 C1
  go_wp2_with fail
  refine (HB w2 (HR.out.below B2.out)).out.mono ?_
  rintro e w3 ⟨rfl, hb⟩
  have B3 := Lib.hid (B2.out.trans (hb.mono B2.out.size))
  have C3 := Lib.hid (Cells.below C2.out hb)
  clear hb B2 C2 HB
  have h0 := C3.out.cell 0
  have h1 := C3.out.cell 1
  have h2 := C3.out.cell 2
  simp at h0 h1 h2
  go_wp2_with fail
  clear h0 h1 h2 hb2
  refine (HS w3 (HR.out.below B3.out)).out.mono ?_
  rintro e w4 ⟨X, k, d, rfl, hX, hb⟩
  obtain ⟨hrow, rfl⟩ := gave_row (w := w) hX (by omega)
  have RX := Lib.hid hrow
  have B4 := Lib.hid (B3.out.trans (hb.mono B3.out.size))
  have C4 := Lib.hid (Cells.below C3.out hb)
  have hm0 : ((bs.length : Int) == 0) = false := beq_eq_false_iff_ne.2 (by omega)
  clear hX hb hrow B3 C3 HS
  go_wp2_with (first
    | (at_builtin
       refine wpList_append_row cb_one Try.underlying27 info_byte rfl rfl (.const (.slice none 0 0)) (.tmp 47) rfl rfl w4.heap.size (.slice none 0 0) 0 [] rfl (Owns.nil _ _ _ _) X bs.length d bs rfl RX.out (by omega) (by omega) (Nat.le_refl _) ?_
       intro A5 c5 w5 hown5 hb5
       have O5 := Lib.hid (show Owns cb 5 w4.heap.size w5 (.slice A5 bs.length c5) bs.length bs by simpa using hown5)
       have B5 := Lib.hid hb5
       clear hown5 hb5)
    | (at_builtin
       obtain ⟨s6, w6, hrun, hown6, hb6⟩ := run_append_zeros w5 w4.heap.size A5 bs.length c5 bs O5.out (by omega) Z (by omega) B5.out.size 27
       obtain ⟨A6, d6, rfl⟩ := hown6.slice
       refine Lib.wpList_append_run _ rfl (.tmp 48) (.tmp 49) _ _ rfl _ _ rfl rfl _ _ hrun ?_
       have O6 := Lib.hid hown6
       have B6 := Lib.hid (B5.out.trans hb6)
       clear hown6 hb6 hrun O5 B5))
  have hz : (bs ++ List.replicate Z 0#8).length = bs.length + Z := by simp
  have hrow := (gave_row (w := w) O6.out (by omega)).1
  rw [hz] at hrow
  have R6 := Lib.hid hrow
  have BB7 := Lib.hid (B4.out.trans (B6.out.mono B4.out.size))
  have C6 := Lib.hid (Cells.below C4.out B6.out)
  have RX6 := Lib.hid (RX.out.below B6.out)
  clear hz hrow O6 B6 B4 C4 RX
  refine (HF1 A6 (bs.length + Z) d6 w6 R6.out (by omega)).out.mono ?_
  rintro e w7 ⟨ys, LA, LC, AA, AC, rfl, f1, f2, f3, hb7⟩
  rw [← HLEN.out]
  have b78 : Below w7.heap.size w7 (w7.alloc (.cells #[.bool true, .int .i64 hd.host, .int .i64 hd.epoch, .int .i64 hd.seq, .slice LA n LC, .slice AA n AC, .int .i64 (bs.length : Int)] 33)) := (Below.refl _ w7).alloc (Nat.le_refl _) _
  have D8 : Hid (Cells (w7.alloc (.cells #[.bool true, .int .i64 hd.host, .int .i64 hd.epoch, .int .i64 hd.seq, .slice LA n LC, .slice AA n AC, .int .i64 (bs.length : Int)] 33)) w7.heap.size 33 #[.bool true, .int .i64 hd.host, .int .i64 hd.epoch, .int .i64 hd.seq, .slice LA n LC, .slice AA n AC, .int .i64 (bs.length : Int)]) := heap_alloc_new w7 _
  have RY := Lib.hid (f1.below b78)
  have RA := Lib.hid (f2.below b78)
  have HY := Lib.hid (f3.trans HL.out.symm)
  have BB8 := Lib.hid ((BB7.out.trans (hb7.mono BB7.out.size)).trans (b78.mono (Nat.le_trans BB7.out.size hb7.size)))
  have C8 := Lib.hid (Cells.below (Cells.below C6.out hb7) b78)
  have RX8 := Lib.hid ((RX6.out.below hb7).below b78)
  have h0 := C8.out.cell 0
  have h1 := C8.out.cell 1
  have h2 := C8.out.cell 2
  simp at h0 h1 h2
  have HRec := fun w (h1 : RowR w LA n LC ys) (h2 : RowR w A n c xs) => Lib.hid (sameRecs_any h1 h2 HY.out)
  clear f1 f2 f3 hb7 b78 HF1 BB7 C6 RX6 R6
  go_wp2_with fail
  generalize w7.alloc (.cells #[.bool true, .int .i64 hd.host, .int .i64 hd.epoch, .int .i64 hd.seq, .slice LA n LC, .slice AA n AC, .int .i64 (bs.length : Int)] 33) = w8 at *
  generalize w7.heap.size = f1 at *
  refine (HRec w8 RY.out (HR.out.below BB8.out)).out.mono ?_
  rintro e w9 ⟨rfl, hb9⟩
  have BB9 := Lib.hid (BB8.out.trans (hb9.mono BB8.out.size))
  have C9 := Lib.hid (Cells.below C8.out hb9)
  have D9 := Lib.hid (Cells.below D8.out hb9)
  have RY9 := Lib.hid (RY.out.below hb9)
  have RA9 := Lib.hid (RA.out.below hb9)
  have RX9 := Lib.hid (RX8.out.below hb9)
  obtain ⟨⟨d0, d1, d2, d3, d4, d5, d6⟩, -⟩ := Cells.seven D9.out
  clear h0 h1 h2 hb9 HRec RY RA BB8 C8 D8 RX8 HY
  have hsl := run_head X bs.length d C (by have := RX9.out.cap; omega)
  have R10 := Lib.hid (RX9.out.head (k := C) (by omega))
  go_wp2_with fail
  refine (HF2 X d w9 R10.out (by omega)).out.mono ?_
  rintro e w10 ⟨hb, a0, a1, a2, U, zs, LB, LD, AB, AD, rfl, g1, g2, g3, g4, g5, hb10⟩
  have b11 : Below w10.heap.size w10 (w10.alloc (.cells #[.bool hb, .int .i64 a0, .int .i64 a1, .int .i64 a2, .slice LB K LD, .slice AB K AD, .int .i64 (U : Int)] 33)) := (Below.refl _ w10).alloc (Nat.le_refl _) _
  have E11 : Hid (Cells (w10.alloc (.cells #[.bool hb, .int .i64 a0, .int .i64 a1, .int .i64 a2, .slice LB K LD, .slice AB K AD, .int .i64 (U : Int)] 33)) w10.heap.size 33 #[.bool hb, .int .i64 a0, .int .i64 a1, .int .i64 a2, .slice LB K LD, .slice AB K AD, .int .i64 (U : Int)]) := heap_alloc_new w10 _
  have BB11 := Lib.hid ((BB9.out.trans (hb10.mono BB9.out.size)).trans (b11.mono (Nat.le_trans BB9.out.size hb10.size)))
  have D11 := Lib.hid (Cells.below (Cells.below D9.out hb10) b11)
  have RA11 := Lib.hid ((RA9.out.below hb10).below b11)
  have RZ11 := Lib.hid (g1.below b11)
  have G2 := Lib.hid g2
  have G3 := Lib.hid g3
  have G5 := Lib.hid g5
  clear g1 g2 g3 g5 hb10 b11 BB9 C9 D9 RY9 RA9 RX9 R10 d0 d1 d2 d3 d4 d5 d6 hsl HF2
  go_wp2_with fail
  generalize w10.alloc (.cells #[.bool hb, .int .i64 a0, .int .i64 a1, .int .i64 a2, .slice LB K LD, .slice AB K AD, .int .i64 (U : Int)] 33) = w11 at *
  generalize w10.heap.size = f2 at *
  go_loopg [14] (n + 1) (fun gk i wr => ∃ k : Nat, gk = n + 1 - k ∧ i = .int .i64 k ∧ k ≤ K ∧ Hid (Below w11.heap.size w11 wr))
  case atStart => exact ⟨0, rfl, rfl, by omega, Below.refl _ _⟩
  case round =>
    obtain ⟨k, hgk, rfl, hk, hB⟩ := hrel
    go_upto_region 14 with fail
    go_cut [107] from 97 to 109 (fun s wx => s = .bool (decide (k < K)) ∧ Hid (Below w11.heap.size w11 wx))
    case first =>
      obtain ⟨⟨d0, d1, d2, d3, d4, d5, d6⟩, -⟩ := Cells.seven (Cells.below D11.out hB.out)
      by_cases hlt : k < n
      · have HE := HEnd LA LC AA AC k wr (RA11.out.below hB.out) hlt
        have HK2 := Lib.hid (hki k hlt).out
        generalize u0 + (frames (l.take (k + 1))).length = E at *
        clear hki HEnd
        go_wp2_with fail
        refine HE.out.mono ?_
        rintro e w12 ⟨rfl, hb12⟩
        have B12 := Lib.hid (hB.out.trans (hb12.mono hB.out.size))
        have hdk : decide (E ≤ C) = decide (k < K) := by have := HK2.out; simp [this]
        clear hb12
        go_wp2_with fail
        go_meet
        first | exact ⟨rfl, B12.out⟩ | exact ⟨congrArg Value.bool hdk, B12.out⟩
      · have hdk := Lib.hid (show decide (k < K) = false by simp; omega)
        clear hki HEnd
        go_wp2_with fail
        go_meet
        exact ⟨congrArg Value.bool hdk.out.symm, hB.out⟩
    case rest =>
      obtain ⟨rfl, hBc⟩ := hcut
      clear hB
      by_cases hkK : k < K
      · have hdk : decide (k < K) = true := by simp [hkK]
        have hbn := HR.out.big
        go_wp2_with fail
        go_roundg (n - k)
        case measure => omega
        case rel => exact ⟨k + 1, by omega, by go_num, by omega, hBc⟩
      · have hdk : decide (k < K) = false := by simp [hkK]
        obtain rfl : k = K := by omega
        clear hki HEnd hkK
        obtain ⟨⟨d0, d1, d2, d3, d4, d5, d6⟩, -⟩ := Cells.seven (Cells.below D11.out hBc.out)
        obtain ⟨⟨e0, e1, e2, e3, e4, e5, e6⟩, -⟩ := Cells.seven (Cells.below E11.out hBc.out)
        rw [hdk]
        clear hdk
        go_upto_if 115 with fail
        go_cut [15] from 116 (fun s wx => s = .int .i64 (u0 : Int) ∧ wx = wc)
        case first =>
          rcases Nat.eq_zero_or_pos n with hn0 | hn0
          · subst hn0
            have hbu : bs.length = u0 := by
              have h1 : l = [] := List.eq_nil_of_length_eq_zero hln
              rw [HLEN.out, h1]
              simp [frames]
            have hbu := Lib.hid hbu
            go_wp2_with fail
            go_meet
            exact ⟨by rw [hbu.out], rfl⟩
          · obtain ⟨b1, o1, rfl, hc1⟩ := (RA11.out.below hBc.out).cell (hstart.out hn0)
            have hc1 : wc.cell? ⟨b1, o1, none⟩ = some (.int .i64 (u0 : Int)) := hc1
            have hd0 : decide (0 < n) = true := by simp [hn0]
            have hd1 : (0 : Int) < (n : Int) := by omega
            go_wp2_with fail
            go_meet
            exact ⟨rfl, rfl⟩
        case rest =>
          obtain ⟨rfl, rfl⟩ := hcut
          have HSR := fun w' (h1 : RowR w' LB k LD zs) (h2 : RowR w' A k c (xs.take k)) => Lib.hid (sameRecs_any h1 h2 (by rw [G2.out, ← HL.out, List.map_take]))
          by_cases hcu : C < u0
          · obtain ⟨rfl, rfl⟩ := G5.out hcu
            obtain rfl : hb = false := by rw [G3.out]; simp; omega
            have hcd : decide (C < u0) = true := by simp [hcu]
            clear hcu
            go_wp2_with fail
            go_ret
            exact ⟨rfl, BB11.out.trans (hBc.out.mono BB11.out.size)⟩
          · obtain rfl : hb = true := by rw [G3.out]; simp; omega
            have hcd : decide (C < u0) = false := by simp [hcu]
            clear hcu
            go_wp2_with fail
            have hsl2 := run_headR A n c k (by have := HR.out.cap; omega)
            have hUC : decide (U ≤ C) = true := by simp [g4]
            have E12 := Lib.hid (show Cells wc.drew f2 33 #[.bool true, .int .i64 a0, .int .i64 a1, .int .i64 a2, .slice LB k LD, .slice AB k AD, .int .i64 (U : Int)] from Cells.below E11.out hBc.out.drew)
            have BB12 := Lib.hid ((BB11.out.trans (hBc.out.mono BB11.out.size)).drew)
            have RZ12 := Lib.hid ((RZ11.out.below hBc.out).below (Below.refl _ wc).drew)
            clear d0 d1 d2 d3 d4 d5 d6 e0 e1 e2 e3 e4 e5 e6 g4
            refine wp_region_held_drew (S := fun W => W.cell? ⟨f2, 0, none⟩ = some (.bool true) ∧ W.cell? ⟨f2, 1, none⟩ = some (.int .i64 a0) ∧ W.cell? ⟨f2, 2, none⟩ = some (.int .i64 a1) ∧ W.cell? ⟨f2, 3, none⟩ = some (.int .i64 a2) ∧ W.cell? ⟨f2, 4, none⟩ = some (.slice LB k LD) ∧ W.cell? ⟨f2, 5, none⟩ = some (.slice AB k AD) ∧ W.cell? ⟨f2, 6, none⟩ = some (.int .i64 (U : Int)))
              (by kernel_rfl) (Cells.seven E12.out).1 (fun hHeld => ?_)
            (first | (refine Reg.take 0 (v := ?_) rfl (by kernel_rfl) (by kernel_rfl) (by kernel_rfl) (fun _ _ _ h => h) (Or.inl ⟨by rfl, ?_⟩) (by assumption) ?_; rotate_left; (focus ((intro W hSW); (try dsimp only at hSW); (try go_split_ands); go_simp; (try (with_reducible rfl)); done))) | (refine Reg.take 0 (v := undef) rfl (by kernel_rfl) (by kernel_rfl) (by kernel_rfl) (fun _ _ _ h => h) (Or.inr ⟨by rfl, rfl⟩) (by assumption) ?_))
            (try simp only [Act.put, List.setIfInBounds_toArray, List.set_cons_zero, List.set_cons_succ])
            (first | (refine Reg.take 1 (v := ?_) rfl (by kernel_rfl) (by kernel_rfl) (by kernel_rfl) (fun _ _ _ h => h) (Or.inl ⟨by rfl, ?_⟩) (by assumption) ?_; rotate_left; (focus ((intro W hSW); (try dsimp only at hSW); (try go_split_ands); go_simp; (try (with_reducible rfl)); done))) | (refine Reg.take 1 (v := undef) rfl (by kernel_rfl) (by kernel_rfl) (by kernel_rfl) (fun _ _ _ h => h) (Or.inr ⟨by rfl, rfl⟩) (by assumption) ?_))
            (try simp only [Act.put, List.setIfInBounds_toArray, List.set_cons_zero, List.set_cons_succ])
            (first | (refine Reg.take 2 (v := ?_) rfl (by kernel_rfl) (by kernel_rfl) (by kernel_rfl) (fun _ _ _ h => h) (Or.inl ⟨by rfl, ?_⟩) (by assumption) ?_; rotate_left; (focus ((intro W hSW); (try dsimp only at hSW); (try go_split_ands); go_simp; (try (with_reducible rfl)); done))) | (refine Reg.take 2 (v := undef) rfl (by kernel_rfl) (by kernel_rfl) (by kernel_rfl) (fun _ _ _ h => h) (Or.inr ⟨by rfl, rfl⟩) (by assumption) ?_))
            (try simp only [Act.put, List.setIfInBounds_toArray, List.set_cons_zero, List.set_cons_succ])
            (first | (refine Reg.take 3 (v := ?_) rfl (by kernel_rfl) (by kernel_rfl) (by kernel_rfl) (fun _ _ _ h => h) (Or.inl ⟨by rfl, ?_⟩) (by assumption) ?_; rotate_left; (focus ((intro W hSW); (try dsimp only at hSW); (try go_split_ands); go_simp; (try (with_reducible rfl)); done))) | (refine Reg.take 3 (v := undef) rfl (by kernel_rfl) (by kernel_rfl) (by kernel_rfl) (fun _ _ _ h => h) (Or.inr ⟨by rfl, rfl⟩) (by assumption) ?_))
            (try simp only [Act.put, List.setIfInBounds_toArray, List.set_cons_zero, List.set_cons_succ])
            (first | (refine Reg.take 4 (v := ?_) rfl (by kernel_rfl) (by kernel_rfl) (by kernel_rfl) (fun _ _ _ h => h) (Or.inl ⟨by rfl, ?_⟩) (by assumption) ?_; rotate_left; (focus ((intro W hSW); (try dsimp only at hSW); (try go_split_ands); go_simp; (try (with_reducible rfl)); done))) | (refine Reg.take 4 (v := undef) rfl (by kernel_rfl) (by kernel_rfl) (by kernel_rfl) (fun _ _ _ h => h) (Or.inr ⟨by rfl, rfl⟩) (by assumption) ?_))
            (try simp only [Act.put, List.setIfInBounds_toArray, List.set_cons_zero, List.set_cons_succ])
            (first | (refine Reg.take 5 (v := ?_) rfl (by kernel_rfl) (by kernel_rfl) (by kernel_rfl) (fun _ _ _ h => h) (Or.inl ⟨by rfl, ?_⟩) (by assumption) ?_; rotate_left; (focus ((intro W hSW); (try dsimp only at hSW); (try go_split_ands); go_simp; (try (with_reducible rfl)); done))) | (refine Reg.take 5 (v := undef) rfl (by kernel_rfl) (by kernel_rfl) (by kernel_rfl) (fun _ _ _ h => h) (Or.inr ⟨by rfl, rfl⟩) (by assumption) ?_))
            (try simp only [Act.put, List.setIfInBounds_toArray, List.set_cons_zero, List.set_cons_succ])
            (first | (refine Reg.take 6 (v := ?_) rfl (by kernel_rfl) (by kernel_rfl) (by kernel_rfl) (fun _ _ _ h => h) (Or.inl ⟨by rfl, ?_⟩) (by assumption) ?_; rotate_left; (focus ((intro W hSW); (try dsimp only at hSW); (try go_split_ands); go_simp; (try (with_reducible rfl)); done))) | (refine Reg.take 6 (v := undef) rfl (by kernel_rfl) (by kernel_rfl) (by kernel_rfl) (fun _ _ _ h => h) (Or.inr ⟨by rfl, rfl⟩) (by assumption) ?_))
            (try simp only [Act.put, List.setIfInBounds_toArray, List.set_cons_zero, List.set_cons_succ])
            (first | (refine Reg.take 7 (v := ?_) rfl (by kernel_rfl) (by kernel_rfl) (by kernel_rfl) (fun _ _ _ h => h) (Or.inl ⟨by rfl, ?_⟩) (by assumption) ?_; rotate_left; (focus ((intro W hSW); (try dsimp only at hSW); (try go_split_ands); go_simp; (try (with_reducible rfl)); done))) | (refine Reg.take 7 (v := undef) rfl (by kernel_rfl) (by kernel_rfl) (by kernel_rfl) (fun _ _ _ h => h) (Or.inr ⟨by rfl, rfl⟩) (by assumption) ?_))
            (try simp only [Act.put, List.setIfInBounds_toArray, List.set_cons_zero, List.set_cons_succ])
            (first | (refine Reg.take 8 (v := ?_) rfl (by kernel_rfl) (by kernel_rfl) (by kernel_rfl) (fun _ _ _ h => h) (Or.inl ⟨by rfl, ?_⟩) (by assumption) ?_; rotate_left; (focus ((intro W hSW); (try dsimp only at hSW); (try go_split_ands); go_simp; (try (with_reducible rfl)); done))) | (refine Reg.take 8 (v := undef) rfl (by kernel_rfl) (by kernel_rfl) (by kernel_rfl) (fun _ _ _ h => h) (Or.inr ⟨by rfl, rfl⟩) (by assumption) ?_))
            (try simp only [Act.put, List.setIfInBounds_toArray, List.set_cons_zero, List.set_cons_succ])
            (first | (refine Reg.take 9 (v := ?_) rfl (by kernel_rfl) (by kernel_rfl) (by kernel_rfl) (fun _ _ _ h => h) (Or.inl ⟨by rfl, ?_⟩) (by assumption) ?_; rotate_left; (focus ((intro W hSW); (try dsimp only at hSW); (try go_split_ands); go_simp; (try (with_reducible rfl)); done))) | (refine Reg.take 9 (v := undef) rfl (by kernel_rfl) (by kernel_rfl) (by kernel_rfl) (fun _ _ _ h => h) (Or.inr ⟨by rfl, rfl⟩) (by assumption) ?_))
            (try simp only [Act.put, List.setIfInBounds_toArray, List.set_cons_zero, List.set_cons_succ])
            (first | (refine Reg.take 10 (v := ?_) rfl (by kernel_rfl) (by kernel_rfl) (by kernel_rfl) (fun _ _ _ h => h) (Or.inl ⟨by rfl, ?_⟩) (by assumption) ?_; rotate_left; (focus ((intro W hSW); (try dsimp only at hSW); (try go_split_ands); go_simp; (try (with_reducible rfl)); done))) | (refine Reg.take 10 (v := undef) rfl (by kernel_rfl) (by kernel_rfl) (by kernel_rfl) (fun _ _ _ h => h) (Or.inr ⟨by rfl, rfl⟩) (by assumption) ?_))
            (try simp only [Act.put, List.setIfInBounds_toArray, List.set_cons_zero, List.set_cons_succ])
            refine Reg.step 11 rfl (by kernel_rfl) (by rfl) (fun K hK => ?_)
            go_simp
            refine (HSR wc.drew RZ12.out ((HR.out.below BB12.out).head hkl)).out.mono ?_
            rintro e w13 ⟨rfl, hb13⟩
            have BB13 := Lib.hid (BB12.out.trans (hb13.mono BB12.out.size))
            have he13 := (Cells.seven (Cells.below E12.out hb13)).1
            refine hK.out _ _ he13 (fun hHeld2 => ?_)
            clear hK K hHeld hb13 he13
            (try simp only [Act.put, List.setIfInBounds_toArray, List.set_cons_zero, List.set_cons_succ])
            (first | (refine Reg.take 12 (v := ?_) rfl (by kernel_rfl) (by kernel_rfl) (by kernel_rfl) (fun _ _ _ h => h) (Or.inl ⟨by rfl, ?_⟩) (by assumption) ?_; rotate_left; (focus ((intro W hSW); (try dsimp only at hSW); (try go_split_ands); go_simp; (try (with_reducible rfl)); done))) | (refine Reg.take 12 (v := undef) rfl (by kernel_rfl) (by kernel_rfl) (by kernel_rfl) (fun _ _ _ h => h) (Or.inr ⟨by rfl, rfl⟩) (by assumption) ?_))
            (try simp only [Act.put, List.setIfInBounds_toArray, List.set_cons_zero, List.set_cons_succ])
            (first | (refine Reg.take 13 (v := ?_) rfl (by kernel_rfl) (by kernel_rfl) (by kernel_rfl) (fun _ _ _ h => h) (Or.inl ⟨by rfl, ?_⟩) (by assumption) ?_; rotate_left; (focus ((intro W hSW); (try dsimp only at hSW); (try go_split_ands); go_simp; (try (with_reducible rfl)); done))) | (refine Reg.take 13 (v := undef) rfl (by kernel_rfl) (by kernel_rfl) (by kernel_rfl) (fun _ _ _ h => h) (Or.inr ⟨by rfl, rfl⟩) (by assumption) ?_))
            (try simp only [Act.put, List.setIfInBounds_toArray, List.set_cons_zero, List.set_cons_succ])
            (first | (refine Reg.take 14 (v := ?_) rfl (by kernel_rfl) (by kernel_rfl) (by kernel_rfl) (fun _ _ _ h => h) (Or.inl ⟨by rfl, ?_⟩) (by assumption) ?_; rotate_left; (focus ((intro W hSW); (try dsimp only at hSW); (try go_split_ands); go_simp; (try (with_reducible rfl)); done))) | (refine Reg.take 14 (v := undef) rfl (by kernel_rfl) (by kernel_rfl) (by kernel_rfl) (fun _ _ _ h => h) (Or.inr ⟨by rfl, rfl⟩) (by assumption) ?_))
            (try simp only [Act.put, List.setIfInBounds_toArray, List.set_cons_zero, List.set_cons_succ])
            (first | (refine Reg.take 15 (v := ?_) rfl (by kernel_rfl) (by kernel_rfl) (by kernel_rfl) (fun _ _ _ h => h) (Or.inl ⟨by rfl, ?_⟩) (by assumption) ?_; rotate_left; (focus ((intro W hSW); (try dsimp only at hSW); (try go_split_ands); go_simp; (try (with_reducible rfl)); done))) | (refine Reg.take 15 (v := undef) rfl (by kernel_rfl) (by kernel_rfl) (by kernel_rfl) (fun _ _ _ h => h) (Or.inr ⟨by rfl, rfl⟩) (by assumption) ?_))
            (try simp only [Act.put, List.setIfInBounds_toArray, List.set_cons_zero, List.set_cons_succ])
            (first | (refine Reg.take 16 (v := ?_) rfl (by kernel_rfl) (by kernel_rfl) (by kernel_rfl) (fun _ _ _ h => h) (Or.inl ⟨by rfl, ?_⟩) (by assumption) ?_; rotate_left; (focus ((intro W hSW); (try dsimp only at hSW); (try go_split_ands); go_simp; (try (with_reducible rfl)); done))) | (refine Reg.take 16 (v := undef) rfl (by kernel_rfl) (by kernel_rfl) (by kernel_rfl) (fun _ _ _ h => h) (Or.inr ⟨by rfl, rfl⟩) (by assumption) ?_))
            (try simp only [Act.put, List.setIfInBounds_toArray, List.set_cons_zero, List.set_cons_succ])
            (first | (refine Reg.take 17 (v := ?_) rfl (by kernel_rfl) (by kernel_rfl) (by kernel_rfl) (fun _ _ _ h => h) (Or.inl ⟨by rfl, ?_⟩) (by assumption) ?_; rotate_left; (focus ((intro W hSW); (try dsimp only at hSW); (try go_split_ands); go_simp; (try (with_reducible rfl)); done))) | (refine Reg.take 17 (v := undef) rfl (by kernel_rfl) (by kernel_rfl) (by kernel_rfl) (fun _ _ _ h => h) (Or.inr ⟨by rfl, rfl⟩) (by assumption) ?_))
            (try simp only [Act.put, List.setIfInBounds_toArray, List.set_cons_zero, List.set_cons_succ])
            (first | (refine Reg.take 18 (v := ?_) rfl (by kernel_rfl) (by kernel_rfl) (by kernel_rfl) (fun _ _ _ h => h) (Or.inl ⟨by rfl, ?_⟩) (by assumption) ?_; rotate_left; (focus ((intro W hSW); (try dsimp only at hSW); (try go_split_ands); go_simp; (try (with_reducible rfl)); done))) | (refine Reg.take 18 (v := undef) rfl (by kernel_rfl) (by kernel_rfl) (by kernel_rfl) (fun _ _ _ h => h) (Or.inr ⟨by rfl, rfl⟩) (by assumption) ?_))
            (try simp only [Act.put, List.setIfInBounds_toArray, List.set_cons_zero, List.set_cons_succ])
            (first | (refine Reg.take 19 (v := ?_) rfl (by kernel_rfl) (by kernel_rfl) (by kernel_rfl) (fun _ _ _ h => h) (Or.inl ⟨by rfl, ?_⟩) (by assumption) ?_; rotate_left; (focus ((intro W hSW); (try dsimp only at hSW); (try go_split_ands); go_simp; (try (with_reducible rfl)); done))) | (refine Reg.take 19 (v := undef) rfl (by kernel_rfl) (by kernel_rfl) (by kernel_rfl) (fun _ _ _ h => h) (Or.inr ⟨by rfl, rfl⟩) (by assumption) ?_))
            (try simp only [Act.put, List.setIfInBounds_toArray, List.set_cons_zero, List.set_cons_succ])
            refine wpAnyH_done (by kernel_rfl) ?_ _
            clear hHeld2
            go_wp2_with fail
            go_ret
            exact ⟨rfl, BB13.out⟩

theorem segBack_walk {h : Hdr} {A : Option Addr} {n c : Nat} {xs : List Rv} {w : World} (cut zeros : Int) (hr : RowR w A n c xs) (hf : fits (hnums h)) (hg : goods (xs.map Rv.r)) (hw : weigh (xs.map Rv.r) ≤ 3145728) :
    Calls Try.prog 3 #[hdV h, .slice A n c, .int .i64 cut, .int .i64 zeros] w fun e w' => e = .returned (.bool true) ∧ Below w.heap.size w w' := by
  by_cases hb : 100000 < weigh (xs.map Rv.r)
  · exact segBack_out cut zeros hr hf hg hw (.inl hb)
  · rcases segB_cases h (xs.map Rv.r) with ⟨h1, h2, -⟩ | h1 | h1
    · exact segBack_good cut zeros hr hf hg h1 h2 (by omega)
    · exact segBack_out cut zeros hr hf hg hw (.inr (.inl h1))
    · exact segBack_out cut zeros hr hf hg hw (.inr (.inr h1))

theorem segBack_says : Frame.Says Rows.segBackSpec 4 := by
  refine ⟨rfl, fun H ds h => ?_, fun H ds h => ?_, fun H ds h => ?_⟩ <;>
  · match ds, h with
    | [d1, d2, d3, d4], _ => rfl

set_option maxRecDepth 100000 in
theorem segBack_walks : Frame.WalksU 3 [23, 24, 3, 3] := by
  intro H enc W args ds ps base hok hA hsz hbd
  obtain ⟨v0, vs0, d0, ds0, p0, q0, hargs, rfl, rfl, h0, r0⟩ := trodAll_cons hA
  obtain ⟨v1, vs1, d1, ds1, p1, q1, rfl, rfl, rfl, h1, r1⟩ := trodAll_cons r0
  obtain ⟨v2, vs2, d2, ds2, p2, q2, rfl, rfl, rfl, h2, r2⟩ := trodAll_cons r1
  obtain ⟨v3, vs3, d3, ds3, p3, q3, rfl, rfl, rfl, h3, r3⟩ := trodAll_cons r2
  obtain ⟨rfl, rfl, rfl⟩ := trodAll_nil r3
  obtain rfl : args = #[v0, v1, v2, v3] := by cases args; simp_all
  obtain ⟨h, rfl, fh⟩ := Args.open_hdr (hok 0 _ v0 rfl rfl) h0
  obtain ⟨A, n, c, xs, rfl, hr, hg, hw⟩ := Args.open_recs (hok 1 _ v1 rfl rfl) h1 (Args.sized_arg hsz (j := 1) rfl rfl)
  obtain ⟨cut, rfl, rfl, rfl, wc⟩ := open_int Try.underlying3 (hok 2 _ v2 rfl rfl) h2
  obtain ⟨zeros, rfl, rfl, rfl, wz⟩ := open_int Try.underlying3 (hok 3 _ v3 rfl rfl) h3
  simp only [Rows.uptoBulkAll] at hbd
  refine segBack_walk cut zeros hr fh hg ?_
  unfold weigh
  omega

set_option maxRecDepth 100000 in
theorem segBack_over : Rows.segBackUptoRow.holds Try.pinned (Rows.OpenSpec.upto Rows.segBackSpec) :=
  OpenClaim.holds_of_cond 3 Try.f3 rfl rfl rfl rfl rfl rfl rfl ⟨rfl, rfl, rfl, rfl, rfl⟩ rfl rfl rfl rfl rfl (by kernel_rfl) Try.func3 (by kernel_rfl)
    (of_decide_eq_true (by kernel_rfl)) (by unfold Func.isWrapper; first | (rw [if_pos (by decide +kernel)]; kernel_rfl) | (rw [if_neg (by decide +kernel)]; exact ⟨rfl, rfl⟩))
    (fun os started H enc _ F => Frame.liftedU (started := started) F Try.underlying4 (by kernel_rfl) Try.func3 (n := 4) (by rw [Try.params3]; rfl) segBack_says (by rw [Try.params3]; kernel_rfl) (by kernel_rfl)
      (OpenSpec.witness (enc := enc) (C := Try.checked) (s := Rows.OpenSpec.upto Rows.segBackSpec) (k := Rows.uptoSmall) rfl false ⟨#[], #[.agg #[.int .i64 0, .int .i64 0, .int .i64 0], .slice none 0 0, .int .i64 0, .int .i64 0], []⟩ 8 (by kernel_rfl) (by kernel_rfl) (by kernel_rfl)
        (x := ([.agg [.lit (.int .i64 0), .lit (.int .i64 0), .lit (.int .i64 0)], .nil, .lit (.int .i64 0), .lit (.int .i64 0)], [], [])) (by kernel_rfl) rfl (by kernel_rfl))
      (by rw [Try.params3]; exact segBack_walks))
end Seg
/-- The given statement. -/
theorem segBackUpto_holds : Rows.SegBackUptoSaid := Seg.segBack_over
end Go.Proofs.Ytpdmlimjhpgdiaa
