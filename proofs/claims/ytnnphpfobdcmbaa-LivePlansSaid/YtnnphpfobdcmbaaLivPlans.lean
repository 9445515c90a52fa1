/-
  THE STATEMENT LivePlans: its walk.
-/
import Derived.Test.YtnnphpfobdcmbaaLivSkipsP
import Derived.Test.YtnnphpfobdcmbaaLivInS
import Derived.BigQuiet
namespace Go.Proofs.Ytnnphpfobdcmbaa
open Go.RowKit Mem Ext Zon Zns
namespace Liv

theorem in_any_ {A : Option Addr} {n c : Nat} {l : List Int} {w : World} (h : Row ci w A n c l) (v : Int) : Hid (Calls Try.prog 17 #[.slice A n c, .int .i64 v] w fun e w' => e = .returned (.bool (l.contains v)) ∧ Below w.heap.size w w') := in_any h v
theorem victims_strict (d : Dx) (l : List Ext.Ex) (sk : List Int) : (victims d l sk).Pairwise (byKey (keyL l)) := sortB_strict (choose_rises _ _ _)
/-- What is known of each victim. -/
theorem victim_is {d : Dx} {l : List Ext.Ex} {sk : List Int} {i x : Nat} (h : (victims d l sk)[i]? = some x) : x < d.n ∧ (atI (d.xs.map Zv.z) x).st = 4 ∧ cntZ (x : Int) l < (wholeP (atI (d.xs.map Zv.z) x) : Nat) ∧ sk.contains (x : Int) = false := by
  obtain ⟨h1, h2, h3⟩ := victims_mem.1 (List.mem_of_getElem? h)
  unfold fullB at h2
  simp only [Bool.and_eq_true, beq_iff_eq, decide_eq_true_eq] at h2
  exact ⟨h1, h2.1, h2.2, h3⟩
theorem victim_new {d : Dx} {l : List Ext.Ex} {sk : List Int} {i x : Nat} (h : (victims d l sk)[i]? = some x) : (iN ((victims d l sk).take i)).contains (x : Int) = false := by
  have hp := victims_strict d l sk
  generalize victims d l sk = V at *
  rcases e : (iN (V.take i)).contains (x : Int)
  · rfl
  · obtain ⟨y, hy, hyx⟩ := List.mem_map.1 (List.contains_iff_mem.1 e)
    have hyx : y = x := by omega
    subst hyx
    obtain ⟨j, hj⟩ := List.mem_iff_getElem?.1 hy
    have hji : j < i := by
      have := (List.getElem?_eq_some_iff.1 hj).1
      simp at this; omega
    rw [List.getElem?_take_of_lt hji] at hj
    have h1 := (List.getElem?_eq_some_iff.1 hj).1
    have h2 := (List.getElem?_eq_some_iff.1 h).1
    have := List.pairwise_iff_getElem.1 hp j i h1 h2 hji
    rw [(List.getElem?_eq_some_iff.1 hj).2, (List.getElem?_eq_some_iff.1 h).2] at this
    rcases this with h | h <;> omega
theorem victim_next {d : Dx} {l : List Ext.Ex} {sk : List Int} {i x y : Nat} (h : (victims d l sk)[i]? = some x) (h' : (victims d l sk)[i + 1]? = some y) : cntZ (x : Int) l ≤ cntZ (y : Int) l := by
  have h1 := (List.getElem?_eq_some_iff.1 h).1
  have h2 := (List.getElem?_eq_some_iff.1 h').1
  have := List.pairwise_iff_getElem.1 (victims_strict d l sk) i (i + 1) h1 h2 (by omega)
  rw [(List.getElem?_eq_some_iff.1 h).2, (List.getElem?_eq_some_iff.1 h').2] at this
  rcases this with h | h
  · exact Int.le_of_lt h
  · exact Int.le_of_eq h.1
theorem victim_least {d : Dx} {l : List Ext.Ex} {sk : List Int} {x i : Nat} {r : List Nat} (h : victims d l sk = x :: r) (hi : i < d.n) (hs : (atI (d.xs.map Zv.z) i).st = 4) (hc : cntZ (i : Int) l < (wholeP (atI (d.xs.map Zv.z) i) : Nat)) (hk : sk.contains (i : Int) = false) : cntZ (x : Int) l ≤ cntZ (i : Int) l := by
  have hm : i ∈ victims d l sk := victims_mem.2 ⟨hi, by unfold fullB; simp [hs, hc], hk⟩
  have hp := victims_strict d l sk
  rw [h] at hm hp
  rcases List.mem_cons.1 hm with rfl | hm
  · exact Int.le_refl _
  · rcases (List.pairwise_cons.1 hp).1 i hm with h | h
    · exact Int.le_of_lt h
    · exact Int.le_of_eq h.1

set_option maxRecDepth 100000 in
set_option maxHeartbeats 25600000 in
theorem livePlans_walk {d : Dx} {w : World} (h : DevAt w d) {B : Option Addr} {m e : Nat} {l : List Ext.Ex} (hl : RowL w B m e l) (hs : SmallN l) (want : Int) {C : Option Addr} {k f : Nat} {sk : List Int} (hk : Row ci w C k f sk) :
    Calls Try.prog 4 #[dxv d, .slice B m e, .int .i64 want, .slice C k f] w fun en w' => en = .returned (.bool true) ∧ Below w.heap.size w w' := by
  have HU := fun w => Lib.hid (up_any w)
  have HF := fun w (h : DevAt w d) => Lib.hid (few_any (L := B) (lc := e) h hl.big)
  have HK := fun w (h : DevAt w d) => Lib.hid (refCheck_dev h)
  have HE := fun w (h : RowL w B m e l) => Lib.hid (refCheck_any h)
  have HC := fun (hk : okD d.p = true) (he : okE l = true) w (hl : RowL w B m e l) => Lib.hid (count_ok hl hs d.n (by rw [count_n (okD_n h hk).2.1]; exact he))
  have HN := fun (hk : okD d.p = true) => okD_n h hk
  have HZL := fun (hk : okD d.p = true) => okD_len h hk
  have HV := fun w (h : DevAt w d) (hl : RowL w B m e l) (hk : Row ci w C k f sk) => Lib.hid (victim_any h hl hs hk)
  have HPW := fun w (h : DevAt w d) (hl : RowL w B m e l) (hk : Row ci w C k f sk) => Lib.hid (plan_any h hl hs want hk)
  have HP1 := fun w (h : DevAt w d) (hl : RowL w B m e l) (hk : Row ci w C k f sk) => Lib.hid (plan_any h hl hs 1 hk)
  have hpp : okD d.p = true → okE l = true → ∀ u : Int, planP d l sk u = (victims d l sk).take u.toNat := fun h1 h2 u => by unfold planP needB; rw [h1, h2]; rfl
  have HIS := Lib.hid (fun i x (h : (victims d l sk)[i]? = some x) => victim_is h)
  have HNEW := Lib.hid (fun i x (h : (victims d l sk)[i]? = some x) => victim_new h)
  have HNXT := Lib.hid (fun i x y (h : (victims d l sk)[i]? = some x) (h' : (victims d l sk)[i + 1]? = some y) => victim_next h h')
  have HLST := Lib.hid (fun x i r (h : victims d l sk = x :: r) => victim_least (i := i) h)
  have HVL := Lib.hid (victims_len d l sk)
  have HI := fun w (h : Row ci w C k f sk) v => Lib.hid (in_any h v)
  have hbig := h.row.big
  have hmb := hl.big
  have hkb := hk.big
  have HD := Lib.hid h
  have HL := Lib.hid hl
  have HR := Lib.hid hk
  generalize hok : okD d.p = ok at *
  generalize hoe : okE l = oe at *
  generalize hVV : victims d l sk = V at *
  obtain ⟨cap, op, ac, A, n, c, xs⟩ := d
  have L1 := Lib.hid ((Below.refl w.heap.size w).alloc (Nat.le_refl _) (.cells #[.int .i64 cap, .int .i64 op, .int .i64 ac, .slice A n c] 38))
  have B1 := Lib.hid (DBox.new w ⟨cap, op, ac, A, n, c, xs⟩)
  unfold dxv at *
  dsimp only at *
  clear h hl hs hok hoe hVV hk
  go_enter Try.func4, Try.ntmps4
  go_upto_region 1 with fail
  generalize w.alloc (.cells #[.int .i64 cap, .int .i64 op, .int .i64 ac, .slice A n c] 38) = w1 at *
  go_upto_region 2 with (go_at_call 8; refine (HU w1).out.mono ?_; rintro e w2 ⟨rfl, hb⟩; have L2 := Lib.hid (L1.out.trans (hb.mono L1.out.size)); have B2 := Lib.hid (B1.out.below hb); clear hb)
  clear L1 B1 HU
  obtain ⟨m0, m1, m2, m3⟩ := B2.out.cells
  dsimp only at m0 m1 m2 m3
  go_wp2_with fail
  refine (HF w2 (HD.out.below L2.out)).out.mono ?_
  rintro e w3 ⟨⟨fb, rfl, hfb⟩, hb⟩
  have L3 := Lib.hid (L2.out.trans (hb.mono L2.out.size))
  have B3 := Lib.hid (B2.out.below hb)
  clear hb m0 m1 m2 m3 L2 B2 HF hfb
  obtain ⟨m0, m1, m2, m3⟩ := B3.out.cells
  dsimp only at m0 m1 m2 m3
  rcases fb with _ | _
  · go_wp2_with fail
    go_ret
    exact ⟨rfl, L3.out⟩
  rcases hm1 : decide ((k : Int) > 100)
  rotate_left
  · have hm2 : (100 : Int) < (k : Int) := of_decide_eq_true hm1
    go_wp2_with fail
    go_ret
    exact ⟨rfl, L3.out⟩
  have hm2 : ¬ (100 : Int) < (k : Int) := of_decide_eq_false hm1
  rcases ok with _ | _
  · have er : Zon.errOf false = 1 := rfl
    rw [er] at HK
    clear er
    go_wp2_with (go_at_call 14; refine (HK w3 (HD.out.below L3.out)).out.mono ?_; rintro e w4 ⟨rfl, hb⟩; have L4 := Lib.hid (L3.out.trans (hb.mono L3.out.size)); clear hb)
    go_ret
    exact ⟨rfl, L4.out⟩
  have er : Zon.errOf true = 0 := rfl
  rw [er] at HK
  rcases oe with _ | _
  · go_wp2_with (first | (go_at_call 14; refine (HK w3 (HD.out.below L3.out)).out.mono ?_; rintro e w4 ⟨rfl, hb⟩; have L4 := Lib.hid (L3.out.trans (hb.mono L3.out.size)); clear hb) | (go_at_call 9; refine (HE w4 (HL.out.below L4.out)).out.mono ?_; rintro e w5 ⟨rfl, hb⟩; have L5 := Lib.hid (L4.out.trans (hb.mono L4.out.size)); clear hb) | fail)
    go_ret
    exact ⟨rfl, L5.out⟩
  have hn64 := (HN rfl).2.1
  have HZ := Lib.hid (HZL rfl)
  have HC2 := HC rfl rfl
  have hpp2 := hpp rfl rfl
  simp only [hpp2] at HV HPW HP1
  have e1 : (1 : Int).toNat = 1 := rfl
  rw [e1] at HV HP1
  clear HN HZL HC er hpp hpp2 e1
  go_upto_region 4 with (first | (go_at_call 14; refine (HK w3 (HD.out.below L3.out)).out.mono ?_; rintro e w4 ⟨rfl, hb⟩; have L4 := Lib.hid (L3.out.trans (hb.mono L3.out.size)); have B4 := Lib.hid (B3.out.below hb); clear hb) | (go_at_call 9; refine (HE w4 (HL.out.below L4.out)).out.mono ?_; rintro e w5 ⟨rfl, hb⟩; have L5 := Lib.hid (L4.out.trans (hb.mono L4.out.size)); have B5 := Lib.hid (B4.out.below hb); clear hb) | fail)
  clear HK HE L3 B3 L4 B4 m0 m1 m2 m3
  obtain ⟨m0, m1, m2, m3⟩ := B5.out.cells
  dsimp only at m0 m1 m2 m3
  go_upto_region 7 with (go_at_call 10; refine (HC2 w5 (HL.out.below L5.out)).out.mono ?_; rintro e w6 ⟨⟨X, i, r, rfl, hr, -⟩, hb⟩; have L6 := Lib.hid (L5.out.trans (hb.mono L5.out.size)); have B6 := Lib.hid (B5.out.below hb); have R6 := Lib.hid (show Row ci w6 X i r (cnts n l) from hr); clear hb hr)
  obtain rfl : n = i := by have := R6.out.len; rw [cnts_len] at this; exact this
  clear HC2 m0 m1 m2 m3 B5 L5
  obtain ⟨m0, m1, m2, m3⟩ := B6.out.cells
  dsimp only at m0 m1 m2 m3
  go_upto_region 8 with (go_at_call 15; refine (HV w6 (HD.out.below L6.out) (HL.out.below L6.out) (HR.out.below L6.out)).out.mono ?_; rintro e w7 ⟨rfl, hb⟩; have L7 := Lib.hid (L6.out.trans (hb.mono L6.out.size)); have B7 := Lib.hid (B6.out.below hb); have R7 := Lib.hid (R6.out.below hb); clear hb)
  clear HV m0 m1 m2 m3 B6 L6 R6
  obtain ⟨m0, m1, m2, m3⟩ := B7.out.cells
  dsimp only at m0 m1 m2 m3
  go_upto_region 9 with (go_at_call 16; refine (HPW w7 (HD.out.below L7.out) (HL.out.below L7.out) (HR.out.below L7.out)).out.mono ?_; rintro e w8 ⟨⟨Y, j, s, rfl, hr⟩, hb⟩; have L8 := Lib.hid (L7.out.trans (hb.mono L7.out.size)); have B8 := Lib.hid (B7.out.below hb); have R8 := Lib.hid (R7.out.below hb); have P8 := Lib.hid hr; clear hb hr)
  clear HPW m0 m1 m2 m3 B7 L7 R7
  obtain ⟨m0, m1, m2, m3⟩ := B8.out.cells
  dsimp only at m0 m1 m2 m3
  have HJ : Hid (j = min want.toNat V.length) := by show _ = _; have h1 := P8.out.len; rw [iN_len, List.length_take] at h1; exact h1.symm
  have hmx := run_max2 (x := want) (y := 0)
  have hgt : ¬ max want 0 < (j : Int) := by have := HJ.out; omega
  have hgd : decide ((j : Int) > max want 0) = false := decide_eq_false hgt
  have hv0 : headV ([].take 1) = (0, false) := rfl
  rcases V with _ | ⟨x0, rest⟩
  · obtain rfl : j = 0 := by have := HJ.out; simpa using this
    clear HIS HNEW HNXT HLST HVL
    rcases hw0 : decide (want > 0)
    · have hw1 : ¬ 0 < want := of_decide_eq_false hw0
      go_upto_region 11 with (go_at_call 16; refine (HP1 w8 (HD.out.below L8.out) (HL.out.below L8.out) (HR.out.below L8.out)).out.mono ?_; rintro e w9 ⟨⟨Z, q, zc, rfl, hr⟩, hb⟩; have L9 := Lib.hid (L8.out.trans (hb.mono L8.out.size)); (have hq0 : q = 0 := by (have h1 := hr.len; simpa [iN] using h1.symm)); subst hq0; clear hb hr)
      go_wp2_with fail
      refine wp_loop_rounds 1 ?_
      rw [rounds_succ]
      go_wp2_with fail
      go_ret
      exact ⟨rfl, L9.out⟩
    · have hw1 : 0 < want := of_decide_eq_true hw0
      go_upto_region 11 with (go_at_call 16; refine (HP1 w8 (HD.out.below L8.out) (HL.out.below L8.out) (HR.out.below L8.out)).out.mono ?_; rintro e w9 ⟨⟨Z, q, zc, rfl, hr⟩, hb⟩; have L9 := Lib.hid (L8.out.trans (hb.mono L8.out.size)); (have hq0 : q = 0 := by (have h1 := hr.len; simpa [iN] using h1.symm)); subst hq0; clear hb hr)
      go_wp2_with fail
      refine wp_loop_rounds 1 ?_
      rw [rounds_succ]
      go_wp2_with fail
      go_ret
      exact ⟨rfl, L9.out⟩
  · have hjl : j ≤ n := by have h1 := HJ.out; have h2 := HVL.out; omega
    have P9 := Lib.hid (show ∀ i, i < j → ∃ x, (x0 :: rest)[i]? = some x ∧ ((x0 :: rest).take want.toNat)[i]? = some x from fun i hi => by
      have h1 := HJ.out
      have h2 : i < (x0 :: rest).length := by omega
      exact ⟨(x0 :: rest)[i], List.getElem?_eq_getElem h2, by rw [List.getElem?_take_of_lt (by omega)]; exact List.getElem?_eq_getElem h2⟩)
    have HTT := Lib.hid (show ∀ i, i < j → ((x0 :: rest).take want.toNat).take i = (x0 :: rest).take i from fun i hi => by
      have h1 := HJ.out
      rw [List.take_take]; congr 1; omega)
    have hx0 := HIS.out 0 x0 rfl
    have HX0 := Lib.hid hx0
    have hh1 : (headV [x0]).fst = (x0 : Int) := rfl
    have hh2 : (headV [x0]).snd = true := rfl
    have hj1 : 0 < want → 1 ≤ j := fun h => by have h1 := HJ.out; simp at h1; omega
    go_cut [8, 95] from 62 (fun rr t wx => rr = .bool false ∧ t = .bool false ∧ Hid (Below w.heap.size w wx ∧ Below w8.heap.size w8 wx))
    case first =>
      rcases hw0 : decide (want > 0)
      · have hw1 : ¬ 0 < want := of_decide_eq_false hw0
        go_wp2_with (go_at_call 16; refine (HP1 w8 (HD.out.below L8.out) (HL.out.below L8.out) (HR.out.below L8.out)).out.mono ?_; rintro e w9 ⟨⟨Z, q, zc, rfl, hr⟩, hb⟩; have L9 := Lib.hid (And.intro (L8.out.trans (hb.mono L8.out.size)) hb); (have hq0 : q = 1 := by (have h1 := hr.len; simpa [iN] using h1.symm)); subst hq0; clear hb hr)
        go_meet
        exact ⟨rfl, rfl, L9.out⟩
      · have hw1 : 0 < want := of_decide_eq_true hw0
        have hj2 := hj1 hw1
        obtain ⟨x1, hx1, hx2⟩ := P9.out 0 (by omega)
        have hx1' : x0 = x1 := by have : some x0 = some x1 := hx1; injection this
        subst hx1'
        obtain ⟨b, o, hY, -⟩ := P8.out.cell (iN_get hx2)
        subst hY
        have HPC := fun W (hW : Below w8.heap.size w8 W) => (show W.cell? ⟨b, o, none⟩ = some (.int .i64 (x0 : Int)) from by
          obtain ⟨b4, o4, hB4, c4⟩ := (P8.out.below hW).cell (iN_get hx2)
          injection hB4 with hB4; injection hB4 with h1 h2; subst h1 h2; exact c4)
        have hjn0 : ((j : Int) == 0) = false := by simp only [beq_eq_false_iff_ne, ne_eq]; omega
        have hjp : (0 : Int) < (j : Int) := by omega
        go_wp2_with (go_at_call 16; refine (HP1 w8 (HD.out.below L8.out) (HL.out.below L8.out) (HR.out.below L8.out)).out.mono ?_; rintro e w9 ⟨⟨Z, q, zc, rfl, hr⟩, hb⟩; have L9 := Lib.hid (And.intro (L8.out.trans (hb.mono L8.out.size)) hb); have c9 := HPC w9 hb; (have hq0 : q = 1 := by (have h1 := hr.len; simpa [iN] using h1.symm)); subst hq0; clear hb hr)
        go_meet
        exact ⟨rfl, by first | rfl | simp [headV], L9.out⟩
    case rest =>
      obtain ⟨rfl, rfl, L9⟩ := hcut
      clear hmx hgt hgd HP1 m0 m1 m2 m3 hj1
      go_wp2_with fail
      go_loopw [8, 15, 16, 98] (fun rr _ _ v wr => ∃ q : Nat, v = .int .i64 q ∧ rr = .bool false ∧ q ≤ j ∧ Hid (Below w8.heap.size w8 wr ∧ True)) (fun _ _ _ v _ => j - (intOf v).toNat)
      case atStart => exact ⟨0, rfl, rfl, by omega, L9.out.2, trivial⟩
      case round =>
        clear L9
        obtain ⟨q, rfl, rfl, hq, hH0⟩ := hrel
        have hH := Lib.hid hH0.out.1
        clear hH0
        by_cases hlt : q < j
        · obtain ⟨x, hx1, hx2⟩ := P9.out q hlt
          obtain ⟨f1, f2, f3, f4⟩ := HIS.out q x hx1
          obtain ⟨z, hz⟩ := HD.out.row.get f1
          have hz : xs[x]? = some z := hz
          rw [atI_of hz] at f2 f3
          obtain ⟨b, o, hA, hb, hc⟩ := HD.out.row.elem hz
          have hA : A = some ⟨b, o, none⟩ := hA
          subst hA
          obtain ⟨b1, o1, hY, -⟩ := P8.out.cell (iN_get hx2)
          subst hY
          obtain ⟨b2, o2, hX, -⟩ := R8.out.cell (cnts_get l f1)
          subst hX
          have HSKX := Lib.hid f4
          have HNX := Lib.hid (HNEW.out q x hx1)
          have HPR := fun W (hW : Below w8.heap.size w8 W) => (show Row ci W (some ⟨b1, o1, none⟩) q s (iN ((x0 :: rest).take q)) from by
            have h1 := (P8.out.below hW).head (Nat.le_of_lt hlt)
            rw [take_iN, HTT.out q hlt] at h1; exact h1)
          have HB0 := fun W (hW : Below w8.heap.size w8 W) => (B8.out.below hW).cells.2.2.2
          dsimp only at HB0
          have HZ0 := fun W (hW : Below w8.heap.size w8 W) => hc W ((hW.block b (Nat.lt_of_lt_of_le hb L8.out.size)).trans (L8.out.block b hb)) 0 _ rfl
          have HZ2 := fun W (hW : Below w8.heap.size w8 W) => hc W ((hW.block b (Nat.lt_of_lt_of_le hb L8.out.size)).trans (L8.out.block b hb)) 2 _ rfl
          rw [f2] at HZ0
          dsimp only [Nat.add_zero] at HZ0 HZ2
          have HC0 := fun W (hW : Below w8.heap.size w8 W) (y : Nat) (hy : y < n) => (show W.cell? ⟨b2, o2 + y, none⟩ = some (.int .i64 (cntZ (y : Int) l)) from by
            obtain ⟨b4, o4, hB4, c4⟩ := (R8.out.below hW).cell (cnts_get l hy)
            injection hB4 with hB4; injection hB4 with h1 h2; subst h1 h2; exact c4)
          have HP0 := fun W (hW : Below w8.heap.size w8 W) (i y : Nat) (h : ((x0 :: rest).take want.toNat)[i]? = some y) => (show W.cell? ⟨b1, o1 + i, none⟩ = some (.int .i64 (y : Int)) from by
            obtain ⟨b4, o4, hB4, c4⟩ := (P8.out.below hW).cell (iN_get h)
            injection hB4 with hB4; injection hB4 with h1 h2; subst h1 h2; exact c4)
          have cX : wr.cell? ⟨b1, o1 + q, none⟩ = some (.int .i64 (x : Int)) := HP0 wr hH.out q x hx2
          have hq0 : (0 : Int) ≤ (q : Int) := by omega
          have hqj : (q : Int) < (j : Int) := by omega
          have hx0' : (0 : Int) ≤ (x : Int) := by omega
          have hxn : (x : Int) < (n : Int) := by omega
          have hxl : ¬ (x : Int) < 0 := by omega
          have hxg : ¬ (n : Int) ≤ (x : Int) := by omega
          have hqs : q ≤ s := by have := P8.out.cap; omega
          have hhd := run_headI (some ⟨b1, o1, none⟩) j s q hqs
          have hzl := HZ.out z (List.mem_of_getElem? hz)
          unfold wholeP at f3
          generalize z.z.data.length = zl at *
          have hw0 : IntKind.i64.wrap ((zl : Int) / 16) = (zl : Int) / 16 := Ext.wrap_small (by omega) (by omega)
          have hge : ¬ (zl : Int) / 16 ≤ cntZ (x : Int) l := by omega
          have hged : decide (cntZ (x : Int) l ≥ (zl : Int) / 16) = false := decide_eq_false hge
          have CV := fun W hW => HC0 W hW x f1
          have NN := Lib.hid (HNXT.out)
          rcases Nat.eq_zero_or_pos q with h0 | h0
          · subst h0
            generalize cntZ (x : Int) l = v at *
            have cX' : wr.cell? ⟨b1, o1, none⟩ = some (.int .i64 (x : Int)) := cX
            clear hx1 hx2 f2 f3 f4 hz hc HC0 HP0 cX
            go_upto_region 14 with fail
            have kb := HB0 wr hH.out
            have kz := HZ0 wr hH.out
            have kd := HZ2 wr hH.out
            have kc := CV wr hH.out
            have I1 := fun N => in_same (HR.out.below (L8.out.trans ((below_drewN hH.out N).mono L8.out.size))) (x : Int)
            rw [HSKX.out] at I1
            have I2 := fun N => in_same (HPR _ (below_drewN hH.out N)) (x : Int)
            rw [HNX.out] at I2
            have J1 := Lib.hid I1
            have J2 := Lib.hid I2
            clear I1 I2 HIS HNEW HNXT HLST HVL HZ HD HL P8 P9 HTT HJ R8 B8 HX0 hx0 HB0 HZ0 HZ2 CV NN hbig hmb hkb hh1 hh2 cX' HPR
            go_big_quiet ((go_at_call 17; first | with_reducible exact Calls.quiet_of_same (J1.out _) | with_reducible exact Calls.quiet_of_same (J2.out _) | fail))
            go_wp2_with fail
            go_roundw
            case rel => first | exact ⟨1, by go_num, rfl, by omega, below_drewN hH.out _, trivial⟩ | exact ⟨_, _, _, _, ⟨1, by go_num, rfl, by omega, below_drewN hH.out _, trivial⟩, rfl, rfl, rfl, rfl⟩ | exact ⟨_, _, _, _, ⟨1, by go_num, rfl, by omega⟩, rfl, rfl, rfl, rfl⟩
            case measure => simp [intOf]; omega
          · obtain ⟨p, hp⟩ : ∃ p, q = p + 1 := ⟨q - 1, by omega⟩
            obtain ⟨y, hy1, hy2⟩ := P9.out p (by omega)
            have gy := (HIS.out p y hy1).1
            have hle := HNXT.out p y x hy1 (by rw [← hp]; exact hx1)
            have hqp : (q : Int) - 1 = (p : Int) := by omega
            have hqpos : (0 : Int) < (q : Int) := by omega
            have hp0 : (0 : Int) ≤ (p : Int) := by omega
            have hpj : (p : Int) < (j : Int) := by omega
            have hy0 : (0 : Int) ≤ (y : Int) := by omega
            have hyn : (y : Int) < (n : Int) := by omega
            have hwr : IntKind.i64.wrap (p : Int) = (p : Int) := Ext.wrap_small (by omega) (by omega)
            have CP := fun W hW => HP0 W hW p y hy2
            have CY := fun W hW => HC0 W hW y gy
            generalize cntZ (x : Int) l = v at *
            generalize cntZ (y : Int) l = v' at *
            have hgt : ¬ v < v' := by omega
            have hgtd : decide (v' > v) = false := decide_eq_false hgt
            clear hx1 hx2 hy1 hy2 f2 f3 f4 hz hc HC0 HP0 hp hle
            go_upto_region 14 with fail
            have kb := HB0 wr hH.out
            have kz := HZ0 wr hH.out
            have kd := HZ2 wr hH.out
            have kc := CV wr hH.out
            have kp := CP wr hH.out
            have ky := CY wr hH.out
            have I1 := fun N => in_same (HR.out.below (L8.out.trans ((below_drewN hH.out N).mono L8.out.size))) (x : Int)
            rw [HSKX.out] at I1
            have I2 := fun N => in_same (HPR _ (below_drewN hH.out N)) (x : Int)
            rw [HNX.out] at I2
            have J1 := Lib.hid I1
            have J2 := Lib.hid I2
            clear I1 I2 HIS HNEW HNXT HLST HVL HZ HD HL P8 P9 HTT HJ R8 B8 HX0 hx0 HB0 HZ0 HZ2 CV NN hbig hmb hkb hh1 hh2 cX CP CY HPR
            go_big_quiet ((go_at_call 17; first | with_reducible exact Calls.quiet_of_same (J1.out _) | with_reducible exact Calls.quiet_of_same (J2.out _) | fail))
            go_wp2_with fail
            go_roundw
            case rel => first | exact ⟨q + 1, by go_num, rfl, by omega, below_drewN hH.out _, trivial⟩ | exact ⟨_, _, _, _, ⟨q + 1, by go_num, rfl, by omega, below_drewN hH.out _, trivial⟩, rfl, rfl, rfl, rfl⟩ | exact ⟨_, _, _, _, ⟨q + 1, by go_num, rfl, by omega⟩, rfl, rfl, rfl, rfl⟩
            case measure => simp [intOf]; omega
        · obtain ⟨b2, o2, hX, -⟩ := R8.out.cell (cnts_get l hx0.1)
          subst hX
          have HC0 := fun W (hW : Below w8.heap.size w8 W) (y : Nat) (hy : y < n) => (show W.cell? ⟨b2, o2 + y, none⟩ = some (.int .i64 (cntZ (y : Int) l)) from by
            obtain ⟨b4, o4, hB4, c4⟩ := (R8.out.below hW).cell (cnts_get l hy)
            injection hB4 with hB4; injection hB4 with h1 h2; subst h1 h2; exact c4)
          have hx0n := hx0.1
          clear hx0 HX0
          have B9 := Lib.hid (B8.out.below hH.out)
          have L10 := Lib.hid (L8.out.trans (hH.out.mono L8.out.size))
          obtain ⟨m0, m1, m2, m3⟩ := B9.out.cells
          dsimp only at m0 m1 m2 m3
          go_wp2_with fail
          clear m0 m1 m2 m3
          have M10 := Lib.hid hH.out
          clear hH hlt hq
          go_loopw [8, 17, 18, 174] (fun rr _ _ v wz => ∃ q : Nat, v = .int .i64 q ∧ rr = .bool false ∧ q ≤ n ∧ Hid (Below w.heap.size w wz ∧ Below w8.heap.size w8 wz)) (fun _ _ _ v _ => n - (intOf v).toNat)
          case atStart => exact ⟨0, rfl, rfl, by omega, L10.out, M10.out⟩
          case round =>
            clear L10 M10
            obtain ⟨q, rfl, rfl, hq, hLM⟩ := hrel
            have L10 := Lib.hid hLM.out.1
            have M10 := Lib.hid hLM.out.2
            clear hLM
            by_cases hlt : q < n
            · obtain ⟨z, hz⟩ := HD.out.row.get hlt
              have hz : xs[q]? = some z := hz
              obtain ⟨b, o, hA, hb, hc⟩ := HD.out.row.elem hz
              have hA : A = some ⟨b, o, none⟩ := hA
              subst hA
              have c0 : wr.cell? ⟨b, o + q * 3, none⟩ = some (.int .i64 z.z.st) := hc wr (L10.out.block b hb) 0 _ rfl
              have c1 : wr.cell? ⟨b, o + q * 3 + 1, none⟩ = some (.int .i64 z.z.fc) := hc wr (L10.out.block b hb) 1 _ rfl
              have c2 : wr.cell? ⟨b, o + q * 3 + 2, none⟩ = some (.slice z.D z.z.data.length z.c) := hc wr (L10.out.block b hb) 2 _ rfl
              have A1 : Hid (Below wr.heap.size wr (wr.alloc (.cells #[.int .i64 z.z.st, .int .i64 z.z.fc, .slice z.D z.z.data.length z.c] 46))) := (Below.refl _ wr).alloc (Nat.le_refl _) _
              have B3 := Lib.hid (Box.new wr z.z z.D z.c)
              have hq0 : (0 : Int) ≤ (q : Int) := by omega
              have hqn : (q : Int) < (n : Int) := by omega
              have hx00 : (0 : Int) ≤ (x0 : Int) := by omega
              have hx0n' : (x0 : Int) < (n : Int) := by omega
              have hzl := HZ.out z (List.mem_of_getElem? hz)
              have HLE := HLST.out x0 q rest rfl hlt
              rw [atI_of hz] at HLE
              unfold wholeP at HLE
              have CQ := fun W hW => HC0 W hW q hlt
              have CX := fun W hW => HC0 W hW x0 hx0n
              have HB3 := fun W (hW : Below (wr.alloc (.cells #[.int .i64 z.z.st, .int .i64 z.z.fc, .slice z.D z.z.data.length z.c] 46)).heap.size (wr.alloc (.cells #[.int .i64 z.z.st, .int .i64 z.z.fc, .slice z.D z.z.data.length z.c] 46)) W) => And.intro (B3.out.below hW).cells.1 (B3.out.below hW).cells.2.2
              generalize z.z.data.length = zl at *
              generalize z.z.st = zst at *
              generalize cntZ (q : Int) l = v at *
              generalize cntZ (x0 : Int) l = v0 at *
              have hw0 : IntKind.i64.wrap ((zl : Int) / 16) = (zl : Int) / 16 := Ext.wrap_small (by omega) (by omega)
              clear hc hz HC0
              go_upto_region 22 with fail
              have N10 := Lib.hid (L10.out.trans (A1.out.mono L10.out.size))
              have M10' := Lib.hid (M10.out.trans (A1.out.mono M10.out.size))
              have kk := HB3 (wr.alloc (.cells #[.int .i64 zst, .int .i64 z.z.fc, .slice z.D zl z.c] 46)) (Below.refl _ _)
              have kq := CQ (wr.alloc (.cells #[.int .i64 zst, .int .i64 z.z.fc, .slice z.D zl z.c] 46)) M10'.out
              have kx := CX (wr.alloc (.cells #[.int .i64 zst, .int .i64 z.z.fc, .slice z.D zl z.c] 46)) M10'.out
              obtain ⟨kz, kd⟩ := kk
              generalize wr.alloc (.cells #[.int .i64 zst, .int .i64 z.z.fc, .slice z.D zl z.c] 46) = w10 at *
              clear A1 c0 c1 c2 HB3 CQ CX HIS HNEW HNXT HLST HVL HZ HD HL P8 P9 HTT HJ R8 B8 B9 hbig hmb hkb L8 L10 M10 B3 hjl
              rcases g1 : (zst == 4)
              · have HLE := 0
                go_big_quiet (fail)
                go_wp2_with fail
                go_roundw
                case rel => first | exact ⟨q + 1, by go_num, rfl, by omega, below_drewN N10.out _, below_drewN M10'.out _⟩ | exact ⟨_, _, _, _, ⟨q + 1, by go_num, rfl, by omega, below_drewN N10.out _, below_drewN M10'.out _⟩, rfl, rfl, rfl, rfl⟩ | exact ⟨_, _, _, _, ⟨q + 1, by go_num, rfl, by omega⟩, rfl, rfl, rfl, rfl⟩
                case measure => simp [intOf]; omega
              · have hst : zst = 4 := by simpa using g1
                have HLE2 := HLE hst
                clear HLE hst
                rcases hsc : sk.contains (q : Int)
                · have HSC := Lib.hid hsc
                  rcases g2 : decide (v < (zl : Int) / 16)
                  · have HLE := 0
                    have g3 : ¬ v < (zl : Int) / 16 := of_decide_eq_false g2
                    clear hsc HLE2
                    have J1 := Lib.hid (fun N => in_same (HR.out.below (below_drewN N10.out N)) (q : Int))
                    rw [HSC.out] at J1
                    go_big_quiet ((go_at_call 17; exact Calls.quiet_of_same (J1.out _)))
                    go_wp2_with fail
                    go_roundw
                    case rel => first | exact ⟨q + 1, by go_num, rfl, by omega, below_drewN N10.out _, below_drewN M10'.out _⟩ | exact ⟨_, _, _, _, ⟨q + 1, by go_num, rfl, by omega, below_drewN N10.out _, below_drewN M10'.out _⟩, rfl, rfl, rfl, rfl⟩ | exact ⟨_, _, _, _, ⟨q + 1, by go_num, rfl, by omega⟩, rfl, rfl, rfl, rfl⟩
                    case measure => simp [intOf]; omega
                  · have g3 : v < (zl : Int) / 16 := of_decide_eq_true g2
                    have hle := HLE2 (by omega) hsc
                    have g4 : ¬ v < v0 := by omega
                    have g5 : decide (v < v0) = false := decide_eq_false g4
                    clear hsc HLE2 hle
                    have J1 := Lib.hid (fun N => in_same (HR.out.below (below_drewN N10.out N)) (q : Int))
                    rw [HSC.out] at J1
                    go_big_quiet ((go_at_call 17; exact Calls.quiet_of_same (J1.out _)))
                    go_wp2_with fail
                    go_roundw
                    case rel => first | exact ⟨q + 1, by go_num, rfl, by omega, below_drewN N10.out _, below_drewN M10'.out _⟩ | exact ⟨_, _, _, _, ⟨q + 1, by go_num, rfl, by omega, below_drewN N10.out _, below_drewN M10'.out _⟩, rfl, rfl, rfl, rfl⟩ | exact ⟨_, _, _, _, ⟨q + 1, by go_num, rfl, by omega⟩, rfl, rfl, rfl, rfl⟩
                    case measure => simp [intOf]; omega
                · have HSC := Lib.hid hsc
                  clear hsc HLE2
                  have J1 := Lib.hid (fun N => in_same (HR.out.below (below_drewN N10.out N)) (q : Int))
                  rw [HSC.out] at J1
                  go_big_quiet ((go_at_call 17; exact Calls.quiet_of_same (J1.out _)))
                  go_wp2_with fail
                  go_roundw
                  case rel => first | exact ⟨q + 1, by go_num, rfl, by omega, below_drewN N10.out _, below_drewN M10'.out _⟩ | exact ⟨_, _, _, _, ⟨q + 1, by go_num, rfl, by omega, below_drewN N10.out _, below_drewN M10'.out _⟩, rfl, rfl, rfl, rfl⟩ | exact ⟨_, _, _, _, ⟨q + 1, by go_num, rfl, by omega⟩, rfl, rfl, rfl, rfl⟩
                  case measure => simp [intOf]; omega
            · go_wp2_with fail
              go_ret
              exact ⟨rfl, L10.out⟩
end Liv
end Go.Proofs.Ytnnphpfobdcmbaa
