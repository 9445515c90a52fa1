/-
  THE STATEMENT LeaseEnds: a lease ends at its time, or ahead of it by Revoke alone. For every input. (Written by gen_lealaws.py.)
-/
import Derived.Test.YtehknenlifdchaaLeaLoop
namespace Go.Proofs.Ytehknenlifdchaa
open Go.ChangeShapes Go.WideShapes Go.ChangeAt Go.RowKit Mem
namespace Lea

theorem ends_start {key : Int} (h : ¬ key < 0) : grantP ⟨0, 0, []⟩ key 1 50 = (⟨1, 0, [⟨key, 1, 1, 50⟩]⟩, ⟨key, 1, 1, 50⟩, 0) ∧ okT ⟨1, 0, [⟨key, 1, 1, 50⟩]⟩ = true ∧ findL [⟨key, 1, 1, 50⟩] key = some ⟨key, 1, 1, 50⟩ := by
  have hg : grantOk ⟨0, 0, []⟩ key 1 50 = true := by
    unfold grantOk
    rw [decide_eq_false h]
    rfl
  have h1 := okT_grant hg rfl
  refine ⟨?_, h1, ?_⟩
  · unfold grantP
    rw [hg]
    rfl
  · unfold findL
    simp
theorem hold_some {t : Tv} {key : Int} {x : Lv} (hok : okT t = true) (h : findL t.l key = some x) : holdP t key = (x, true) := by
  unfold holdP getL
  rw [hok, find_held, h]
  rfl
theorem hold_none {t : Tv} {key : Int} (h : heldB t.l key = false) : holdP t key = (zL, false) := by
  unfold holdP
  rw [h, Bool.and_false]
  rfl
/-- What becomes of a thing's lease. -/
theorem body_ends {t : Tv} {o : Ov} {key e : Int} {u : Int} (hok : okT t = true) (hf : findL t.l key = some ⟨key, 1, e, u⟩) (he : (bodyP t o).2.2 = 0) :
    (o.d = 0 ∧ u ≤ o.a ∧ heldB (bodyP t o).1.l key = false ∧ heldB (bodyP t o).2.1 key = true) ∨ (o.d = 3 ∧ o.a = key ∧ heldB (bodyP t o).1.l key = false) ∨
    (¬ (o.d = 0 ∧ u ≤ o.a) ∧ ¬ (o.d = 3 ∧ o.a = key) ∧ ∃ v, u ≤ v ∧ findL (bodyP t o).1.l key = some ⟨key, 1, e, v⟩) := by
  have hx := (find_some hf).1
  rcases body_cases t o with ⟨h0, h1, h2, h3⟩ | ⟨h0, h1, h2, h3⟩ | ⟨h0, h1, h3⟩ | ⟨h0, h1, h3⟩ | ⟨h4, h5, h6, h7, h1, -⟩ | ⟨h1, -⟩
  · rw [h3]
    by_cases hu : u ≤ o.a
    · refine .inl ⟨h0, hu, ?_, ?_⟩
      · rw [held_false]
        intro y hy hk
        simp only [List.mem_filter, Bool.not_eq_true', decide_eq_false_iff_not] at hy
        have := rises_inj (okT_rises hok) hy.1 hx hk
        rw [this] at hy
        exact hy.2 hu
      · exact held_iff.2 ⟨_, List.mem_filter.2 ⟨hx, by simpa using hu⟩, rfl⟩
    · refine .inr (.inr ⟨fun h => hu h.2, fun h => by omega, u, Int.le_refl _, ?_⟩)
      exact find_of (l := t.l.filter _) (x := ⟨key, 1, e, u⟩) (List.Pairwise.filter _ (okT_rises hok)) (List.mem_filter.2 ⟨hx, by simpa using hu⟩)
  · have hne : o.a ≠ key := by
      intro h
      rw [h, find_held, hf] at h2
      simp at h2
    rw [h3]
    exact .inr (.inr ⟨fun h => by omega, fun h => by omega, u, Int.le_refl _, (find_put_other (okT_rises hok) h2 rfl hne).trans hf⟩)
  · rw [h3]
    refine .inr (.inr ⟨fun h => by omega, fun h => by omega, ?_⟩)
    show ∃ v, u ≤ v ∧ findL (setK t.l o.a (longer t o.c)) key = some ⟨key, 1, e, v⟩
    rw [find_set (f := longer t o.c) (fun _ => rfl), hf]
    rcases hk : (key == o.a)
    · exact ⟨u, Int.le_refl _, by simp [hk]⟩
    · exact ⟨max u (t.now + o.c), by omega, by simp [hk, longer]⟩
  · rw [h3]
    by_cases hk : o.a = key
    · refine .inr (.inl ⟨h0, hk, ?_⟩)
      show heldB (butK t.l o.a) key = false
      rw [hk]
      exact find_but
    · exact .inr (.inr ⟨fun h => by omega, fun h => hk h.2, u, Int.le_refl _, (find_but_other hk).trans hf⟩)
  · rw [h1]
    exact .inr (.inr ⟨fun h => h4 h.1, fun h => h7 h.1, u, Int.le_refl _, hf⟩)
  · exact absurd he h1
theorem held_take {l : List Lv} {k : Nat} {x : Lv} (key : Int) (hx : l[k]? = some x) : heldB (l.take (k + 1)) key = (heldB (l.take k) key || x.key == key) := by
  rw [List.take_add_one, hx]
  unfold heldB
  rw [List.any_append]
  simp

set_option maxRecDepth 100000 in
set_option maxHeartbeats 51200000 in
theorem leaseEnds_walk {w : World} {L : Option Addr} {m lc : Nat} {os : List Ov} (key : Int) (hL : RowS cellsO 5 w L m lc os) :
    Calls Try.prog 5 #[.slice L m lc, .int .i64 key] w fun e w' => e = .returned (.bool true) ∧ Below w.heap.size w w' := by
  have HL := Lib.hid hL
  have hbigm := hL.big
  have HF := fun w => Lib.hid (few_any (last := 0) (now := 0) (A := none) (n := 0) (c := 0) (B := L) (m := m) (d := lc) w (by omega) hbigm)
  clear hL
  go_enter Try.func5, Try.ntmps5
  go_upto_region 1 with fail
  go_wp2_with fail
  refine (live_any w).mono ?_
  rintro e w2 ⟨rfl, hb⟩
  have L2 := Lib.hid hb
  clear hb
  rcases hf : fewB 0 m 0 0
  · have hF := HF w2
    rw [hf] at hF
    go_wp2_with fail
    refine hF.out.mono ?_
    rintro e w3 ⟨rfl, hb⟩
    have L3 := Lib.hid (L2.out.trans (hb.mono L2.out.size))
    clear hb
    go_wp2_with fail
    go_ret
    exact ⟨rfl, L3.out⟩
  have hF := HF w2
  rw [hf] at hF
  have hm : m ≤ 100 := by unfold fewB at hf; simp only [Bool.and_eq_true, decide_eq_true_eq] at hf; omega
  clear hf
  rcases ek : decide (key < 0)
  case true =>
    go_wp2_with fail
    refine hF.out.mono ?_
    rintro e w3 ⟨rfl, hb⟩
    have L3 := Lib.hid (L2.out.trans (hb.mono L2.out.size))
    clear hb
    go_wp2_with fail
    go_ret
    exact ⟨rfl, L3.out⟩
  obtain ⟨hs1, hs2, hs3⟩ := ends_start (of_decide_eq_false ek)
  have HG : ∀ w, Hid (Calls Try.prog 24 #[tv 0 0 none 0 0, .int .i64 key, .int .i64 1, .int .i64 50] w fun e w' => ∃ A c, e = .returned (.tuple #[tv 1 0 A 1 c, lv ⟨key, 1, 1, 50⟩, .int .i64 0]) ∧ RowL w' A 1 c [⟨key, 1, 1, 50⟩] ∧ Below w.heap.size w w') := by
    intro w
    have h := grant_any (last := 0) (now := 0) key 1 50 (RowS.nil cellsL 4 w) (by omega) (fun _ => by rw [IntKind.wrap_i64]; omega) (fun _ => by rw [IntKind.wrap_i64]; omega)
    rw [hs1] at h
    exact h
  have K2 := Lib.hid hs2
  have F2 := Lib.hid hs3
  clear hs1 hs2 hs3
  go_wp2_with fail
  refine hF.out.mono ?_
  rintro e w2' ⟨rfl, hb⟩
  have L3 := Lib.hid (L2.out.trans (hb.mono L2.out.size))
  clear hb L2 HF hF
  go_wp2_with fail
  refine (HG w2').out.mono ?_
  rintro e w3 ⟨A0, c0, rfl, hA, hb⟩
  have l3 := L3.out.trans (hb.mono L3.out.size)
  have I4 : Hid (TI w ((w3.alloc (.cells #[.int .i64 1, .int .i64 0, .slice A0 1 c0] 24)).alloc (.cells #[.int .i64 key, .int .i64 1, .int .i64 1, .int .i64 50] 43)) w3.heap.size ⟨1, 0, [⟨key, 1, 1, 50⟩]⟩ A0 c0 0) := ⟨(l3.alloc l3.size _).alloc (by have := l3.size; simp; omega) _, heap_alloc2_old w3 _ _, RowS.alloc (RowS.alloc hA _) _, ⟨by simp, by simp, by simp⟩, l3.size⟩
  have X4 : Hid (LBox ((w3.alloc (.cells #[.int .i64 1, .int .i64 0, .slice A0 1 c0] 24)).alloc (.cells #[.int .i64 key, .int .i64 1, .int .i64 1, .int .i64 50] 43)) (w3.heap.size + 1) ⟨key, 1, 1, 50⟩) := heap_alloc2_new w3 _ _
  clear hb hA l3 L3 HG ek
  go_upto_region 5 with fail
  generalize (w3.alloc (.cells #[.int .i64 1, .int .i64 0, .slice A0 1 c0] 24)).alloc (.cells #[.int .i64 key, .int .i64 1, .int .i64 1, .int .i64 50] 43) = w4 at *
  have hgt : w3.heap.size ≠ w3.heap.size + 1 := by omega
  generalize w3.heap.size + 1 = gx at *
  generalize w3.heap.size = gt at *
  obtain ⟨x0, x1, x2, x3⟩ := LBox.cells X4.out
  go_wp2_with fail
  clear x0 x1 x2 x3
  go_loopg [9, 43] (m + 1) (fun gk s i wr => ∃ (j : Nat) (la no : Int) (tl : List Lv) (B : Option Addr) (d : Nat) (un : Int), gk = m + 1 - j ∧ i = .int .i64 j ∧ s = .int .i64 un ∧ j ≤ m ∧ Hid (TI w wr gt ⟨la, no, tl⟩ B d j) ∧ Hid (LBox wr gx ⟨key, 1, 1, 50⟩) ∧ Hid (okT ⟨la, no, tl⟩ = true) ∧ Hid (findL tl key = some ⟨key, 1, 1, un⟩))
  case atStart => exact ⟨0, 1, 0, [⟨key, 1, 1, 50⟩], A0, c0, 50, rfl, rfl, rfl, by omega, I4.out, X4.out, K2.out, F2.out⟩
  case round =>
    obtain ⟨j, la, no, tl, B, d, un, hgk, rfl, rfl, hj, hI, hX, hOK, hFI⟩ := hrel
    clear I4 X4 K2 F2
    by_cases hlt : j < m
    · obtain ⟨o, ho⟩ := RowS.get HL.out hlt
      obtain ⟨b, q, rfl, c0, c1, c2, c3, c4⟩ := RowS.op_at (RowS.below HL.out hI.out.below) ho
      have hk0 : (0 : Int) ≤ (j : Int) := by omega
      have hkn : (j : Int) < (m : Int) := by omega
      have I6 : Hid (TI w (wr.alloc (.cells #[.int .i64 o.d, .int .i64 o.a, .int .i64 o.b, .int .i64 o.c, .int .i64 o.e] 30)) gt ⟨la, no, tl⟩ B d j) := hI.out.to ((Below.refl _ wr).alloc (Nat.le_refl _) _)
      have O6 : Hid (OBox (wr.alloc (.cells #[.int .i64 o.d, .int .i64 o.a, .int .i64 o.b, .int .i64 o.c, .int .i64 o.e] 30)) wr.heap.size o) := Cells.new wr _ _
      have X6 : Hid (LBox (wr.alloc (.cells #[.int .i64 o.d, .int .i64 o.a, .int .i64 o.b, .int .i64 o.c, .int .i64 o.e] 30)) gx ⟨key, 1, 1, 50⟩) := Cells.alloc hX.out _
      clear ho hI hX
      go_upto_region 11 with fail
      clear c0 c1 c2 c3 c4
      generalize wr.alloc (.cells #[.int .i64 o.d, .int .i64 o.a, .int .i64 o.b, .int .i64 o.c, .int .i64 o.e] 30) = w6 at *
      generalize wr.heap.size = go at *
      obtain ⟨o0, o1, o2, o3, o4⟩ := OBox.cells O6.out
      rcases hs : (o.d == 0 && decide (1152921504606846976 < o.a))
      case true =>
        have e0 : (o.d == 0) = true := by simp only [Bool.and_eq_true] at hs; exact hs.1
        have e1 : decide (1152921504606846976 < o.a) = true := by simp only [Bool.and_eq_true] at hs; exact hs.2
        go_wp2_with fail
        go_ret
        exact ⟨rfl, I6.out.below⟩
      have HDA : Hid (o.d = 0 → o.a ≤ 1152921504606846976) := by
        show _ → _
        intro hd
        have : (o.d == 0) = true := by simpa using hd
        rw [this, Bool.true_and] at hs
        have := of_decide_eq_false hs
        omega
      go_cut [54] (fun s wx => s = .bool false ∧ wx = w6)
      case first =>
        rcases e0 : (o.d == 0)
        · go_wp2_with fail
          go_meet
          exact ⟨rfl, rfl⟩
        · have e1 : decide (1152921504606846976 < o.a) = false := by rw [e0, Bool.true_and] at hs; exact hs
          go_wp2_with fail
          go_meet
          exact ⟨rfl, rfl⟩
      case rest =>
        obtain ⟨rfl, hwc⟩ := hcut
        subst wc
        clear o0 o1 o2 o3 o4 hs
        have hbd := I6.out.bd
        have htl := hbd.len
        simp only at htl
        have HB := fun w (h : RowL w B tl.length d tl) => Lib.hid (body_any (last := la) (now := no) o h (by omega) (fun hok => I6.out.bd.wrapl (by omega) hok) (fun hok ht => I6.out.bd.wrapt hok ht))
        have hlens := body_lens ⟨la, no, tl⟩ o
        have hbdn := fun he => body_bd hbd HDA.out he
        have hokn := fun he => body_ok (o := o) hOK.out he
        have hends := fun he => body_ends (t := ⟨la, no, tl⟩) (o := o) hOK.out hFI.out he
        rcases hP : bodyP ⟨la, no, tl⟩ o with ⟨⟨lu, nu, ul⟩, xl, er⟩
        rw [hP] at HB hlens hbdn hokn hends
        simp only at hlens hbdn hokn hends
        have HBN := Lib.hid hbdn
        have HKN := Lib.hid hokn
        have HEN := Lib.hid hends
        have hul : ul.length ≤ 1000 := by have := hlens.1; omega
        have hxl : xl.length ≤ 1000 := by have := hlens.2; omega
        clear hP hlens hbdn hokn hends htl hbd
        go_upto_region 13 with fail
        obtain ⟨m0, m1, m2⟩ := TBox.cells I6.out.box
        obtain ⟨o0, o1, o2, o3, o4⟩ := OBox.cells O6.out
        go_wp2_with fail
        refine (HB w6 I6.out.row).out.mono ?_
        rintro e w9 ⟨AU, cu, XA, xa, rfl, hU, hXX, hb⟩
        simp only at hU
        have b9 : Below w6.heap.size w6 (w9.alloc (.cells #[.int .i64 lu, .int .i64 nu, .slice AU ul.length cu] 24)) := hb.alloc hb.size _
        have I10 := Lib.hid (I6.out.to b9)
        have O10 := Lib.hid (Cells.below O6.out b9)
        have X10 := Lib.hid (Cells.below X6.out b9)
        have U10 : Hid (TBox (w9.alloc (.cells #[.int .i64 lu, .int .i64 nu, .slice AU ul.length cu] 24)) w9.heap.size lu nu AU ul.length cu) := Cells.new _ _ _
        have RU10 : Hid (RowL (w9.alloc (.cells #[.int .i64 lu, .int .i64 nu, .slice AU ul.length cu] 24)) AU ul.length cu ul) := RowS.alloc hU _
        have RX10 : Hid (RowL (w9.alloc (.cells #[.int .i64 lu, .int .i64 nu, .slice AU ul.length cu] 24)) XA xl.length xa xl) := RowS.alloc hXX _
        clear hb b9 hU hXX I6 O6 X6 m0 m1 m2 o0 o1 o2 o3 o4 HB
        go_upto_region 14 with fail
        generalize (w9.alloc (.cells #[.int .i64 lu, .int .i64 nu, .slice AU ul.length cu] 24)) = w10 at *
        generalize w9.heap.size = gu at *
        rcases ee : (er == 0)
        · have ee' : (er != 0) = true := by rw [bne, ee]; rfl
          go_wp2_with fail
          go_roundg (m - j)
          case measure => omega
          case rel => exact ⟨j + 1, la, no, tl, B, d, un, by omega, by go_num, rfl, by omega, I10.out.up, X10.out, hOK.out, hFI.out⟩
        have he0 : er = 0 := by simpa using ee
        subst he0
        have HK2 := Lib.hid (HKN.out rfl)
        have BDN := Lib.hid (HBN.out rfl)
        have hends := HEN.out rfl
        have HH := fun w (h : RowL w AU ul.length cu ul) => Lib.hid (holder_any (last := lu) (now := nu) key h (by omega))
        clear HKN HBN HEN ee
        rcases hends with ⟨hd, ha, hh, hxh⟩ | ⟨hd, ha, hh⟩ | ⟨hn1, hn2, v, hv, hfv⟩
        · rw [hold_none (t := ⟨lu, nu, ul⟩) hh] at HH
          simp only [zL] at HH
          have e0 : (o.d == 0) = true := by simpa using hd
          have e1 : decide (un ≤ o.a) = true := decide_eq_true ha
          have HXH := Lib.hid hxh
          clear hh hxh hd ha
          obtain ⟨q0, q1, q2⟩ := TBox.cells U10.out
          go_wp2_with fail
          refine (HH w10 RU10.out).out.mono ?_
          rintro e w11 ⟨rfl, hb⟩
          have b12 : Below w10.heap.size w10 (w11.alloc (.cells #[.int .i64 0, .int .i64 0, .int .i64 0, .int .i64 0] 43)) := hb.alloc hb.size _
          have I12 := Lib.hid (I10.out.to b12)
          have O12 := Lib.hid (Cells.below O10.out b12)
          have X12 := Lib.hid (Cells.below X10.out b12)
          have U12 := Lib.hid (Cells.below U10.out b12)
          have RU12 := Lib.hid (RowS.below RU10.out b12)
          have RX12 := Lib.hid (RowS.below RX10.out b12)
          have Y12 : Hid (LBox (w11.alloc (.cells #[.int .i64 0, .int .i64 0, .int .i64 0, .int .i64 0] 43)) w11.heap.size ⟨0, 0, 0, 0⟩) := Cells.new _ _ _
          clear hb b12 I10 O10 X10 U10 RU10 RX10 q0 q1 q2
          go_upto_region 16 with fail
          generalize (w11.alloc (.cells #[.int .i64 0, .int .i64 0, .int .i64 0, .int .i64 0] 43)) = w12 at *
          generalize w11.heap.size = gy at *
          obtain ⟨o0, o1, o2, o3, o4⟩ := OBox.cells O12.out
          go_wp2_with fail
          clear o0 o1 o2 o3 o4
          go_loopg [17, 83] (xl.length + 1) (fun gk2 s i wr => ∃ (y : Nat), gk2 = xl.length + 1 - y ∧ i = .int .i64 y ∧ s = .bool (heldB (xl.take y) key) ∧ y ≤ xl.length ∧ Hid (Below w12.heap.size w12 wr))
          case atStart => exact ⟨0, rfl, rfl, rfl, by omega, Below.refl _ _⟩
          case round =>
            obtain ⟨y, hgy, rfl, rfl, hy, hJ⟩ := hrel
            by_cases hlt2 : y < xl.length
            · obtain ⟨z, hz⟩ := RowS.get RX12.out hlt2
              obtain ⟨b', q', rfl, c0, c1, c2, c3⟩ := RowS.lease_at (RowS.below RX12.out hJ.out) hz
              have hy0 : (0 : Int) ≤ (y : Int) := by omega
              have hyn : (y : Int) < (xl.length : Int) := by omega
              have J2 : Hid (Below w12.heap.size w12 (wr.alloc (.cells #[.int .i64 z.key, .int .i64 z.host, .int .i64 z.epoch, .int .i64 z.til] 43))) := hJ.out.alloc hJ.out.size _
              have Z2 : Hid (LBox (wr.alloc (.cells #[.int .i64 z.key, .int .i64 z.host, .int .i64 z.epoch, .int .i64 z.til] 43)) wr.heap.size z) := Cells.new _ _ _
              have hnext := Lib.hid (held_take key hz)
              clear hz hJ
              go_upto_region 21 with fail
              clear c0 c1 c2 c3
              generalize wr.alloc (.cells #[.int .i64 z.key, .int .i64 z.host, .int .i64 z.epoch, .int .i64 z.til] 43) = wz at *
              generalize wr.heap.size = gz at *
              obtain ⟨z0, z1, z2, z3⟩ := LBox.cells Z2.out
              rcases hb0 : heldB (xl.take y) key
              · go_wp2_with fail
                go_roundg (xl.length - y)
                case measure => omega
                case rel => exact ⟨y + 1, by omega, by go_num, by rw [hnext.out, hb0, Bool.false_or], by omega, J2.out⟩
              · go_wp2_with fail
                go_roundg (xl.length - y)
                case measure => omega
                case rel => exact ⟨y + 1, by omega, by go_num, by rw [hnext.out, hb0, Bool.true_or], by omega, J2.out⟩
            · obtain rfl : y = xl.length := by omega
              have hall : heldB (xl.take xl.length) key = true := by rw [List.take_length]; exact HXH.out
              rw [hall]
              go_wp2_with fail
              (try rw [Exit.noGoto_ret])
              go_ret
              exact ⟨rfl, I12.out.below.trans (hJ.out.mono I12.out.below.size)⟩
        · rw [hold_none (t := ⟨lu, nu, ul⟩) hh] at HH
          simp only [zL] at HH
          have e0 : (o.d == 0) = false := by rw [hd]; rfl
          have e3 : (o.d == 3) = true := by simpa using hd
          have e4 : (o.a == key) = true := by simpa using ha
          clear hh hd ha
          obtain ⟨q0, q1, q2⟩ := TBox.cells U10.out
          go_wp2_with fail
          refine (HH w10 RU10.out).out.mono ?_
          rintro e w11 ⟨rfl, hb⟩
          have b12 : Below w10.heap.size w10 (w11.alloc (.cells #[.int .i64 0, .int .i64 0, .int .i64 0, .int .i64 0] 43)) := hb.alloc hb.size _
          have I12 := Lib.hid (I10.out.to b12)
          have O12 := Lib.hid (Cells.below O10.out b12)
          have X12 := Lib.hid (Cells.below X10.out b12)
          have U12 := Lib.hid (Cells.below U10.out b12)
          have RU12 := Lib.hid (RowS.below RU10.out b12)
          have RX12 := Lib.hid (RowS.below RX10.out b12)
          have Y12 : Hid (LBox (w11.alloc (.cells #[.int .i64 0, .int .i64 0, .int .i64 0, .int .i64 0] 43)) w11.heap.size ⟨0, 0, 0, 0⟩) := Cells.new _ _ _
          clear hb b12 I10 O10 X10 U10 RU10 RX10 q0 q1 q2
          go_upto_region 16 with fail
          generalize (w11.alloc (.cells #[.int .i64 0, .int .i64 0, .int .i64 0, .int .i64 0] 43)) = w12 at *
          generalize w11.heap.size = gy at *
          obtain ⟨o0, o1, o2, o3, o4⟩ := OBox.cells O12.out
          go_wp2_with fail
          go_ret
          exact ⟨rfl, I12.out.below⟩
        · rw [hold_some (t := ⟨lu, nu, ul⟩) HK2.out hfv] at HH
          simp only at HH
          have FV := Lib.hid hfv
          have hvl : decide (v < un) = false := decide_eq_false (by omega)
          have hA : (o.d == 0 && decide (un ≤ o.a)) = false := by
            rcases h : (o.d == 0 && decide (un ≤ o.a))
            · rfl
            · simp only [Bool.and_eq_true, decide_eq_true_eq, beq_iff_eq] at h; exact absurd h hn1
          have hB : (o.d == 3 && o.a == key) = false := by
            rcases h : (o.d == 3 && o.a == key)
            · rfl
            · simp only [Bool.and_eq_true, beq_iff_eq] at h; exact absurd h hn2
          clear hn1 hn2 hfv
          obtain ⟨q0, q1, q2⟩ := TBox.cells U10.out
          go_wp2_with fail
          refine (HH w10 RU10.out).out.mono ?_
          rintro e w11 ⟨rfl, hb⟩
          have b12 : Below w10.heap.size w10 (w11.alloc (.cells #[.int .i64 key, .int .i64 1, .int .i64 1, .int .i64 v] 43)) := hb.alloc hb.size _
          have I12 := Lib.hid (I10.out.to b12)
          have O12 := Lib.hid (Cells.below O10.out b12)
          have X12 := Lib.hid (Cells.below X10.out b12)
          have U12 := Lib.hid (Cells.below U10.out b12)
          have RU12 := Lib.hid (RowS.below RU10.out b12)
          have RX12 := Lib.hid (RowS.below RX10.out b12)
          have Y12 : Hid (LBox (w11.alloc (.cells #[.int .i64 key, .int .i64 1, .int .i64 1, .int .i64 v] 43)) w11.heap.size ⟨key, 1, 1, v⟩) := Cells.new _ _ _
          clear hb b12 I10 O10 X10 U10 RU10 RX10 q0 q1 q2
          go_upto_region 16 with fail
          generalize (w11.alloc (.cells #[.int .i64 key, .int .i64 1, .int .i64 1, .int .i64 v] 43)) = w12 at *
          generalize w11.heap.size = gy at *
          obtain ⟨o0, o1, o2, o3, o4⟩ := OBox.cells O12.out
          go_cut [71] (fun s wx => s = .bool false ∧ wx = w12)
          case first =>
            rcases e0 : (o.d == 0)
            · go_wp2_with fail
              go_meet
              exact ⟨rfl, rfl⟩
            · have e1 : decide (un ≤ o.a) = false := by rw [e0, Bool.true_and] at hA; exact hA
              go_wp2_with fail
              go_meet
              exact ⟨rfl, rfl⟩
          case rest =>
            obtain ⟨rfl, hwc⟩ := hcut
            subst wc
            go_upto_region 24 with fail
            go_cut [103] (fun s wx => s = .bool false ∧ wx = w12)
            case first =>
              rcases e3 : (o.d == 3)
              · go_wp2_with fail
                go_meet
                exact ⟨rfl, rfl⟩
              · have e4 : (o.a == key) = false := by rw [e3, Bool.true_and] at hB; exact hB
                go_wp2_with fail
                go_meet
                exact ⟨rfl, rfl⟩
            case rest =>
              obtain ⟨rfl, hwc⟩ := hcut
              subst wc
              clear o0 o1 o2 o3 o4 hA hB
              have I21 : Hid (TI w (((w12.setCell ⟨gt, 0, none⟩ (.int .i64 lu)).setCell ⟨gt, 1, none⟩ (.int .i64 nu)).setCell ⟨gt, 2, none⟩ (.slice AU ul.length cu)) gt ⟨lu, nu, ul⟩ AU cu (j + 1)) := TI.store (t' := ⟨lu, nu, ul⟩) I12.out RU12.out BDN.out
              have X21 : Hid (LBox (((w12.setCell ⟨gt, 0, none⟩ (.int .i64 lu)).setCell ⟨gt, 1, none⟩ (.int .i64 nu)).setCell ⟨gt, 2, none⟩ (.slice AU ul.length cu)) gx ⟨key, 1, 1, 50⟩) := Cells.other3 (g' := gt) X12.out hgt _ _ _
              obtain ⟨m0, m1, m2⟩ := TBox.cells I12.out.box
              obtain ⟨f0, f1, f2⟩ := TBox.frozen I12.out.box
              obtain ⟨q0, q1, q2⟩ := TBox.cells U12.out
              obtain ⟨x0, x1, x2, x3⟩ := LBox.cells (x := ⟨key, 1, 1, 50⟩) X12.out
              obtain ⟨y0, y1, y2, y3⟩ := LBox.cells (x := ⟨key, 1, 1, v⟩) Y12.out
              clear I12 U12 X12 Y12 RU12 RX12 O12
              go_wp2_with fail
              go_roundg (m - j)
              case measure => omega
              case rel => exact ⟨j + 1, lu, nu, ul, AU, cu, v, by omega, by go_num, rfl, by omega, I21.out, X21.out, HK2.out, FV.out⟩
    · obtain rfl : j = m := by omega
      go_wp2_with fail
      go_ret
      exact ⟨rfl, hI.out.below⟩
end Lea
end Go.Proofs.Ytehknenlifdchaa
