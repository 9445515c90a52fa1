/-
  THE STATEMENT LeaseOnce: no epoch is given twice; each thing is one host's at a time. For every input. (Written by gen_lealaws.py.)
-/
import Derived.Test.YtehknenlifdchaaLeaLoop
namespace Go.Proofs.Ytehknenlifdchaa
open Go.ChangeShapes Go.WideShapes Go.ChangeAt Go.RowKit Mem
namespace Lea

theorem body_once {t : Tv} {o : Ov} (he : (bodyP t o).2.2 = 0) : t.now ≤ (bodyP t o).1.now ∧
    ((o.d = 1 ∧ heldB t.l o.a = false ∧ (bodyP t o).1.last = t.last + 1 ∧ ∃ til, (bodyP t o).2.1 = [⟨o.a, o.b, t.last + 1, til⟩]) ∨ (o.d ≠ 1 ∧ (bodyP t o).1.last = t.last)) := by
  rcases body_cases t o with ⟨h0, h1, h2, h3⟩ | ⟨h0, h1, h2, h3⟩ | ⟨h0, h1, h3⟩ | ⟨h0, h1, h3⟩ | ⟨_, h0, -, -, h1, -⟩ | ⟨h1, -⟩
  · rw [h3]; exact ⟨h2, .inr ⟨by omega, rfl⟩⟩
  · rw [h3]; exact ⟨Int.le_refl _, .inl ⟨h0, h2, rfl, t.now + o.c, rfl⟩⟩
  · rw [h3]; exact ⟨Int.le_refl _, .inr ⟨by omega, rfl⟩⟩
  · rw [h3]; exact ⟨Int.le_refl _, .inr ⟨by omega, rfl⟩⟩
  · rw [h1]; exact ⟨Int.le_refl _, .inr ⟨h0, rfl⟩⟩
  · exact absurd he h1
theorem RowS.first {w : World} {A : Option Addr} {n c : Nat} {x : Lv} (h : RowL w A n c [x]) : ∃ b o, A = some ⟨b, o, none⟩ ∧ w.cell? ⟨b, o, none⟩ = some (.int .i64 x.key) ∧ w.cell? ⟨b, o + 1, none⟩ = some (.int .i64 x.host) ∧ w.cell? ⟨b, o + 2, none⟩ = some (.int .i64 x.epoch) ∧ w.cell? ⟨b, o + 3, none⟩ = some (.int .i64 x.til) := by
  obtain ⟨b, o, e, c0, c1, c2, c3⟩ := RowS.lease_at h (i := 0) rfl
  simp only [Nat.zero_mul, Nat.add_zero] at c0 c1 c2 c3
  exact ⟨b, o, e, c0, c1, c2, c3⟩

set_option maxRecDepth 100000 in
set_option maxHeartbeats 51200000 in
theorem leaseOnce_walk {w : World} {L : Option Addr} {m lc : Nat} {os : List Ov} (hL : RowS cellsO 5 w L m lc os) :
    Calls Try.prog 4 #[.slice L m lc] w fun e w' => e = .returned (.bool true) ∧ Below w.heap.size w w' := by
  have HL := Lib.hid hL
  have hbigm := hL.big
  have HF := fun w => Lib.hid (few_any (last := 0) (now := 0) (A := none) (n := 0) (c := 0) (B := L) (m := m) (d := lc) w (by omega) hbigm)
  clear hL
  go_enter Try.func4, Try.ntmps4
  go_upto_region 1 with fail
  go_wp2_with fail
  refine (live_any w).mono ?_
  rintro e w2 ⟨rfl, hb⟩
  have L2 := Lib.hid hb
  clear hb
  rcases hf : fewB 0 m 0 0
  · have hF := HF w2
    rw [hf] at hF
    go_wp2_with fail
    refine hF.out.mono ?_
    rintro e w3 ⟨rfl, hb⟩
    have L3 := Lib.hid (L2.out.trans (hb.mono L2.out.size))
    clear hb
    go_wp2_with fail
    go_ret
    exact ⟨rfl, L3.out⟩
  have hF := HF w2
  rw [hf] at hF
  have hm : m ≤ 100 := by unfold fewB at hf; simp only [Bool.and_eq_true, decide_eq_true_eq] at hf; omega
  clear hf
  go_wp2_with fail
  refine hF.out.mono ?_
  rintro e w3 ⟨rfl, hb⟩
  have L3 := Lib.hid (L2.out.trans (hb.mono L2.out.size))
  have I4 : Hid (TI w (w3.alloc (.cells #[.int .i64 0, .int .i64 0, .slice none 0 0] 24)) w3.heap.size ⟨0, 0, []⟩ none 0 0) := ⟨L3.out.alloc L3.out.size _, Cells.new _ _ _, RowS.nil _ _ _, ⟨by simp, by simp, by simp⟩, L3.out.size⟩
  have K4 : Hid (okT ⟨0, 0, []⟩ = true) := by show _ = _; rfl
  clear hb L2 HF hF
  go_upto_region 5 with fail
  generalize w3.alloc (.cells #[.int .i64 0, .int .i64 0, .slice none 0 0] 24) = w4 at *
  generalize w3.heap.size = gt at *
  go_wp2_with fail
  go_loopg [5, 22] (m + 1) (fun gk s i wr => ∃ (j : Nat) (la no : Int) (tl : List Lv) (B : Option Addr) (d : Nat), gk = m + 1 - j ∧ i = .int .i64 j ∧ s = .int .i64 la ∧ j ≤ m ∧ Hid (TI w wr gt ⟨la, no, tl⟩ B d j) ∧ Hid (okT ⟨la, no, tl⟩ = true))
  case atStart => exact ⟨0, 0, 0, [], none, 0, rfl, rfl, rfl, by omega, I4.out, K4.out⟩
  case round =>
    obtain ⟨j, la, no, tl, B, d, hgk, rfl, rfl, hj, hI, hOK⟩ := hrel
    clear I4 K4 L3
    by_cases hlt : j < m
    · obtain ⟨o, ho⟩ := RowS.get HL.out hlt
      obtain ⟨b, q, rfl, c0, c1, c2, c3, c4⟩ := RowS.op_at (RowS.below HL.out hI.out.below) ho
      have hk0 : (0 : Int) ≤ (j : Int) := by omega
      have hkn : (j : Int) < (m : Int) := by omega
      have I6 : Hid (TI w (wr.alloc (.cells #[.int .i64 o.d, .int .i64 o.a, .int .i64 o.b, .int .i64 o.c, .int .i64 o.e] 30)) gt ⟨la, no, tl⟩ B d j) := hI.out.to ((Below.refl _ wr).alloc (Nat.le_refl _) _)
      have O6 : Hid (OBox (wr.alloc (.cells #[.int .i64 o.d, .int .i64 o.a, .int .i64 o.b, .int .i64 o.c, .int .i64 o.e] 30)) wr.heap.size o) := Cells.new wr _ _
      clear ho hI
      go_upto_region 9 with fail
      clear c0 c1 c2 c3 c4
      generalize wr.alloc (.cells #[.int .i64 o.d, .int .i64 o.a, .int .i64 o.b, .int .i64 o.c, .int .i64 o.e] 30) = w6 at *
      generalize wr.heap.size = go at *
      obtain ⟨o0, o1, o2, o3, o4⟩ := OBox.cells O6.out
      rcases hs : (o.d == 0 && decide (1152921504606846976 < o.a))
      case true =>
        have e0 : (o.d == 0) = true := by simp only [Bool.and_eq_true] at hs; exact hs.1
        have e1 : decide (1152921504606846976 < o.a) = true := by simp only [Bool.and_eq_true] at hs; exact hs.2
        go_wp2_with fail
        go_ret
        exact ⟨rfl, I6.out.below⟩
      have HDA : Hid (o.d = 0 → o.a ≤ 1152921504606846976) := by
        show _ → _
        intro hd
        have : (o.d == 0) = true := by simpa using hd
        rw [this, Bool.true_and] at hs
        have := of_decide_eq_false hs
        omega
      go_cut [33] (fun s wx => s = .bool false ∧ wx = w6)
      case first =>
        rcases e0 : (o.d == 0)
        · go_wp2_with fail
          go_meet
          exact ⟨rfl, rfl⟩
        · have e1 : decide (1152921504606846976 < o.a) = false := by rw [e0, Bool.true_and] at hs; exact hs
          go_wp2_with fail
          go_meet
          exact ⟨rfl, rfl⟩
      case rest =>
        obtain ⟨rfl, hwc⟩ := hcut
        subst wc
        clear o0 o1 o2 o3 o4 hs
        have hbd := I6.out.bd
        have htl := hbd.len
        simp only at htl
        have HB := fun w (h : RowL w B tl.length d tl) => Lib.hid (body_any (last := la) (now := no) o h (by omega) (fun hok => I6.out.bd.wrapl (by omega) hok) (fun hok ht => I6.out.bd.wrapt hok ht))
        have HH := fun w (h : RowL w B tl.length d tl) => Lib.hid (refHolder_any (last := la) (now := no) o.a h (by omega))
        have hlens := body_lens ⟨la, no, tl⟩ o
        have hbdn := fun he => body_bd hbd HDA.out he
        have hokn := fun he => body_ok (o := o) hOK.out he
        have honce := fun he => body_once (t := ⟨la, no, tl⟩) (o := o) he
        rcases hP : bodyP ⟨la, no, tl⟩ o with ⟨⟨lu, nu, ul⟩, xl, er⟩
        rw [hP] at HB hlens hbdn hokn honce
        simp only at hlens hbdn hokn honce
        have HBN := Lib.hid hbdn
        have HKN := Lib.hid hokn
        have HON := Lib.hid honce
        have hul : ul.length ≤ 1000 := by have := hlens.1; omega
        clear hP hlens hbdn hokn honce htl hbd
        go_upto_region 11 with fail
        obtain ⟨m0, m1, m2⟩ := TBox.cells I6.out.box
        obtain ⟨o0, o1, o2, o3, o4⟩ := OBox.cells O6.out
        go_wp2_with fail
        refine (HB w6 I6.out.row).out.mono ?_
        rintro e w9 ⟨AU, cu, XA, xa, rfl, hU, hX, hb⟩
        simp only at hU
        have b9 : Below w6.heap.size w6 (w9.alloc (.cells #[.int .i64 lu, .int .i64 nu, .slice AU ul.length cu] 24)) := hb.alloc hb.size _
        have I10 := Lib.hid (I6.out.to b9)
        have O10 := Lib.hid (Cells.below O6.out b9)
        have U10 : Hid (TBox (w9.alloc (.cells #[.int .i64 lu, .int .i64 nu, .slice AU ul.length cu] 24)) w9.heap.size lu nu AU ul.length cu) := Cells.new _ _ _
        have RU10 : Hid (RowL (w9.alloc (.cells #[.int .i64 lu, .int .i64 nu, .slice AU ul.length cu] 24)) AU ul.length cu ul) := RowS.alloc hU _
        have RX10 : Hid (RowL (w9.alloc (.cells #[.int .i64 lu, .int .i64 nu, .slice AU ul.length cu] 24)) XA xl.length xa xl) := RowS.alloc hX _
        clear hb b9 hU hX I6 O6 m0 m1 m2 o0 o1 o2 o3 o4 HB
        go_upto_region 12 with fail
        generalize (w9.alloc (.cells #[.int .i64 lu, .int .i64 nu, .slice AU ul.length cu] 24)) = w10 at *
        generalize w9.heap.size = gu at *
        rcases ee : (er == 0)
        · have ee' : (er != 0) = true := by rw [bne, ee]; rfl
          go_wp2_with fail
          go_roundg (m - j)
          case measure => omega
          case rel => exact ⟨j + 1, la, no, tl, B, d, by omega, by go_num, rfl, by omega, I10.out.up, hOK.out⟩
        have he0 : er = 0 := by simpa using ee
        subst he0
        have hok2 := HKN.out rfl
        obtain ⟨hno, honce⟩ := HON.out rfl
        have hnn : decide (nu < no) = false := decide_eq_false (by omega)
        have BDN := Lib.hid (HBN.out rfl)
        have HCU := fun w (h : RowL w AU ul.length cu ul) => Lib.hid (refCheck_any (last := lu) (now := nu) h (by omega))
        rw [hok2] at HCU
        unfold errOf at HCU
        simp only [cond_true] at HCU
        have HK2 := Lib.hid hok2
        clear hok2 hno HKN HON HBN ee
        rcases honce with ⟨hd1, hheld, hlu, til, hxl⟩ | ⟨hd1, hlu⟩
        · have e1 : (o.d == 1) = true := by simpa using hd1
          subst hxl
          simp only [List.length_cons, List.length_nil, Nat.zero_add] at RX10
          obtain ⟨xb, xo, rfl, x0, x1, x2, -⟩ := RowS.first RX10.out
          simp only at x0 x1 x2
          rw [← hlu] at x2
          have hle : decide (lu ≤ la) = false := decide_eq_false (by omega)
          have hHH : holdP ⟨la, no, tl⟩ o.a = (zL, false) := by unfold holdP; simp only; rw [hheld, Bool.and_false]; rfl
          rw [hHH] at HH
          simp only [zL] at HH
          obtain ⟨o0, o1, o2, o3, o4⟩ := OBox.cells O10.out
          clear hHH hheld hd1
          simp only [List.length_cons, List.length_nil, Nat.zero_add]
          go_upto_region 14 with fail
          refine wp_region_held_drew (S := fun W => W.cell? ⟨xb, xo, none⟩ = some (.int .i64 o.a) ∧ W.cell? ⟨xb, xo + 1, none⟩ = some (.int .i64 o.b) ∧ W.cell? ⟨xb, xo + 2, none⟩ = some (.int .i64 lu) ∧ W.cell? ⟨go, 1, none⟩ = some (.int .i64 o.a) ∧ W.cell? ⟨go, 2, none⟩ = some (.int .i64 o.b))
            (by kernel_rfl) ⟨x0, x1, x2, o1, o2⟩ (fun hHeld => ?_)
          have b11 : Below w10.heap.size w10 w10.drew := (Below.refl _ w10).drew
          have I11 := Lib.hid (I10.out.to b11)
          have O11 := Lib.hid (Cells.below O10.out b11)
          have U11 := Lib.hid (Cells.below U10.out b11)
          have RU11 := Lib.hid (RowS.below RU10.out b11)
          have HLU := Lib.hid hlu
          have RX11 := Lib.hid (RowS.below RX10.out b11)
          clear I10 O10 U10 RU10 RX10 b11 x0 x1 x2 o0 o1 o2 o3 o4 hlu
          generalize w10.drew = w11 at *
          (first | (refine Reg.take 0 (v := ?_) rfl (by kernel_rfl) (by kernel_rfl) (by kernel_rfl) (fun _ _ _ h => h) (Or.inl ⟨by rfl, ?_⟩) (by assumption) ?_; rotate_left; (focus ((intro W hSW); (try dsimp only at hSW); (try go_split_ands); go_simp; (try (with_reducible rfl)); done))) | (refine Reg.take 0 (v := undef) rfl (by kernel_rfl) (by kernel_rfl) (by kernel_rfl) (fun _ _ _ h => h) (Or.inr ⟨by rfl, rfl⟩) (by assumption) ?_))
          (try simp only [Act.put, List.setIfInBounds_toArray, List.set_cons_zero, List.set_cons_succ])
          (first | (refine Reg.take 1 (v := ?_) rfl (by kernel_rfl) (by kernel_rfl) (by kernel_rfl) (fun _ _ _ h => h) (Or.inl ⟨by rfl, ?_⟩) (by assumption) ?_; rotate_left; (focus ((intro W hSW); (try dsimp only at hSW); (try go_split_ands); go_simp; (try (with_reducible rfl)); done))) | (refine Reg.take 1 (v := undef) rfl (by kernel_rfl) (by kernel_rfl) (by kernel_rfl) (fun _ _ _ h => h) (Or.inr ⟨by rfl, rfl⟩) (by assumption) ?_))
          (try simp only [Act.put, List.setIfInBounds_toArray, List.set_cons_zero, List.set_cons_succ])
          (first | (refine Reg.take 2 (v := ?_) rfl (by kernel_rfl) (by kernel_rfl) (by kernel_rfl) (fun _ _ _ h => h) (Or.inl ⟨by rfl, ?_⟩) (by assumption) ?_; rotate_left; (focus ((intro W hSW); (try dsimp only at hSW); (try go_split_ands); go_simp; (try (with_reducible rfl)); done))) | (refine Reg.take 2 (v := undef) rfl (by kernel_rfl) (by kernel_rfl) (by kernel_rfl) (fun _ _ _ h => h) (Or.inr ⟨by rfl, rfl⟩) (by assumption) ?_))
          (try simp only [Act.put, List.setIfInBounds_toArray, List.set_cons_zero, List.set_cons_succ])
          (first | (refine Reg.take 3 (v := ?_) rfl (by kernel_rfl) (by kernel_rfl) (by kernel_rfl) (fun _ _ _ h => h) (Or.inl ⟨by rfl, ?_⟩) (by assumption) ?_; rotate_left; (focus ((intro W hSW); (try dsimp only at hSW); (try go_split_ands); go_simp; (try (with_reducible rfl)); done))) | (refine Reg.take 3 (v := undef) rfl (by kernel_rfl) (by kernel_rfl) (by kernel_rfl) (fun _ _ _ h => h) (Or.inr ⟨by rfl, rfl⟩) (by assumption) ?_))
          (try simp only [Act.put, List.setIfInBounds_toArray, List.set_cons_zero, List.set_cons_succ])
          (first | (refine Reg.take 4 (v := ?_) rfl (by kernel_rfl) (by kernel_rfl) (by kernel_rfl) (fun _ _ _ h => h) (Or.inl ⟨by rfl, ?_⟩) (by assumption) ?_; rotate_left; (focus ((intro W hSW); (try dsimp only at hSW); (try go_split_ands); go_simp; (try (with_reducible rfl)); done))) | (refine Reg.take 4 (v := undef) rfl (by kernel_rfl) (by kernel_rfl) (by kernel_rfl) (fun _ _ _ h => h) (Or.inr ⟨by rfl, rfl⟩) (by assumption) ?_))
          (try simp only [Act.put, List.setIfInBounds_toArray, List.set_cons_zero, List.set_cons_succ])
          (first | (refine Reg.take 5 (v := ?_) rfl (by kernel_rfl) (by kernel_rfl) (by kernel_rfl) (fun _ _ _ h => h) (Or.inl ⟨by rfl, ?_⟩) (by assumption) ?_; rotate_left; (focus ((intro W hSW); (try dsimp only at hSW); (try go_split_ands); go_simp; (try (with_reducible rfl)); done))) | (refine Reg.take 5 (v := undef) rfl (by kernel_rfl) (by kernel_rfl) (by kernel_rfl) (fun _ _ _ h => h) (Or.inr ⟨by rfl, rfl⟩) (by assumption) ?_))
          (try simp only [Act.put, List.setIfInBounds_toArray, List.set_cons_zero, List.set_cons_succ])
          (first | (refine Reg.take 6 (v := ?_) rfl (by kernel_rfl) (by kernel_rfl) (by kernel_rfl) (fun _ _ _ h => h) (Or.inl ⟨by rfl, ?_⟩) (by assumption) ?_; rotate_left; (focus ((intro W hSW); (try dsimp only at hSW); (try go_split_ands); go_simp; (try (with_reducible rfl)); done))) | (refine Reg.take 6 (v := undef) rfl (by kernel_rfl) (by kernel_rfl) (by kernel_rfl) (fun _ _ _ h => h) (Or.inr ⟨by rfl, rfl⟩) (by assumption) ?_))
          (try simp only [Act.put, List.setIfInBounds_toArray, List.set_cons_zero, List.set_cons_succ])
          (first | (refine Reg.take 7 (v := ?_) rfl (by kernel_rfl) (by kernel_rfl) (by kernel_rfl) (fun _ _ _ h => h) (Or.inl ⟨by rfl, ?_⟩) (by assumption) ?_; rotate_left; (focus ((intro W hSW); (try dsimp only at hSW); (try go_split_ands); go_simp; (try (with_reducible rfl)); done))) | (refine Reg.take 7 (v := undef) rfl (by kernel_rfl) (by kernel_rfl) (by kernel_rfl) (fun _ _ _ h => h) (Or.inr ⟨by rfl, rfl⟩) (by assumption) ?_))
          (try simp only [Act.put, List.setIfInBounds_toArray, List.set_cons_zero, List.set_cons_succ])
          (first | (refine Reg.take 8 (v := ?_) rfl (by kernel_rfl) (by kernel_rfl) (by kernel_rfl) (fun _ _ _ h => h) (Or.inl ⟨by rfl, ?_⟩) (by assumption) ?_; rotate_left; (focus ((intro W hSW); (try dsimp only at hSW); (try go_split_ands); go_simp; (try (with_reducible rfl)); done))) | (refine Reg.take 8 (v := undef) rfl (by kernel_rfl) (by kernel_rfl) (by kernel_rfl) (fun _ _ _ h => h) (Or.inr ⟨by rfl, rfl⟩) (by assumption) ?_))
          (try simp only [Act.put, List.setIfInBounds_toArray, List.set_cons_zero, List.set_cons_succ])
          (first | (refine Reg.take 9 (v := ?_) rfl (by kernel_rfl) (by kernel_rfl) (by kernel_rfl) (fun _ _ _ h => h) (Or.inl ⟨by rfl, ?_⟩) (by assumption) ?_; rotate_left; (focus ((intro W hSW); (try dsimp only at hSW); (try go_split_ands); go_simp; (try (with_reducible rfl)); done))) | (refine Reg.take 9 (v := undef) rfl (by kernel_rfl) (by kernel_rfl) (by kernel_rfl) (fun _ _ _ h => h) (Or.inr ⟨by rfl, rfl⟩) (by assumption) ?_))
          (try simp only [Act.put, List.setIfInBounds_toArray, List.set_cons_zero, List.set_cons_succ])
          (first | (refine Reg.take 10 (v := ?_) rfl (by kernel_rfl) (by kernel_rfl) (by kernel_rfl) (fun _ _ _ h => h) (Or.inl ⟨by rfl, ?_⟩) (by assumption) ?_; rotate_left; (focus ((intro W hSW); (try dsimp only at hSW); (try go_split_ands); go_simp; (try (with_reducible rfl)); done))) | (refine Reg.take 10 (v := undef) rfl (by kernel_rfl) (by kernel_rfl) (by kernel_rfl) (fun _ _ _ h => h) (Or.inr ⟨by rfl, rfl⟩) (by assumption) ?_))
          (try simp only [Act.put, List.setIfInBounds_toArray, List.set_cons_zero, List.set_cons_succ])
          (first | (refine Reg.take 11 (v := ?_) rfl (by kernel_rfl) (by kernel_rfl) (by kernel_rfl) (fun _ _ _ h => h) (Or.inl ⟨by rfl, ?_⟩) (by assumption) ?_; rotate_left; (focus ((intro W hSW); (try dsimp only at hSW); (try go_split_ands); go_simp; (try (with_reducible rfl)); done))) | (refine Reg.take 11 (v := undef) rfl (by kernel_rfl) (by kernel_rfl) (by kernel_rfl) (fun _ _ _ h => h) (Or.inr ⟨by rfl, rfl⟩) (by assumption) ?_))
          (try simp only [Act.put, List.setIfInBounds_toArray, List.set_cons_zero, List.set_cons_succ])
          (first | (refine Reg.take 12 (v := ?_) rfl (by kernel_rfl) (by kernel_rfl) (by kernel_rfl) (fun _ _ _ h => h) (Or.inl ⟨by rfl, ?_⟩) (by assumption) ?_; rotate_left; (focus ((intro W hSW); (try dsimp only at hSW); (try go_split_ands); go_simp; (try (with_reducible rfl)); done))) | (refine Reg.take 12 (v := undef) rfl (by kernel_rfl) (by kernel_rfl) (by kernel_rfl) (fun _ _ _ h => h) (Or.inr ⟨by rfl, rfl⟩) (by assumption) ?_))
          (try simp only [Act.put, List.setIfInBounds_toArray, List.set_cons_zero, List.set_cons_succ])
          (first | (refine Reg.take 13 (v := ?_) rfl (by kernel_rfl) (by kernel_rfl) (by kernel_rfl) (fun _ _ _ h => h) (Or.inl ⟨by rfl, ?_⟩) (by assumption) ?_; rotate_left; (focus ((intro W hSW); (try dsimp only at hSW); (try go_split_ands); go_simp; (try (with_reducible rfl)); done))) | (refine Reg.take 13 (v := undef) rfl (by kernel_rfl) (by kernel_rfl) (by kernel_rfl) (fun _ _ _ h => h) (Or.inr ⟨by rfl, rfl⟩) (by assumption) ?_))
          (try simp only [Act.put, List.setIfInBounds_toArray, List.set_cons_zero, List.set_cons_succ])
          (first | (refine Reg.take 14 (v := ?_) rfl (by kernel_rfl) (by kernel_rfl) (by kernel_rfl) (fun _ _ _ h => h) (Or.inl ⟨by rfl, ?_⟩) (by assumption) ?_; rotate_left; (focus ((intro W hSW); (try dsimp only at hSW); (try go_split_ands); go_simp; (try (with_reducible rfl)); done))) | (refine Reg.take 14 (v := undef) rfl (by kernel_rfl) (by kernel_rfl) (by kernel_rfl) (fun _ _ _ h => h) (Or.inr ⟨by rfl, rfl⟩) (by assumption) ?_))
          (try simp only [Act.put, List.setIfInBounds_toArray, List.set_cons_zero, List.set_cons_succ])
          (first | (refine Reg.take 15 (v := ?_) rfl (by kernel_rfl) (by kernel_rfl) (by kernel_rfl) (fun _ _ _ h => h) (Or.inl ⟨by rfl, ?_⟩) (by assumption) ?_; rotate_left; (focus ((intro W hSW); (try dsimp only at hSW); (try go_split_ands); go_simp; (try (with_reducible rfl)); done))) | (refine Reg.take 15 (v := undef) rfl (by kernel_rfl) (by kernel_rfl) (by kernel_rfl) (fun _ _ _ h => h) (Or.inr ⟨by rfl, rfl⟩) (by assumption) ?_))
          (try simp only [Act.put, List.setIfInBounds_toArray, List.set_cons_zero, List.set_cons_succ])
          (first | (refine Reg.take 16 (v := ?_) rfl (by kernel_rfl) (by kernel_rfl) (by kernel_rfl) (fun _ _ _ h => h) (Or.inl ⟨by rfl, ?_⟩) (by assumption) ?_; rotate_left; (focus ((intro W hSW); (try dsimp only at hSW); (try go_split_ands); go_simp; (try (with_reducible rfl)); done))) | (refine Reg.take 16 (v := undef) rfl (by kernel_rfl) (by kernel_rfl) (by kernel_rfl) (fun _ _ _ h => h) (Or.inr ⟨by rfl, rfl⟩) (by assumption) ?_))
          (try simp only [Act.put, List.setIfInBounds_toArray, List.set_cons_zero, List.set_cons_succ])
          (first | (refine Reg.take 17 (v := ?_) rfl (by kernel_rfl) (by kernel_rfl) (by kernel_rfl) (fun _ _ _ h => h) (Or.inl ⟨by rfl, ?_⟩) (by assumption) ?_; rotate_left; (focus ((intro W hSW); (try dsimp only at hSW); (try go_split_ands); go_simp; (try (with_reducible rfl)); done))) | (refine Reg.take 17 (v := undef) rfl (by kernel_rfl) (by kernel_rfl) (by kernel_rfl) (fun _ _ _ h => h) (Or.inr ⟨by rfl, rfl⟩) (by assumption) ?_))
          (try simp only [Act.put, List.setIfInBounds_toArray, List.set_cons_zero, List.set_cons_succ])
          (first | (refine Reg.take 18 (v := ?_) rfl (by kernel_rfl) (by kernel_rfl) (by kernel_rfl) (fun _ _ _ h => h) (Or.inl ⟨by rfl, ?_⟩) (by assumption) ?_; rotate_left; (focus ((intro W hSW); (try dsimp only at hSW); (try go_split_ands); go_simp; (try (with_reducible rfl)); done))) | (refine Reg.take 18 (v := undef) rfl (by kernel_rfl) (by kernel_rfl) (by kernel_rfl) (fun _ _ _ h => h) (Or.inr ⟨by rfl, rfl⟩) (by assumption) ?_))
          (try simp only [Act.put, List.setIfInBounds_toArray, List.set_cons_zero, List.set_cons_succ])
          (first | (refine Reg.take 19 (v := ?_) rfl (by kernel_rfl) (by kernel_rfl) (by kernel_rfl) (fun _ _ _ h => h) (Or.inl ⟨by rfl, ?_⟩) (by assumption) ?_; rotate_left; (focus ((intro W hSW); (try dsimp only at hSW); (try go_split_ands); go_simp; (try (with_reducible rfl)); done))) | (refine Reg.take 19 (v := undef) rfl (by kernel_rfl) (by kernel_rfl) (by kernel_rfl) (fun _ _ _ h => h) (Or.inr ⟨by rfl, rfl⟩) (by assumption) ?_))
          (try simp only [Act.put, List.setIfInBounds_toArray, List.set_cons_zero, List.set_cons_succ])
          (first | (refine Reg.take 20 (v := ?_) rfl (by kernel_rfl) (by kernel_rfl) (by kernel_rfl) (fun _ _ _ h => h) (Or.inl ⟨by rfl, ?_⟩) (by assumption) ?_; rotate_left; (focus ((intro W hSW); (try dsimp only at hSW); (try go_split_ands); go_simp; (try (with_reducible rfl)); done))) | (refine Reg.take 20 (v := undef) rfl (by kernel_rfl) (by kernel_rfl) (by kernel_rfl) (fun _ _ _ h => h) (Or.inr ⟨by rfl, rfl⟩) (by assumption) ?_))
          (try simp only [Act.put, List.setIfInBounds_toArray, List.set_cons_zero, List.set_cons_succ])
          (first | (refine Reg.take 21 (v := ?_) rfl (by kernel_rfl) (by kernel_rfl) (by kernel_rfl) (fun _ _ _ h => h) (Or.inl ⟨by rfl, ?_⟩) (by assumption) ?_; rotate_left; (focus ((intro W hSW); (try dsimp only at hSW); (try go_split_ands); go_simp; (try (with_reducible rfl)); done))) | (refine Reg.take 21 (v := undef) rfl (by kernel_rfl) (by kernel_rfl) (by kernel_rfl) (fun _ _ _ h => h) (Or.inr ⟨by rfl, rfl⟩) (by assumption) ?_))
          (try simp only [Act.put, List.setIfInBounds_toArray, List.set_cons_zero, List.set_cons_succ])
          (first | (refine Reg.take 22 (v := ?_) rfl (by kernel_rfl) (by kernel_rfl) (by kernel_rfl) (fun _ _ _ h => h) (Or.inl ⟨by rfl, ?_⟩) (by assumption) ?_; rotate_left; (focus ((intro W hSW); (try dsimp only at hSW); (try go_split_ands); go_simp; (try (with_reducible rfl)); done))) | (refine Reg.take 22 (v := undef) rfl (by kernel_rfl) (by kernel_rfl) (by kernel_rfl) (fun _ _ _ h => h) (Or.inr ⟨by rfl, rfl⟩) (by assumption) ?_))
          (try simp only [Act.put, List.setIfInBounds_toArray, List.set_cons_zero, List.set_cons_succ])
          (first | (refine Reg.take 23 (v := ?_) rfl (by kernel_rfl) (by kernel_rfl) (by kernel_rfl) (fun _ _ _ h => h) (Or.inl ⟨by rfl, ?_⟩) (by assumption) ?_; rotate_left; (focus ((intro W hSW); (try dsimp only at hSW); (try go_split_ands); go_simp; (try (with_reducible rfl)); done))) | (refine Reg.take 23 (v := undef) rfl (by kernel_rfl) (by kernel_rfl) (by kernel_rfl) (fun _ _ _ h => h) (Or.inr ⟨by rfl, rfl⟩) (by assumption) ?_))
          (try simp only [Act.put, List.setIfInBounds_toArray, List.set_cons_zero, List.set_cons_succ])
          (first | (refine Reg.take 24 (v := ?_) rfl (by kernel_rfl) (by kernel_rfl) (by kernel_rfl) (fun _ _ _ h => h) (Or.inl ⟨by rfl, ?_⟩) (by assumption) ?_; rotate_left; (focus ((intro W hSW); (try dsimp only at hSW); (try go_split_ands); go_simp; (try (with_reducible rfl)); done))) | (refine Reg.take 24 (v := undef) rfl (by kernel_rfl) (by kernel_rfl) (by kernel_rfl) (fun _ _ _ h => h) (Or.inr ⟨by rfl, rfl⟩) (by assumption) ?_))
          (try simp only [Act.put, List.setIfInBounds_toArray, List.set_cons_zero, List.set_cons_succ])
          (first | (refine Reg.take 25 (v := ?_) rfl (by kernel_rfl) (by kernel_rfl) (by kernel_rfl) (fun _ _ _ h => h) (Or.inl ⟨by rfl, ?_⟩) (by assumption) ?_; rotate_left; (focus ((intro W hSW); (try dsimp only at hSW); (try go_split_ands); go_simp; (try (with_reducible rfl)); done))) | (refine Reg.take 25 (v := undef) rfl (by kernel_rfl) (by kernel_rfl) (by kernel_rfl) (fun _ _ _ h => h) (Or.inr ⟨by rfl, rfl⟩) (by assumption) ?_))
          (try simp only [Act.put, List.setIfInBounds_toArray, List.set_cons_zero, List.set_cons_succ])
          (first | (refine Reg.take 26 (v := ?_) rfl (by kernel_rfl) (by kernel_rfl) (by kernel_rfl) (fun _ _ _ h => h) (Or.inl ⟨by rfl, ?_⟩) (by assumption) ?_; rotate_left; (focus ((intro W hSW); (try dsimp only at hSW); (try go_split_ands); go_simp; (try (with_reducible rfl)); done))) | (refine Reg.take 26 (v := undef) rfl (by kernel_rfl) (by kernel_rfl) (by kernel_rfl) (fun _ _ _ h => h) (Or.inr ⟨by rfl, rfl⟩) (by assumption) ?_))
          (try simp only [Act.put, List.setIfInBounds_toArray, List.set_cons_zero, List.set_cons_succ])
          (first | (refine Reg.take 27 (v := ?_) rfl (by kernel_rfl) (by kernel_rfl) (by kernel_rfl) (fun _ _ _ h => h) (Or.inl ⟨by rfl, ?_⟩) (by assumption) ?_; rotate_left; (focus ((intro W hSW); (try dsimp only at hSW); (try go_split_ands); go_simp; (try (with_reducible rfl)); done))) | (refine Reg.take 27 (v := undef) rfl (by kernel_rfl) (by kernel_rfl) (by kernel_rfl) (fun _ _ _ h => h) (Or.inr ⟨by rfl, rfl⟩) (by assumption) ?_))
          (try simp only [Act.put, List.setIfInBounds_toArray, List.set_cons_zero, List.set_cons_succ])
          (first | (refine Reg.take 28 (v := ?_) rfl (by kernel_rfl) (by kernel_rfl) (by kernel_rfl) (fun _ _ _ h => h) (Or.inl ⟨by rfl, ?_⟩) (by assumption) ?_; rotate_left; (focus ((intro W hSW); (try dsimp only at hSW); (try go_split_ands); go_simp; (try (with_reducible rfl)); done))) | (refine Reg.take 28 (v := undef) rfl (by kernel_rfl) (by kernel_rfl) (by kernel_rfl) (fun _ _ _ h => h) (Or.inr ⟨by rfl, rfl⟩) (by assumption) ?_))
          (try simp only [Act.put, List.setIfInBounds_toArray, List.set_cons_zero, List.set_cons_succ])
          refine wpAnyH_done (by kernel_rfl) ?_ _
          clear hHeld
          obtain ⟨o0, o1, o2, o3, o4⟩ := OBox.cells O11.out
          obtain ⟨m0, m1, m2⟩ := TBox.cells I11.out.box
          go_wp2_with fail
          refine (HH w11 I11.out.row).out.mono ?_
          rintro e w12 ⟨rfl, hb⟩
          have b13 : Below w11.heap.size w11 (w12.alloc (.cells #[.int .i64 0, .int .i64 0, .int .i64 0, .int .i64 0] 43)) := hb.alloc hb.size _
          have I13 := Lib.hid (I11.out.to b13)
          have U13 := Lib.hid (Cells.below U11.out b13)
          have RU13 := Lib.hid (RowS.below RU11.out b13)
          have RX13 := Lib.hid (RowS.below RX11.out b13)
          obtain ⟨xb', xo', he', -, -, x2, -⟩ := RowS.first RX13.out
          injection he' with he'
          injection he' with hx1 hx2
          subst hx1 hx2
          simp only at x2
          rw [← HLU.out] at x2
          have X13 := Lib.hid x2
          clear hb b13 I11 O11 U11 RU11 RX11 RX13 x2 m0 m1 m2 o0 o1 o2 o3 o4
          go_upto_region 17 with fail
          generalize (w12.alloc (.cells #[.int .i64 0, .int .i64 0, .int .i64 0, .int .i64 0] 43)) = w13 at *
          have x2 := X13.out
          obtain ⟨m0, m1, m2⟩ := TBox.cells I13.out.box
          obtain ⟨q0, q1, q2⟩ := TBox.cells U13.out
          go_wp2_with fail
          refine (HCU w13 RU13.out).out.mono ?_
          rintro e w20 ⟨rfl, hb⟩
          have I20 := Lib.hid (I13.out.to hb)
          have U20 := Lib.hid (Cells.below U13.out hb)
          have RU20 := Lib.hid (RowS.below RU13.out hb)
          clear hb m0 m1 m2 q0 q1 q2
          have I21 : Hid (TI w (((w20.setCell ⟨gt, 0, none⟩ (.int .i64 lu)).setCell ⟨gt, 1, none⟩ (.int .i64 nu)).setCell ⟨gt, 2, none⟩ (.slice AU ul.length cu)) gt ⟨lu, nu, ul⟩ AU cu (j + 1)) := TI.store (t' := ⟨lu, nu, ul⟩) I20.out RU20.out BDN.out
          obtain ⟨m0, m1, m2⟩ := TBox.cells I20.out.box
          obtain ⟨f0, f1, f2⟩ := TBox.frozen I20.out.box
          obtain ⟨q0, q1, q2⟩ := TBox.cells U20.out
          clear I20 U20 RU20
          go_wp2_with fail
          go_roundg (m - j)
          case measure => omega
          case rel => exact ⟨j + 1, lu, nu, ul, AU, cu, by omega, by go_num, rfl, by omega, I21.out, HK2.out⟩
        · have e1 : (o.d == 1) = false := by simpa using hd1
          subst hlu
          obtain ⟨o0, o1, o2, o3, o4⟩ := OBox.cells O10.out
          obtain ⟨m0, m1, m2⟩ := TBox.cells I10.out.box
          obtain ⟨q0, q1, q2⟩ := TBox.cells U10.out
          go_wp2_with fail
          refine (HCU w10 RU10.out).out.mono ?_
          rintro e w20 ⟨rfl, hb⟩
          have I20 := Lib.hid (I10.out.to hb)
          have U20 := Lib.hid (Cells.below U10.out hb)
          have RU20 := Lib.hid (RowS.below RU10.out hb)
          clear hb m0 m1 m2 q0 q1 q2
          have I21 : Hid (TI w (((w20.setCell ⟨gt, 0, none⟩ (.int .i64 lu)).setCell ⟨gt, 1, none⟩ (.int .i64 nu)).setCell ⟨gt, 2, none⟩ (.slice AU ul.length cu)) gt ⟨lu, nu, ul⟩ AU cu (j + 1)) := TI.store (t' := ⟨lu, nu, ul⟩) I20.out RU20.out BDN.out
          obtain ⟨m0, m1, m2⟩ := TBox.cells I20.out.box
          obtain ⟨f0, f1, f2⟩ := TBox.frozen I20.out.box
          obtain ⟨q0, q1, q2⟩ := TBox.cells U20.out
          clear I20 U20 RU20
          go_wp2_with fail
          go_roundg (m - j)
          case measure => omega
          case rel => exact ⟨j + 1, lu, nu, ul, AU, cu, by omega, by go_num, rfl, by omega, I21.out, HK2.out⟩
    · obtain rfl : j = m := by omega
      go_wp2_with fail
      go_ret
      exact ⟨rfl, hI.out.below⟩
end Lea
end Go.Proofs.Ytehknenlifdchaa
