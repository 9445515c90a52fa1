/-
  THE LAW DedupApart: in plain, and its walk.
-/
import Derived.Test.YtndcflchdecofaaDedLaw
import Derived.Test.YtndcflchdecofaaDedArgs
namespace Go.Proofs.Ytndcflchdecofaa
open Go.RowKit Mem Box
namespace Ded
open Net (Mp Mx MAt mxv MBox)

theorem put_nil (f : Int) (a : Dp) : putP [] f a = [⟨f, 0, [a]⟩] := rfl
theorem ok_one {f : Int} (hf : 0 ≤ f) {a : Dp} (ha : 0 ≤ a.id) : okL [⟨f, 0, [a]⟩] = true := by
  refine (okL_iff _).2 ⟨?_, by simp, ?_⟩
  · intro s hs
    rw [List.mem_singleton.1 hs]
    exact hf
  · intro s hs
    rw [List.mem_singleton.1 hs]
    exact ⟨Int.le_refl _, by simp, by simpa using ha, by simp⟩
theorem new_nil {f : Int} (hf : 0 ≤ f) {a : Dp} (ha : 0 ≤ a.id) : NewAt [] f a := ⟨ok_nil, hf, by
  unfold askP
  rw [ok_nil, cond_true]
  show (tellS ⟨f, 0, []⟩ a.id).2 = 0
  rw [tell_new (s := ⟨f, 0, []⟩) (by simp) ha (by simp)]⟩
theorem ask_one {f : Int} (hf : 0 ≤ f) {a : Dp} (ha : 0 ≤ a.id) : askP [⟨f, 0, [a]⟩] f a.id = (a.m, 1) := by
  unfold askP
  rw [ok_one hf ha, cond_true, show ofP [⟨f, 0, [a]⟩] f = ⟨f, 0, [a]⟩ from ofP_mem (l := [⟨f, 0, [a]⟩]) (by simp) (s := ⟨f, 0, [a]⟩) (by simp)]
  exact tell_old (s := ⟨f, 0, [a]⟩) (by simp) (by simp) ha
/-- One alone is left. -/
theorem filter_one {α : Type} {key : α → Int} {l : List α} (h : (l.map key).Pairwise (· < ·)) {x : α} (hx : x ∈ l) (p : α → Bool) (hp : ∀ y ∈ l, p y = true ↔ key y = key x) : l.filter p = [x] := by
  induction l with
  | nil => cases hx
  | cons z l ih =>
    simp only [List.map_cons, List.pairwise_cons, List.mem_map, forall_exists_index, and_imp, forall_apply_eq_imp_iff₂] at h
    rcases List.mem_cons.1 hx with rfl | hx2
    · rw [List.filter_cons_of_pos ((hp x (by simp)).2 rfl)]
      have : l.filter p = [] := List.filter_eq_nil_iff.2 fun y hy e => by
        have h1 := (hp y (List.mem_cons_of_mem _ hy)).1 e
        have h2 := h.1 y hy
        omega
      rw [this]
    · rw [List.filter_cons_of_neg fun e => by
        have h1 := (hp z (by simp)).1 e
        have h2 := h.1 x hx2
        omega]
      exact ih h.2 hx2 (fun y hy => hp y (List.mem_cons_of_mem _ hy))
/-- These two alone asked. -/
def Two (one other : Int) (pl : List Sp) : Prop := ∀ s ∈ pl, s.f = one ∨ s.f = other
theorem Two.put {one other : Int} {pl : List Sp} (h : Two one other pl) {a : Dp} (hn : NewAt pl one a) : Two one other (putP pl one a) := fun s hs => by
  obtain ⟨-, h2, -⟩ := (okL_iff pl).1 hn.ok
  rcases (mem_put h2).1 hs with rfl | ⟨hs, -⟩
  · obtain ⟨hk, hf⟩ := ofP_ok hn.ok one
    exact .inl ((with_ok hk hn.of.1 hn.of.2).2.1.trans hf)
  · exact h s hs
theorem two_left {one other : Int} (hne : one ≠ other) {pl : List Sp} (hok : okL pl = true) (h : Two one other pl) {q : Mp} (ha : askP pl other 4 = (q, 1)) : (forgetP pl [one]).length = 1 := by
  obtain ⟨-, h2, -⟩ := (okL_iff pl).1 hok
  unfold askP at ha
  rw [hok, cond_true] at ha
  rcases ofP_cases h2 other with ⟨s, hs, hf, -⟩ | ⟨-, e⟩
  · unfold forgetP
    rw [hok, cond_true, filter_one h2 hs _ fun y hy => ?_]
    · rfl
    · rw [hf]
      simp only [List.contains_cons, List.contains_nil, Bool.or_false, Bool.not_eq_true', beq_eq_false_iff_ne, ne_eq]
      constructor
      · intro h1
        rcases h y hy with h3 | h3
        · exact absurd h3 h1
        · exact h3
      · intro h1 h3
        exact hne (h3.symm.trans h1)
  · rw [e, tell_new (s := ⟨other, 0, []⟩) (by simp) (by show (0 : Int) ≤ 4; omega) (by simp)] at ha
    cases ha

set_option maxRecDepth 100000 in
set_option maxHeartbeats 25600000 in
theorem apart_walk (A : Option Addr) (m c : Nat) (os : List Px) (one other : Int) (w : World) (h : RowS cellsP 4 w A m c os) (hfit : ∀ x ∈ os, x.fits) : Calls Try.prog 5 #[.slice A m c, .int .i64 one, .int .i64 other] w fun e w' => e = .returned (.bool true) ∧ Below w.heap.size w w' := by
  have HLV := Lib.hid (live_any w)
  have HR := Lib.hid h
  have HFT := Lib.hid hfit
  clear h hfit
  rcases e1 : decide ((100 : Int) < (m : Int))
  · rcases e2 : decide (one < 0)
    · rcases e3 : decide (other < 0)
      · rcases e4 : (one == other)
        · have hm1 : m ≤ 100 := by have := of_decide_eq_false e1; omega
          have HN1 : Hid (0 ≤ one) := by show _ ≤ _; have := of_decide_eq_false e2; omega
          have HN2 : Hid (0 ≤ other) := by show _ ≤ _; have := of_decide_eq_false e3; omega
          have HNE : Hid (one ≠ other) := by show _ ≠ _; simpa using e4
          go_enter Try.func5, Try.ntmps5
          go_upto_region 4 with (go_at_call 7; refine HLV.out.mono ?_; rintro e w1 ⟨rfl, hb⟩; have L1 := Lib.hid hb; clear hb HLV)
          have HD := Lib.hid (show Calls Try.prog 9 #[.slice none 0 0, .int .i64 other, .int .i64 4, .agg #[.int .i64 (77), .int .i64 0, .int .i64 0, .int .i64 0, .slice none 0 0, .slice none 0 0]] w1 _ from did_any (f := other) (i := 4) (x := kx 77) (Good.nil w1) (atk w1 (by omega) (by omega)) (by omega) (by omega))
          have HD2 : Hid (Calls Try.prog 9 #[.slice none 0 0, .int .i64 other, .int .i64 4, .agg #[.int .i64 (77), .int .i64 0, .int .i64 0, .int .i64 0, .slice none 0 0, .slice none 0 0]] w1 fun e w' => ∃ B n d l, e = .returned (.tuple #[.slice B n d, .int .i64 0]) ∧ Good w' B n d l 1 ∧ askP (l.map Sx.p) other 4 = (kp 77, 1) ∧ Two one other (l.map Sx.p) ∧ Below w1.heap.size w1 w') := HD.out.mono (by
            rintro e w' (⟨B, n, d, l', rfl, hg, hp, hn, -, hb⟩ | ⟨B, d, v, rfl, -, h3, -⟩)
            · rw [List.map_nil, put_nil] at hp
              refine ⟨B, n, d, l', rfl, hg, ?_, ?_, hb⟩
              · rw [hp]; exact ask_one HN2.out (a := ⟨4, kp 77⟩) (by show (0 : Int) ≤ 4; omega)
              · rw [hp]; exact fun s hs => by rw [List.mem_singleton.1 hs]; exact .inr rfl
            · exfalso
              have := (new_nil HN2.out (a := ⟨4, kp 77⟩) (by show (0 : Int) ≤ 4; omega)).new
              rcases h3 with h3 | h3 | h3
              · exact h3 this
              · have := HN2.out; omega
              · omega)
          clear HD
          go_upto_region 7 with (go_at_call 9; refine HD2.out.mono ?_; rintro e w2 ⟨B2, n2, d2, l2, rfl, hg, hq, ht, hb⟩; have L2 := Lib.hid (L1.out.trans (hb.mono L1.out.size)); have G2 := Lib.hid hg; have Q2 := Lib.hid hq; have S2 := Lib.hid ht; clear hb hg hq ht)
          clear L1 HD2
          go_wp2_with fail
          go_loopw [8, 11, 12, 13, 14, 15, 49] (fun s _ _ _ _ _ i wr => ∃ (k n d : Nat) (B : Option Addr) (l : List Sx), s = .slice B n d ∧ i = .int .i64 k ∧ k ≤ m ∧ Hid (Below w.heap.size w wr) ∧ Hid (Good wr B n d l (1 + k)) ∧ Hid (askP (l.map Sx.p) other 4 = (kp 77, 1)) ∧ Hid (Two one other (l.map Sx.p))) (fun _ _ _ _ _ _ i _ => m - (intOf i).toNat)
          case atStart => exact ⟨0, n2, d2, B2, l2, rfl, rfl, by omega, L2, G2, Q2, S2⟩
          case round =>
            obtain ⟨k, n, d, B, l, rfl, rfl, hk, L3, G3, Q3, S3⟩ := hrel
            by_cases hlt : k < m
            · obtain ⟨x, hx⟩ := HR.out.get hlt
              obtain ⟨b, o, hA, hc⟩ := ops_cells HR.out hx
              obtain ⟨c0, c1, c2, c3⟩ := hc _ L3.out
              have HFX := Lib.hid (HFT.out x (List.mem_of_getElem? hx))
              have hk0 : (0 : Int) ≤ (k : Int) := by omega
              have hkn : (k : Int) < (m : Int) := by omega
              subst hA
              clear hx hc
              go_upto_region 10 with fail
              have b4 : Below wr.heap.size wr (wr.alloc (.cells #[.int .i64 x.f, .int .i64 x.i, .int .i64 x.k, .bool x.g] 28)) := (Below.refl _ wr).alloc (Nat.le_refl _) _
              have L4 := Lib.hid (L3.out.trans (b4.mono L3.out.size))
              have G4 := Lib.hid (G3.out.below b4)
              have X4 : Hid (Cells (wr.alloc (.cells #[.int .i64 x.f, .int .i64 x.i, .int .i64 x.k, .bool x.g] 28)) wr.heap.size 28 _) := Cells.new _ _ _
              have y1 := Cells.cell X4.out 1
              have y2 := Cells.cell X4.out 2
              clear b4 L3 G3 c0 c1 c2 c3
              generalize wr.alloc (.cells #[.int .i64 x.f, .int .i64 x.i, .int .i64 x.k, .bool x.g] 28) = w4 at *
              generalize wr.heap.size = p4 at *
              rcases eb : decide ((1152921504606846976 : Int) < x.i)
              · have HXI : Hid (x.i ≤ 1152921504606846976) := by show _ ≤ _; have := of_decide_eq_false eb; omega
                have HD := Lib.hid (show Calls Try.prog 9 #[.slice B n d, .int .i64 one, .int .i64 x.i, .agg #[.int .i64 (x.k), .int .i64 0, .int .i64 0, .int .i64 0, .slice none 0 0, .slice none 0 0]] w4 _ from did_any (f := one) (i := x.i) (x := kx x.k) G4.out (atk w4 HFX.out.1.1 HFX.out.1.2) (by omega) HXI.out)
                go_upto_region 13 with (go_at_call 9; refine HD.out.mono ?_; rintro e w5 (⟨B5, n5, d5, l5, rfl, hg, hp, hn, -, hb⟩ | ⟨B5, d5, ve, rfl, hv0, -, hb⟩); rotate_left)
                · have L5 := Lib.hid (L4.out.trans (hb.mono L4.out.size))
                  have G5 := Lib.hid (G4.out.below hb)
                  have e0 : (ve == 0) = false := beq_eq_false_iff_ne.2 hv0
                  clear hb y1 y2 X4 L4 G4 HD
                  go_upto_region 15 with fail
                  have HA := Lib.hid (ask_st (f := other) (i := 4) G5.out Q3.out)
                  unfold kp at HA
                  go_upto_region 16 with (go_at_call 8; refine HA.out.mono ?_; rintro e w8 ⟨y, rfl, hb⟩; have L8 := Lib.hid (L5.out.trans (hb.mono L5.out.size)); have G8 := Lib.hid (G5.out.below hb); clear hb)
                  have b9 : Below w8.heap.size w8 (w8.alloc (.cells #[.int .i64 77, .int .i64 y.f, .int .i64 y.t, .int .i64 y.i, .slice y.A y.n y.c, .slice y.B y.m y.d] 33)) := (Below.refl _ w8).alloc (Nat.le_refl _) _
                  have L9 := Lib.hid (L8.out.trans (b9.mono L8.out.size))
                  have G9 := Lib.hid (G8.out.below b9)
                  have X9 : Hid (Cells (w8.alloc (.cells #[.int .i64 77, .int .i64 y.f, .int .i64 y.t, .int .i64 y.i, .slice y.A y.n y.c, .slice y.B y.m y.d] 33)) w8.heap.size 33 _) := Cells.new _ _ _
                  have m0 := Cells.cell X9.out 0
                  clear b9 L8 G8
                  generalize w8.alloc (.cells #[.int .i64 77, .int .i64 y.f, .int .i64 y.t, .int .i64 y.i, .slice y.A y.n y.c, .slice y.B y.m y.d] 33) = w9 at *
                  go_wp2_with fail
                  go_roundw
                  case rel => exact ⟨k + 1, n, d, B, l, rfl, by go_num, by omega, L9, Lib.hid (G9.out.mono (by omega)), Q3, S3⟩
                  case measure => simp [intOf]; omega
                · have L5 := Lib.hid (L4.out.trans (hb.mono L4.out.size))
                  have G5 := Lib.hid hg
                  have Q5 : Hid (askP (l5.map Sx.p) other 4 = (kp 77, 1)) := by
                    show _ = _
                    rw [hp, (ask_put hn other 4).1 (fun e => HNE.out e.symm)]
                    exact Q3.out
                  have S5 : Hid (Two one other (l5.map Sx.p)) := by show Two _ _ _; rw [hp]; exact S3.out.put hn
                  clear hb hg hp hn y1 y2 X4 L4 G4 HD
                  go_upto_region 15 with fail
                  have HA := Lib.hid (ask_st (f := other) (i := 4) G5.out Q5.out)
                  unfold kp at HA
                  go_upto_region 16 with (go_at_call 8; refine HA.out.mono ?_; rintro e w8 ⟨y, rfl, hb⟩; have L8 := Lib.hid (L5.out.trans (hb.mono L5.out.size)); have G8 := Lib.hid (G5.out.below hb); clear hb)
                  have b9 : Below w8.heap.size w8 (w8.alloc (.cells #[.int .i64 77, .int .i64 y.f, .int .i64 y.t, .int .i64 y.i, .slice y.A y.n y.c, .slice y.B y.m y.d] 33)) := (Below.refl _ w8).alloc (Nat.le_refl _) _
                  have L9 := Lib.hid (L8.out.trans (b9.mono L8.out.size))
                  have G9 := Lib.hid (G8.out.below b9)
                  have X9 : Hid (Cells (w8.alloc (.cells #[.int .i64 77, .int .i64 y.f, .int .i64 y.t, .int .i64 y.i, .slice y.A y.n y.c, .slice y.B y.m y.d] 33)) w8.heap.size 33 _) := Cells.new _ _ _
                  have m0 := Cells.cell X9.out 0
                  clear b9 L8 G8
                  generalize w8.alloc (.cells #[.int .i64 77, .int .i64 y.f, .int .i64 y.t, .int .i64 y.i, .slice y.A y.n y.c, .slice y.B y.m y.d] 33) = w9 at *
                  go_wp2_with fail
                  go_roundw
                  case rel => exact ⟨k + 1, n5, d5, B5, l5, rfl, by go_num, by omega, L9, Lib.hid (G9.out.mono (by omega)), Q5, S5⟩
                  case measure => simp [intOf]; omega
              · go_wp2_with fail
                go_ret
                exact ⟨rfl, L4.out⟩
            · go_upto_region 19 with fail
              have b6 : Below wr.heap.size wr (wr.alloc (.cells #[.int .i64 one] 3)) := (Below.refl _ wr).alloc (Nat.le_refl _) _
              have L6 := Lib.hid (L3.out.trans (b6.mono L3.out.size))
              have G6 := Lib.hid (G3.out.below b6)
              have R6 := Lib.hid (row_int wr one)
              have HFG := Lib.hid (forget_st G6.out R6.out (by omega) (by omega))
              have HFG2 : Hid (Calls Try.prog 11 #[.slice B n d, .slice (some ⟨wr.heap.size, 0, none⟩) 1 1] (wr.alloc (.cells #[.int .i64 one] 3)) fun en w' => ∃ B e l', en = .returned (.slice B 1 e) ∧ Good w' B 1 e l' (1 + k) ∧ askP (l'.map Sx.p) other 4 = (kp 77, 1) ∧ askP (l'.map Sx.p) one 0 = (Ded.m0, 0) ∧ Below (wr.alloc (.cells #[.int .i64 one] 3)).heap.size (wr.alloc (.cells #[.int .i64 one] 3)) w') := HFG.out.mono (by
                rintro en w' ⟨B, q, e, l', rfl, hg, hp, hb⟩
                have hq : q = 1 := by
                  have h1 := two_left HNE.out G6.out.ok S3.out Q3.out
                  rw [← hp, List.length_map, hg.at_.row.len] at h1
                  exact h1
                subst hq
                refine ⟨B, e, l', rfl, hg, ?_, ?_, hb⟩
                · rw [hp, ask_forget G6.out.ok, if_neg (by simpa using fun e => HNE.out e.symm)]; exact Q3.out
                · rw [hp, ask_forget G6.out.ok, if_pos (by simp)]; rfl)
              clear b6 L3 G3 HFG
              go_upto_region 20 with (go_at_call 11; refine HFG2.out.mono ?_; rintro e w7 ⟨B7, d7, l7, rfl, hg, hq1, hq2, hb⟩; have L7 := Lib.hid (L6.out.trans (hb.mono L6.out.size)); have G7 := Lib.hid hg; have G7' := Lib.hid (G6.out.below hb); have HA1 := Lib.hid hq1; have HA2 := Lib.hid hq2; clear hb hg hq1 hq2)
              have HK1 := Lib.hid (ask_st (f := other) (i := 4) G7.out HA1.out)
              unfold kp at HK1
              clear L6 G6 R6 HFG2
              generalize wr.heap.size = p6 at *
              go_upto_region 21 with (go_at_call 8; refine HK1.out.mono ?_; rintro e w8 ⟨y, rfl, hb⟩; have L8 := Lib.hid (L7.out.trans (hb.mono L7.out.size)); have G8 := Lib.hid (G7.out.below hb); have G8' := Lib.hid (G7'.out.below hb); clear hb)
              have b9 : Below w8.heap.size w8 (w8.alloc (.cells #[.int .i64 77, .int .i64 y.f, .int .i64 y.t, .int .i64 y.i, .slice y.A y.n y.c, .slice y.B y.m y.d] 33)) := (Below.refl _ w8).alloc (Nat.le_refl _) _
              have L9 := Lib.hid (L8.out.trans (b9.mono L8.out.size))
              have G9 := Lib.hid (G8.out.below b9)
              have G9' := Lib.hid (G8'.out.below b9)
              have X9 : Hid (Cells (w8.alloc (.cells #[.int .i64 77, .int .i64 y.f, .int .i64 y.t, .int .i64 y.i, .slice y.A y.n y.c, .slice y.B y.m y.d] 33)) w8.heap.size 33 _) := Cells.new _ _ _
              clear b9 L8 G8 G8' L7 G7 G7' HK1
              generalize w8.alloc (.cells #[.int .i64 77, .int .i64 y.f, .int .i64 y.t, .int .i64 y.i, .slice y.A y.n y.c, .slice y.B y.m y.d] 33) = w9 at *
              generalize w8.heap.size = p9 at *
              have HK2 := Lib.hid (ask_st (f := one) (i := 0) G9.out HA2.out)
              unfold Ded.m0 at HK2
              go_upto_region 22 with (go_at_call 8; refine HK2.out.mono ?_; rintro e w10 ⟨z, rfl, hb⟩; have LA := Lib.hid (L9.out.trans (hb.mono L9.out.size)); have GA := Lib.hid (G9'.out.below hb); have XA := Lib.hid (Cells.below X9.out hb); clear hb)
              have b11 : Below w10.heap.size w10 (w10.alloc (.cells #[.int .i64 0, .int .i64 z.f, .int .i64 z.t, .int .i64 z.i, .slice z.A z.n z.c, .slice z.B z.m z.d] 33)) := (Below.refl _ w10).alloc (Nat.le_refl _) _
              have LB := Lib.hid (LA.out.trans (b11.mono LA.out.size))
              have GB := Lib.hid (GA.out.below b11)
              have XB := Lib.hid (Cells.below XA.out b11)
              have m0 := Cells.cell XB.out 0
              have HCK := Lib.hid (check_any GB.out.at_)
              unfold errP at HCK
              rw [GB.out.ok] at HCK
              clear b11 LA GA XA X9 G9 G9' L9 HK2
              generalize w10.alloc (.cells #[.int .i64 0, .int .i64 z.f, .int .i64 z.t, .int .i64 z.i, .slice z.A z.n z.c, .slice z.B z.m z.d] 33) = w11 at *
              go_wp2_with (go_at_call 12; refine HCK.out.mono ?_; rintro e w12 ⟨rfl, hb⟩; have LC := Lib.hid (LB.out.trans (hb.mono LB.out.size)); clear hb)
              go_ret
              exact ⟨rfl, LC.out⟩
        · have hm2 : one = other := by simpa using e4
          go_enter Try.func5, Try.ntmps5
          go_wp2_with (go_at_call 7; refine HLV.out.mono ?_; rintro e w1 ⟨rfl, hb⟩; have L1 := Lib.hid hb; clear hb HLV)
          go_ret
          exact ⟨rfl, L1.out⟩
      · skip
        go_enter Try.func5, Try.ntmps5
        go_wp2_with (go_at_call 7; refine HLV.out.mono ?_; rintro e w1 ⟨rfl, hb⟩; have L1 := Lib.hid hb; clear hb HLV)
        go_ret
        exact ⟨rfl, L1.out⟩
    · skip
      go_enter Try.func5, Try.ntmps5
      go_wp2_with (go_at_call 7; refine HLV.out.mono ?_; rintro e w1 ⟨rfl, hb⟩; have L1 := Lib.hid hb; clear hb HLV)
      go_ret
      exact ⟨rfl, L1.out⟩
  · skip
    go_enter Try.func5, Try.ntmps5
    go_wp2_with (go_at_call 7; refine HLV.out.mono ?_; rintro e w1 ⟨rfl, hb⟩; have L1 := Lib.hid hb; clear hb HLV)
    go_ret
    exact ⟨rfl, L1.out⟩
end Ded
end Go.Proofs.Ytndcflchdecofaa
