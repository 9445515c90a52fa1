/-
  THE LAW DedupOnce: its walk.
-/
import Derived.Test.YtndcflchdecofaaDedOnceP
namespace Go.Proofs.Ytndcflchdecofaa
open Go.RowKit Mem Box GM
namespace Ded
open Net (Mp Mx MAt mxv MBox)

theorem PBox4 {w : World} {g : Nat} {x : Px} (h : Cells w g 28 #[.int .i64 x.f, .int .i64 x.i, .int .i64 x.k, .bool x.g]) : w.cell? ⟨g, 0, none⟩ = some (.int .i64 x.f) ∧ w.cell? ⟨g, 1, none⟩ = some (.int .i64 x.i) ∧ w.cell? ⟨g, 2, none⟩ = some (.int .i64 x.k) ∧ w.cell? ⟨g, 3, none⟩ = some (.bool x.g) := ⟨Cells.cell h 0, Cells.cell h 1, Cells.cell h 2, Cells.cell h 3⟩
theorem QBox2 {w : World} {g : Nat} {a b : Int} (h : Cells w g 29 #[.int .i64 a, .int .i64 b]) : w.cell? ⟨g, 0, none⟩ = some (.int .i64 a) ∧ w.cell? ⟨g, 1, none⟩ = some (.int .i64 b) := ⟨Cells.cell h 0, Cells.cell h 1⟩
set_option maxRecDepth 100000 in
set_option maxHeartbeats 51200000 in
theorem once_walk (A : Option Addr) (m c : Nat) (os : List Px) (w : World) (h : RowS cellsP 4 w A m c os) (hfit : ∀ x ∈ os, x.fits) : Calls Try.prog 3 #[.slice A m c] w fun e w' => e = .returned (.bool true) ∧ Below w.heap.size w w' := by
  have HLV := Lib.hid (live_any w)
  have HR := Lib.hid h
  have HFT := Lib.hid hfit
  clear h hfit
  rcases e1 : decide ((100 : Int) < (m : Int))
  · have hm1 : m ≤ 100 := by have := of_decide_eq_false e1; omega
    go_enter Try.func3, Try.ntmps3
    go_upto_region 5 with (go_at_call 7; refine HLV.out.mono ?_; rintro e w1 ⟨rfl, hb⟩; have L1 := Lib.hid hb; clear hb HLV)
    have hmm := @run_makeMap Try.prog
    go_upto_region 7 with fail
    clear hmm
    have b2 : Below w1.heap.size w1 ((w1.alloc (.map #[] 0)).alloc (.map #[] 0)) := ((Below.refl _ w1).alloc (Nat.le_refl _) _).alloc (by simp) _
    have L2 := Lib.hid (L1.out.trans (b2.mono L1.out.size))
    have D2 : Hid (MD ((w1.alloc (.map #[] 0)).alloc (.map #[] 0)) w1.heap.size []) := FMap.below (FMap.made mkP okP btI w1) ((Below.refl _ _).alloc (Nat.le_refl _) _)
    have E2 : Hid (MG ((w1.alloc (.map #[] 0)).alloc (.map #[] 0)) (w1.heap.size + 1) []) := by
      have := FMap.made mkP okP btB (w1.alloc (.map #[] 0))
      rw [World.size_alloc] at this
      exact this
    obtain ⟨r1, hr1⟩ : ∃ r, r = w1.heap.size := ⟨_, rfl⟩
    obtain ⟨r2, hr2⟩ : ∃ r, r = w1.heap.size + 1 := ⟨_, rfl⟩
    have HR1 : Hid (w.heap.size ≤ r1) := by show _ ≤ _; rw [hr1]; exact L1.out.size
    have HR2 : Hid (w.heap.size ≤ r2) := by show _ ≤ _; rw [hr2]; have := L1.out.size; omega
    have HRN : Hid (r1 ≠ r2) := by show _ ≠ _; omega
    rw [← hr1] at D2
    rw [← hr2] at E2
    rw [← hr2, ← hr1]
    clear b2 L1 hr1 hr2
    generalize (w1.alloc (.map #[] 0)).alloc (.map #[] 0) = w2 at *
    clear w1
    go_wp2_with fail
    go_loopw [4, 8, 9, 10, 11, 12, 13, 14, 15, 25] (fun s _ _ _ _ _ _ _ _ i wr => ∃ (k n d : Nat) (B : Option Addr) (l : List Sx) (ds : List (Key × Int)) (gs : List (Key × Bool)), s = .slice B n d ∧ i = .int .i64 k ∧ k ≤ m ∧ Hid (Below w.heap.size w wr) ∧ Hid (Good wr B n d l k) ∧ Hid (MD wr r1 ds) ∧ Hid (MG wr r2 gs) ∧ Hid (Inv (l.map Sx.p) ds gs)) (fun _ _ _ _ _ _ _ _ _ i _ => m - (intOf i).toNat)
    case atStart => exact ⟨0, 0, 0, none, [], [], [], rfl, rfl, by omega, L2, Lib.hid (Good.nil _), D2, E2, Lib.hid Inv.nil⟩
    case round =>
      obtain ⟨k, n, d, B, l, ds, gs, rfl, rfl, hk, L3, G3, D3, E3, I4⟩ := hrel
      by_cases hlt : k < m
      · obtain ⟨x, hx⟩ := HR.out.get hlt
        obtain ⟨b, o, hA, hc⟩ := ops_cells HR.out hx
        obtain ⟨c0, c1, c2, c3⟩ := hc _ L3.out
        have HFX := Lib.hid (HFT.out x (List.mem_of_getElem? hx))
        have hk0 : (0 : Int) ≤ (k : Int) := by omega
        have hkn : (k : Int) < (m : Int) := by omega
        subst hA
        clear hx hc
        go_upto_region 10 with fail
        have b4 : Below wr.heap.size wr (wr.alloc (.cells #[.int .i64 x.f, .int .i64 x.i, .int .i64 x.k, .bool x.g] 28)) := (Below.refl _ wr).alloc (Nat.le_refl _) _
        have L4 := Lib.hid (L3.out.trans (b4.mono L3.out.size))
        have G4 := Lib.hid (G3.out.below b4)
        have D4 := Lib.hid (D3.out.below b4)
        have E4 := Lib.hid (E3.out.below b4)
        have P4 : Hid (Cells (wr.alloc (.cells #[.int .i64 x.f, .int .i64 x.i, .int .i64 x.k, .bool x.g] 28)) wr.heap.size 28 #[.int .i64 x.f, .int .i64 x.i, .int .i64 x.k, .bool x.g]) := Cells.new _ _ _
        clear b4 L3 G3 D3 E3 c0 c1 c2 c3
        generalize wr.alloc (.cells #[.int .i64 x.f, .int .i64 x.i, .int .i64 x.k, .bool x.g] 28) = w4 at *
        generalize wr.heap.size = p4 at *
        obtain ⟨o0, o1, o2, o3⟩ := PBox4 P4.out
        rcases eg : x.g
        · rw [eg] at o3
          rcases ef : decide (x.f < 0)
          · rcases ei : decide (x.i < 0)
            · rcases eb : decide ((1152921504606846976 : Int) < x.i)
              · have HXI : Hid (x.i ≤ 1152921504606846976) := by show _ ≤ _; have := of_decide_eq_false eb; omega
                have HX0 : Hid (0 ≤ x.i) := by show _ ≤ _; have := of_decide_eq_false ei; omega
                have HXF : Hid (0 ≤ x.f) := by show _ ≤ _; have := of_decide_eq_false ef; omega
                have HKK : Hid (okP (x.f, x.i)) := HFX.out.2.2
                go_upto_region 12 with fail
                have b5 : Below w4.heap.size w4 (w4.alloc (.cells #[.int .i64 x.f, .int .i64 x.i] 29)) := (Below.refl _ w4).alloc (Nat.le_refl _) _
                have L5 := Lib.hid (L4.out.trans (b5.mono L4.out.size))
                have G5 := Lib.hid (G4.out.below b5)
                have D5 := Lib.hid (D4.out.below b5)
                have E5 := Lib.hid (E4.out.below b5)
                have P5 := Lib.hid (Cells.below P4.out b5)
                have Q5 : Hid (Cells (w4.alloc (.cells #[.int .i64 x.f, .int .i64 x.i] 29)) w4.heap.size 29 #[.int .i64 x.f, .int .i64 x.i]) := Cells.new _ _ _
                clear b5 L4 G4 D4 E4 P4 o0 o1 o2 o3
                generalize w4.alloc (.cells #[.int .i64 x.f, .int .i64 x.i] 29) = w5 at *
                generalize w4.heap.size = p5 at *
                obtain ⟨q, hq⟩ : ∃ q, q = askP (l.map Sx.p) x.f x.i := ⟨_, rfl⟩
                have HQ := Lib.hid hq
                rcases eq : goneB gs (x.f, x.i)
                · rcases ask_2 (l.map Sx.p) G5.out.ok x.f x.i with hs0 | hs0 | hs0
                  · have hs : 0 = q.2 := by rw [hq, hs0]
                    have HS : Hid ((askP (l.map Sx.p) x.f x.i).2 = 0) := hs0
                    have HNO := Lib.hid (I4.out.new x.f x.i HXF.out HX0.out hs0)
                    have HA := Lib.hid (ask_st (f := x.f) (i := x.i) (q := q.1) (v := 0) G5.out (by rw [← hq]; exact Prod.ext rfl hs.symm))
                    obtain ⟨o0, o1, o2, o3⟩ := PBox4 P5.out
                    clear hq hs
                    go_upto_region 13 with (go_at_call 8; refine HA.out.mono ?_; rintro e w6 ⟨y, rfl, hb⟩; have L6 := Lib.hid (L5.out.trans (hb.mono L5.out.size)); have G6 := Lib.hid (G5.out.below hb); have D6 := Lib.hid (D5.out.below hb); have E6 := Lib.hid (E5.out.below hb); have P6 := Lib.hid (Cells.below P5.out hb); have Q6 := Lib.hid (Cells.below Q5.out hb); clear hb)
                    have b7 : Below w6.heap.size w6 (w6.alloc (.cells #[.int .i64 q.1.k, .int .i64 y.f, .int .i64 y.t, .int .i64 y.i, .slice y.A y.n y.c, .slice y.B y.m y.d] 33)) := (Below.refl _ w6).alloc (Nat.le_refl _) _
                    have L7 := Lib.hid (L6.out.trans (b7.mono L6.out.size))
                    have G7 := Lib.hid (G6.out.below b7)
                    have D7 := Lib.hid (D6.out.below b7)
                    have E7 := Lib.hid (E6.out.below b7)
                    have P7 := Lib.hid (Cells.below P6.out b7)
                    have Q7 := Lib.hid (Cells.below Q6.out b7)
                    have Y7 : Hid (Cells (w6.alloc (.cells #[.int .i64 q.1.k, .int .i64 y.f, .int .i64 y.t, .int .i64 y.i, .slice y.A y.n y.c, .slice y.B y.m y.d] 33)) w6.heap.size 33 _) := Cells.new _ _ _
                    clear b7 L5 G5 D5 E5 P5 Q5 L6 G6 D6 E6 P6 Q6 HA o0 o1 o2 o3
                    generalize w6.alloc (.cells #[.int .i64 q.1.k, .int .i64 y.f, .int .i64 y.t, .int .i64 y.i, .slice y.A y.n y.c, .slice y.B y.m y.d] 33) = w7 at *
                    generalize w6.heap.size = p7 at *
                    have y0 := Cells.cell Y7.out 0
                    obtain ⟨u0, u1⟩ := QBox2 Q7.out
                    have hl1 := done_get D7.out HKK.out
                    have hl2 := gone_get E7.out HKK.out
                    rw [HNO.out] at hl1
                    rw [eq] at hl2
                    dsimp only [Option.map, Option.getD, Option.isSome] at hl1
                    go_upto_region 24 with (simp only [hl1, hl2])
                    obtain ⟨w8, hw8⟩ : ∃ W, W = w7 := ⟨_, rfl⟩
                    subst hw8
                    have L8 := L7
                    have G8 := G7
                    have D8 := D7
                    have E8 := E7
                    have P8 := P7
                    have Q8 := Q7
                    clear L7 G7 D7 E7 P7 Q7 Y7 y0 u0 u1 hl1 hl2
                    have HD := Lib.hid (show Calls Try.prog 9 #[.slice B n d, .int .i64 x.f, .int .i64 x.i, .agg #[.int .i64 (x.k), .int .i64 0, .int .i64 0, .int .i64 0, .slice none 0 0, .slice none 0 0]] w8 _ from did_any (f := x.f) (i := x.i) (x := kx x.k) G8.out (atk w8 HFX.out.1.1 HFX.out.1.2) (by omega) HXI.out)
                    obtain ⟨o0, o1, o2, o3⟩ := PBox4 P8.out
                    have HD2 : Hid (Calls Try.prog 9 #[.slice B n d, .int .i64 x.f, .int .i64 x.i, .agg #[.int .i64 (x.k), .int .i64 0, .int .i64 0, .int .i64 0, .slice none 0 0, .slice none 0 0]] w8 fun e w' => ∃ B n d l', e = .returned (.tuple #[.slice B n d, .int .i64 0]) ∧ Good w' B n d l' (k + 1) ∧ Inv (l'.map Sx.p) (setB ds (x.f, x.i) x.k) gs ∧ Below w8.heap.size w8 w') := HD.out.mono (by
                      rintro e w' (⟨B, n, d, l', rfl, hg, hp, hn, h0, hb⟩ | ⟨B, d, v, rfl, -, h3, -⟩)
                      · exact ⟨B, n, d, l', rfl, hg, by rw [hp]; exact I4.out.done G8.out.bi hn h0 HXI.out, hb⟩
                      · exfalso
                        rcases h3 with h3 | h3 | h3
                        · exact h3 HS.out
                        · have := HXF.out; omega
                        · have := HX0.out; omega)
                    clear HD
                    go_upto_region 25 with (go_at_call 9; refine HD2.out.mono ?_; rintro e w9 ⟨B9, n9, d9, l9, rfl, hg, hi9, hb⟩; have L9 := Lib.hid (L8.out.trans (hb.mono L8.out.size)); have G9 := Lib.hid hg; have I9 := Lib.hid hi9; have D9 := Lib.hid (D8.out.below hb); have E9 := Lib.hid (E8.out.below hb); have P9 := Lib.hid (Cells.below P8.out hb); have Q9 := Lib.hid (Cells.below Q8.out hb); clear hb hg hi9)
                    have HCK := Lib.hid (refCheck_any G9.out.at_ (fun u hu => by have := I9.out.bb u.p (List.mem_map.2 ⟨u, hu, rfl⟩); have h2 : u.p.b = u.b := rfl; omega))
                    unfold errP at HCK
                    rw [G9.out.ok] at HCK
                    clear o0 o1 o2 o3 L8 G8 D8 E8 P8 Q8 HD2
                    go_upto_region 28 with (go_at_call 10; refine HCK.out.mono ?_; rintro e w10 ⟨rfl, hb⟩; have LA := Lib.hid (L9.out.trans (hb.mono L9.out.size)); have GA := Lib.hid (G9.out.below hb); have DA := Lib.hid (D9.out.below hb); have EA := Lib.hid (E9.out.below hb); have PA := Lib.hid (Cells.below P9.out hb); have QA := Lib.hid (Cells.below Q9.out hb); clear hb)
                    obtain ⟨o0, o1, o2, o3⟩ := PBox4 PA.out
                    obtain ⟨u0, u1⟩ := QBox2 QA.out
                    obtain ⟨w11, hput, hD, hV, hz⟩ := done_put DA.out HKK.out x.k
                    have LB := Lib.hid (LA.out.trans (hV.up LA.out.size HR1.out))
                    have GB := Lib.hid (good_map GA.out DA.out hV)
                    have EB := Lib.hid (EA.out.mov hV (by simpa using fun e => HRN.out e.symm))
                    have DB := Lib.hid hD
                    clear hD hV hz L9 G9 D9 E9 P9 Q9 LA GA DA EA PA QA HCK
                    go_wp2_with (simp only [hput])
                    go_roundw
                    case rel => exact ⟨k + 1, n9, d9, B9, l9, setB ds (x.f, x.i) x.k, gs, rfl, by go_num, by omega, LB, GB, DB, EB, I9⟩
                    case measure => simp [intOf]; omega
                  · have hs : 1 = q.2 := by rw [hq, hs0]
                    have HS : Hid ((askP (l.map Sx.p) x.f x.i).2 ≠ 0) := by show _ ≠ _; rw [hs0]; decide
                    have HOLD := Lib.hid (I4.out.old x.f x.i HXF.out HX0.out hs0)
                    rw [← hq] at HOLD
                    have HA := Lib.hid (ask_st (f := x.f) (i := x.i) (q := q.1) (v := 1) G5.out (by rw [← hq]; exact Prod.ext rfl hs.symm))
                    obtain ⟨o0, o1, o2, o3⟩ := PBox4 P5.out
                    clear hq hs
                    go_upto_region 13 with (go_at_call 8; refine HA.out.mono ?_; rintro e w6 ⟨y, rfl, hb⟩; have L6 := Lib.hid (L5.out.trans (hb.mono L5.out.size)); have G6 := Lib.hid (G5.out.below hb); have D6 := Lib.hid (D5.out.below hb); have E6 := Lib.hid (E5.out.below hb); have P6 := Lib.hid (Cells.below P5.out hb); have Q6 := Lib.hid (Cells.below Q5.out hb); clear hb)
                    have b7 : Below w6.heap.size w6 (w6.alloc (.cells #[.int .i64 q.1.k, .int .i64 y.f, .int .i64 y.t, .int .i64 y.i, .slice y.A y.n y.c, .slice y.B y.m y.d] 33)) := (Below.refl _ w6).alloc (Nat.le_refl _) _
                    have L7 := Lib.hid (L6.out.trans (b7.mono L6.out.size))
                    have G7 := Lib.hid (G6.out.below b7)
                    have D7 := Lib.hid (D6.out.below b7)
                    have E7 := Lib.hid (E6.out.below b7)
                    have P7 := Lib.hid (Cells.below P6.out b7)
                    have Q7 := Lib.hid (Cells.below Q6.out b7)
                    have Y7 : Hid (Cells (w6.alloc (.cells #[.int .i64 q.1.k, .int .i64 y.f, .int .i64 y.t, .int .i64 y.i, .slice y.A y.n y.c, .slice y.B y.m y.d] 33)) w6.heap.size 33 _) := Cells.new _ _ _
                    clear b7 L5 G5 D5 E5 P5 Q5 L6 G6 D6 E6 P6 Q6 HA o0 o1 o2 o3
                    generalize w6.alloc (.cells #[.int .i64 q.1.k, .int .i64 y.f, .int .i64 y.t, .int .i64 y.i, .slice y.A y.n y.c, .slice y.B y.m y.d] 33) = w7 at *
                    generalize w6.heap.size = p7 at *
                    have y0 := Cells.cell Y7.out 0
                    obtain ⟨u0, u1⟩ := QBox2 Q7.out
                    have hl1 := done_get D7.out HKK.out
                    have hl2 := gone_get E7.out HKK.out
                    rw [HOLD.out] at hl1
                    rw [eq] at hl2
                    dsimp only [Option.map, Option.getD, Option.isSome, btI] at hl1
                    go_upto_region 24 with (simp only [hl1, hl2])
                    obtain ⟨w8, hw8⟩ : ∃ W, W = w7 := ⟨_, rfl⟩
                    subst hw8
                    have L8 := L7
                    have G8 := G7
                    have D8 := D7
                    have E8 := E7
                    have P8 := P7
                    have Q8 := Q7
                    clear L7 G7 D7 E7 P7 Q7 Y7 y0 u0 u1 hl1 hl2
                    have HD := Lib.hid (show Calls Try.prog 9 #[.slice B n d, .int .i64 x.f, .int .i64 x.i, .agg #[.int .i64 (x.k), .int .i64 0, .int .i64 0, .int .i64 0, .slice none 0 0, .slice none 0 0]] w8 _ from did_any (f := x.f) (i := x.i) (x := kx x.k) G8.out (atk w8 HFX.out.1.1 HFX.out.1.2) (by omega) HXI.out)
                    obtain ⟨o0, o1, o2, o3⟩ := PBox4 P8.out
                    go_upto_region 25 with (go_at_call 9; refine HD.out.mono ?_; rintro e w9 (⟨B9, n9, d9, l9, rfl, -, -, hn, -, -⟩ | ⟨B9, d9, v9, rfl, hv9, -, hb⟩); (exfalso; exact HS.out hn.new); have L9 := Lib.hid (L8.out.trans (hb.mono L8.out.size)); have G9 := Lib.hid (G8.out.below hb); have D9 := Lib.hid (D8.out.below hb); have E9 := Lib.hid (E8.out.below hb); have e9 : (v9 == 0) = false := beq_eq_false_iff_ne.2 hv9; clear hb hv9)
                    have HCK := Lib.hid (refCheck_any (ListAt.zero w9 B9 d9) (by simp))
                    rw [List.map_nil, show errP [] = 0 from rfl] at HCK
                    clear o0 o1 o2 o3 L8 G8 D8 E8 P8 Q8 HD
                    go_wp2_with (go_at_call 10; refine HCK.out.mono ?_; rintro e w10 ⟨rfl, hb⟩; have LA := Lib.hid (L9.out.trans (hb.mono L9.out.size)); have GA := Lib.hid (G9.out.below hb); have DA := Lib.hid (D9.out.below hb); have EA := Lib.hid (E9.out.below hb); clear hb)
                    go_roundw
                    case rel => exact ⟨k + 1, n, d, B, l, ds, gs, rfl, by go_num, by omega, LA, Lib.hid (GA.out.mono (by omega)), DA, EA, I4⟩
                    case measure => simp [intOf]; omega
                  · have hs : 2 = q.2 := by rw [hq, hs0]
                    have HS : Hid ((askP (l.map Sx.p) x.f x.i).2 ≠ 0) := by show _ ≠ _; rw [hs0]; decide
                    have I5 := Lib.hid (I4.out.left hs0)
                    have HA := Lib.hid (ask_st (f := x.f) (i := x.i) (q := q.1) (v := 2) G5.out (by rw [← hq]; exact Prod.ext rfl hs.symm))
                    obtain ⟨o0, o1, o2, o3⟩ := PBox4 P5.out
                    clear hq hs
                    go_upto_region 13 with (go_at_call 8; refine HA.out.mono ?_; rintro e w6 ⟨y, rfl, hb⟩; have L6 := Lib.hid (L5.out.trans (hb.mono L5.out.size)); have G6 := Lib.hid (G5.out.below hb); have D6 := Lib.hid (D5.out.below hb); have E6 := Lib.hid (E5.out.below hb); have P6 := Lib.hid (Cells.below P5.out hb); have Q6 := Lib.hid (Cells.below Q5.out hb); clear hb)
                    have b7 : Below w6.heap.size w6 (w6.alloc (.cells #[.int .i64 q.1.k, .int .i64 y.f, .int .i64 y.t, .int .i64 y.i, .slice y.A y.n y.c, .slice y.B y.m y.d] 33)) := (Below.refl _ w6).alloc (Nat.le_refl _) _
                    have L7 := Lib.hid (L6.out.trans (b7.mono L6.out.size))
                    have G7 := Lib.hid (G6.out.below b7)
                    have D7 := Lib.hid (D6.out.below b7)
                    have E7 := Lib.hid (E6.out.below b7)
                    have P7 := Lib.hid (Cells.below P6.out b7)
                    have Q7 := Lib.hid (Cells.below Q6.out b7)
                    have Y7 : Hid (Cells (w6.alloc (.cells #[.int .i64 q.1.k, .int .i64 y.f, .int .i64 y.t, .int .i64 y.i, .slice y.A y.n y.c, .slice y.B y.m y.d] 33)) w6.heap.size 33 _) := Cells.new _ _ _
                    clear b7 L5 G5 D5 E5 P5 Q5 L6 G6 D6 E6 P6 Q6 HA o0 o1 o2 o3
                    generalize w6.alloc (.cells #[.int .i64 q.1.k, .int .i64 y.f, .int .i64 y.t, .int .i64 y.i, .slice y.A y.n y.c, .slice y.B y.m y.d] 33) = w7 at *
                    generalize w6.heap.size = p7 at *
                    have y0 := Cells.cell Y7.out 0
                    obtain ⟨u0, u1⟩ := QBox2 Q7.out
                    have hl1 := done_get D7.out HKK.out
                    have hl2 := gone_get E7.out HKK.out
                    rw [eq] at hl2
                    generalize ((getB ds (x.f, x.i)).map btI).getD (.int .i64 0) = z1 at *
                    generalize (getB ds (x.f, x.i)).isSome = b1 at *
                    obtain ⟨w8, hput, hE, hV, hz⟩ := gone_put E7.out HKK.out
                    have L8 := Lib.hid (L7.out.trans (hV.up L7.out.size HR2.out))
                    have G8 := Lib.hid (good_map G7.out E7.out hV)
                    have D8 := Lib.hid (D7.out.mov hV (by simpa using HRN.out))
                    have E8 := Lib.hid hE
                    have P8 := Lib.hid (Cells.mov P7.out hV (by simpa using FMap.ne E7.out P7.out))
                    have Q8 := Lib.hid (Cells.mov Q7.out hV (by simpa using FMap.ne E7.out Q7.out))
                    clear hE hV hz
                    go_upto_region 24 with (simp only [hl1, hl2, hput])
                    clear L7 G7 D7 E7 P7 Q7 Y7 y0 u0 u1 hl1 hl2 hput
                    have HD := Lib.hid (show Calls Try.prog 9 #[.slice B n d, .int .i64 x.f, .int .i64 x.i, .agg #[.int .i64 (x.k), .int .i64 0, .int .i64 0, .int .i64 0, .slice none 0 0, .slice none 0 0]] w8 _ from did_any (f := x.f) (i := x.i) (x := kx x.k) G8.out (atk w8 HFX.out.1.1 HFX.out.1.2) (by omega) HXI.out)
                    obtain ⟨o0, o1, o2, o3⟩ := PBox4 P8.out
                    go_upto_region 25 with (go_at_call 9; refine HD.out.mono ?_; rintro e w9 (⟨B9, n9, d9, l9, rfl, -, -, hn, -, -⟩ | ⟨B9, d9, v9, rfl, hv9, -, hb⟩); (exfalso; exact HS.out hn.new); have L9 := Lib.hid (L8.out.trans (hb.mono L8.out.size)); have G9 := Lib.hid (G8.out.below hb); have D9 := Lib.hid (D8.out.below hb); have E9 := Lib.hid (E8.out.below hb); have e9 : (v9 == 0) = false := beq_eq_false_iff_ne.2 hv9; clear hb hv9)
                    have HCK := Lib.hid (refCheck_any (ListAt.zero w9 B9 d9) (by simp))
                    rw [List.map_nil, show errP [] = 0 from rfl] at HCK
                    clear o0 o1 o2 o3 L8 G8 D8 E8 P8 Q8 HD
                    go_wp2_with (go_at_call 10; refine HCK.out.mono ?_; rintro e w10 ⟨rfl, hb⟩; have LA := Lib.hid (L9.out.trans (hb.mono L9.out.size)); have GA := Lib.hid (G9.out.below hb); have DA := Lib.hid (D9.out.below hb); have EA := Lib.hid (E9.out.below hb); clear hb)
                    go_roundw
                    case rel => exact ⟨k + 1, n, d, B, l, ds, setB gs (x.f, x.i) true, rfl, by go_num, by omega, LA, Lib.hid (GA.out.mono (by omega)), DA, EA, I5⟩
                    case measure => simp [intOf]; omega
                · have hs0 := I4.out.gone x.f x.i HXF.out HX0.out eq
                  have hs : 2 = q.2 := by rw [hq, hs0]
                  have HS : Hid ((askP (l.map Sx.p) x.f x.i).2 ≠ 0) := by show _ ≠ _; rw [hs0]; decide
                  have HA := Lib.hid (ask_st (f := x.f) (i := x.i) (q := q.1) (v := 2) G5.out (by rw [← hq]; exact Prod.ext rfl hs.symm))
                  obtain ⟨o0, o1, o2, o3⟩ := PBox4 P5.out
                  clear hq hs
                  go_upto_region 13 with (go_at_call 8; refine HA.out.mono ?_; rintro e w6 ⟨y, rfl, hb⟩; have L6 := Lib.hid (L5.out.trans (hb.mono L5.out.size)); have G6 := Lib.hid (G5.out.below hb); have D6 := Lib.hid (D5.out.below hb); have E6 := Lib.hid (E5.out.below hb); have P6 := Lib.hid (Cells.below P5.out hb); have Q6 := Lib.hid (Cells.below Q5.out hb); clear hb)
                  have b7 : Below w6.heap.size w6 (w6.alloc (.cells #[.int .i64 q.1.k, .int .i64 y.f, .int .i64 y.t, .int .i64 y.i, .slice y.A y.n y.c, .slice y.B y.m y.d] 33)) := (Below.refl _ w6).alloc (Nat.le_refl _) _
                  have L7 := Lib.hid (L6.out.trans (b7.mono L6.out.size))
                  have G7 := Lib.hid (G6.out.below b7)
                  have D7 := Lib.hid (D6.out.below b7)
                  have E7 := Lib.hid (E6.out.below b7)
                  have P7 := Lib.hid (Cells.below P6.out b7)
                  have Q7 := Lib.hid (Cells.below Q6.out b7)
                  have Y7 : Hid (Cells (w6.alloc (.cells #[.int .i64 q.1.k, .int .i64 y.f, .int .i64 y.t, .int .i64 y.i, .slice y.A y.n y.c, .slice y.B y.m y.d] 33)) w6.heap.size 33 _) := Cells.new _ _ _
                  clear b7 L5 G5 D5 E5 P5 Q5 L6 G6 D6 E6 P6 Q6 HA o0 o1 o2 o3
                  generalize w6.alloc (.cells #[.int .i64 q.1.k, .int .i64 y.f, .int .i64 y.t, .int .i64 y.i, .slice y.A y.n y.c, .slice y.B y.m y.d] 33) = w7 at *
                  generalize w6.heap.size = p7 at *
                  have y0 := Cells.cell Y7.out 0
                  obtain ⟨u0, u1⟩ := QBox2 Q7.out
                  have hl1 := done_get D7.out HKK.out
                  have hl2 := gone_get E7.out HKK.out
                  rw [eq] at hl2
                  generalize ((getB ds (x.f, x.i)).map btI).getD (.int .i64 0) = z1 at *
                  generalize (getB ds (x.f, x.i)).isSome = b1 at *
                  go_upto_region 24 with (simp only [hl1, hl2])
                  obtain ⟨w8, hw8⟩ : ∃ W, W = w7 := ⟨_, rfl⟩
                  subst hw8
                  have L8 := L7
                  have G8 := G7
                  have D8 := D7
                  have E8 := E7
                  have P8 := P7
                  have Q8 := Q7
                  clear L7 G7 D7 E7 P7 Q7 Y7 y0 u0 u1 hl1 hl2
                  have HD := Lib.hid (show Calls Try.prog 9 #[.slice B n d, .int .i64 x.f, .int .i64 x.i, .agg #[.int .i64 (x.k), .int .i64 0, .int .i64 0, .int .i64 0, .slice none 0 0, .slice none 0 0]] w8 _ from did_any (f := x.f) (i := x.i) (x := kx x.k) G8.out (atk w8 HFX.out.1.1 HFX.out.1.2) (by omega) HXI.out)
                  obtain ⟨o0, o1, o2, o3⟩ := PBox4 P8.out
                  go_upto_region 25 with (go_at_call 9; refine HD.out.mono ?_; rintro e w9 (⟨B9, n9, d9, l9, rfl, -, -, hn, -, -⟩ | ⟨B9, d9, v9, rfl, hv9, -, hb⟩); (exfalso; exact HS.out hn.new); have L9 := Lib.hid (L8.out.trans (hb.mono L8.out.size)); have G9 := Lib.hid (G8.out.below hb); have D9 := Lib.hid (D8.out.below hb); have E9 := Lib.hid (E8.out.below hb); have e9 : (v9 == 0) = false := beq_eq_false_iff_ne.2 hv9; clear hb hv9)
                  have HCK := Lib.hid (refCheck_any (ListAt.zero w9 B9 d9) (by simp))
                  rw [List.map_nil, show errP [] = 0 from rfl] at HCK
                  clear o0 o1 o2 o3 L8 G8 D8 E8 P8 Q8 HD
                  go_wp2_with (go_at_call 10; refine HCK.out.mono ?_; rintro e w10 ⟨rfl, hb⟩; have LA := Lib.hid (L9.out.trans (hb.mono L9.out.size)); have GA := Lib.hid (G9.out.below hb); have DA := Lib.hid (D9.out.below hb); have EA := Lib.hid (E9.out.below hb); clear hb)
                  go_roundw
                  case rel => exact ⟨k + 1, n, d, B, l, ds, gs, rfl, by go_num, by omega, LA, Lib.hid (GA.out.mono (by omega)), DA, EA, I4⟩
                  case measure => simp [intOf]; omega
              · skip
                go_wp2_with fail
                go_roundw
                case rel => exact ⟨k + 1, n, d, B, l, ds, gs, rfl, by go_num, by omega, L4, Lib.hid (G4.out.mono (by omega)), D4, E4, I4⟩
                case measure => simp [intOf]; omega
            · skip
              go_wp2_with fail
              go_roundw
              case rel => exact ⟨k + 1, n, d, B, l, ds, gs, rfl, by go_num, by omega, L4, Lib.hid (G4.out.mono (by omega)), D4, E4, I4⟩
              case measure => simp [intOf]; omega
          · skip
            go_wp2_with fail
            go_roundw
            case rel => exact ⟨k + 1, n, d, B, l, ds, gs, rfl, by go_num, by omega, L4, Lib.hid (G4.out.mono (by omega)), D4, E4, I4⟩
            case measure => simp [intOf]; omega
        · rw [eg] at o3
          go_wp2_with fail
          go_roundw
          case rel => exact ⟨k + 1, n, d, B, l, ds, gs, rfl, by go_num, by omega, L4, Lib.hid (G4.out.mono (by omega)), D4, E4, I4⟩
          case measure => simp [intOf]; omega
      · go_wp2_with fail
        go_ret
        exact ⟨rfl, L3.out⟩
  · skip
    go_enter Try.func3, Try.ntmps3
    go_wp2_with (go_at_call 7; refine HLV.out.mono ?_; rintro e w1 ⟨rfl, hb⟩; have L1 := Lib.hid hb; clear hb HLV)
    go_ret
    exact ⟨rfl, L1.out⟩
end Ded
end Go.Proofs.Ytndcflchdecofaa
