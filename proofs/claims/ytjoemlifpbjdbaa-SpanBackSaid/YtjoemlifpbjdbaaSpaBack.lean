/-
  THE STATEMENT SpanBack: given to one, and taken back, blocks are no one's; all that was no one's and was given to one is the one's. For every input.
-/
import Derived.Test.YtjoemlifpbjdbaaSpaMarks
import Derived.Test.YtjoemlifpbjdbaaSpaStale
import Derived.Test.YtjoemlifpbjdbaaSpaTake
import Derived.Test.YtjoemlifpbjdbaaSpaRefP
import Derived.Test.YtjoemlifpbjdbaaSpaEdges
import Derived.Test.YtjoemlifpbjdbaaCut
import Derived.BigQuiet
namespace Go.Proofs.Ytjoemlifpbjdbaa
open Go.ChangeShapes Go.WideShapes Go.ChangeAt Go.RowKit Mem
namespace Spa

theorem give_len {l : List Sp} {N a b o e : Int} (h : Ch 0 l N) (h0 : 0 ≤ a) (hab : a < b) (hb : b ≤ N) : ((giveS l a b o e).length : Int) ≤ N := by
  have := ch_len (giveS_ch (o := o) (e := e) h h0 hab hb)
  omega
/-- What the loop of gives carries. -/
def GI (w wr : World) (r : Nat) (N o : Nat) (j : Nat) (L : Option Addr) (ln lc : Nat) : Prop :=
  Below w.heap.size w wr ∧ ∃ l ks, RowL wr L ln lc l ∧ Marks wr r ks ∧ BI (N : Int) (o : Int) (j : Int) l ks

set_option maxRecDepth 100000 in
set_option maxHeartbeats 25600000 in
theorem spanBack_walk {A : Option Addr} {n c : Nat} {gs : List Tri} {w : World} (bl z : Int) (h : RowS cellsT 3 w A n c gs) :
    Calls Try.prog 7 #[.int .i64 bl, .slice A n c, .int .i64 z] w fun en w' => en = .returned (.bool true) ∧ Below w.heap.size w w' := by
  have HR := Lib.hid h
  have hbig := h.big
  have hlen := Lib.hid h.len
  clear h
  obtain ⟨r0, o, a1, a2, a3, a4, a5, a6⟩ : ∃ (r : Int) (j : Nat), Int.tmod z 8 = r ∧ -8 < r ∧ r < 8 ∧ Int.tmod (r + 8) 8 = j ∧ (r + 8) % 8 = j ∧ j < 8 := Cut.cut_at z 8 (by omega)
  obtain ⟨r1, j1, b1, b2, b3, b4, b5, b6⟩ : ∃ (r : Int) (j : Nat), Int.tmod bl 200 = r ∧ -200 < r ∧ r < 200 ∧ Int.tmod (r + 200) 200 = j ∧ (r + 200) % 200 = j ∧ j < 200 := Cut.cut_at bl 200 (by omega)
  obtain ⟨N, hN⟩ : ∃ N : Nat, (1 : Int) + (j1 : Int) = (N : Int) := ⟨1 + j1, by omega⟩
  have hN0 : ¬ N = 0 := by omega
  have w1' : IntKind.i64.wrap (r0 + 8) = r0 + 8 := by rw [IntKind.wrap_i64]; omega
  have w2' : IntKind.i64.wrap (r1 + 200) = r1 + 200 := by rw [IntKind.wrap_i64]; omega
  have w3' : IntKind.i64.wrap (N : Int) = (N : Int) := by rw [IntKind.wrap_i64]; omega
  have HB := Lib.hid (show 1 ≤ N ∧ N ≤ 200 ∧ o < 8 from by omega)
  have hNP : newP (N : Int) = ([⟨0, (N : Int), -1, 0⟩], 0) := by
    unfold newP newB
    rw [decide_eq_true (show (1 : Int) ≤ (N : Int) by omega), decide_eq_true (show (N : Int) ≤ 1099511627776 by omega)]; rfl
  have hNW := fun w => new_any (N : Int) w
  rw [hNP] at hNW
  have HN := fun w => Lib.hid (hNW w)
  clear hNP hNW
  rcases f1 : decide ((50 : Int) < (n : Int))
  · have hn : n ≤ 50 := by have := of_decide_eq_false f1; omega
    have hmm := @run_makeMap Try.prog
    go_enter Try.func7, Try.ntmps7
    go_wp2_with fail
    refine (live_any w).mono ?_
    rintro en w1 ⟨rfl, hb⟩
    have L1 := Lib.hid hb
    clear hb
    go_wp2_with fail
    refine (HN w1).out.mono ?_
    rintro en w2 ⟨B, d, rfl, hO, hb⟩
    have L2 := Lib.hid (L1.out.trans (hb.mono L1.out.size))
    have R2 := Lib.hid (OwnsL.row hO (by simp))
    clear hb hO
    simp only [List.length_cons, List.length_nil] at R2 ⊢
    have M3 : Hid (Marks (w2.alloc (.map #[] 0)) w2.heap.size []) := Marks.made w2
    have L3 : Hid (Below w.heap.size w (w2.alloc (.map #[] 0))) := L2.out.alloc L2.out.size _
    have R3 := Lib.hid (RowS.alloc R2.out (.map #[] 0))
    have HRG := Lib.hid L2.out.size
    clear a1 a4 a5 b1 b4 b5 hN w1' w2' a2 a3 b2 b3
    go_upto_region 10 with fail
    generalize w2.alloc (.map #[] 0) = w3 at *
    obtain ⟨r, hr⟩ : ∃ r, w2.heap.size = r := ⟨_, rfl⟩
    rw [hr] at M3 HRG
    (try simp only [hr])
    clear hr R2 L2 hmm
    have START : Hid (GI w w3 r N o 0 B 1 d) := ⟨L3.out, _, [], R3.out, M3.out, by have := HB.out; exact BI.start (by omega) (by omega) (by omega)⟩
    clear L3 R3 M3
    go_wp2_with fail
    go_loopw [8, 11, 12, 13, 14, 15, 16, 17, 51] (fun s _ _ _ _ _ _ _ i wr => ∃ (j : Nat) (L : Option Addr) (ln lc : Nat), i = .int .i64 j ∧ s = .slice L ln lc ∧ j ≤ n ∧ ln ≤ 200 ∧ Hid (GI w wr r N o j L ln lc)) (fun _ _ _ _ _ _ _ _ i _ => n - (intOf i).toNat)
    case atStart => exact ⟨0, B, 1, d, rfl, rfl, by omega, by omega, START.out⟩
    case round =>
      obtain ⟨j, L, ln, lc, rfl, rfl, hj, hln, hH⟩ := hrel
      by_cases hlt : j < n
      · obtain ⟨hBW, l, ks, hRL, hMK, hBI⟩ := hH.out
        have HBW := Lib.hid hBW
        have HRL := Lib.hid hRL
        have HMK := Lib.hid hMK
        have HBI := Lib.hid hBI
        clear hH hBW hRL hMK hBI
        obtain ⟨t, ht⟩ := HR.out.get hlt
        obtain ⟨g, q, hA, d0, d1, d2⟩ := RowS.tri_at (HR.out.below HBW.out) ht
        subst hA
        have hj0 : (0 : Int) ≤ (j : Int) := by omega
        have hjn : (j : Int) < (n : Int) := by omega
        obtain ⟨r2, a, c1, c2, c3, c4, c5, c6⟩ := Cut.cut_at t.x N (by omega)
        obtain ⟨r3, e, e1, e2, e3, e4, e5, e6⟩ : ∃ (r : Int) (j : Nat), Int.tmod t.y 30 = r ∧ -30 < r ∧ r < 30 ∧ Int.tmod (r + 30) 30 = j ∧ (r + 30) % 30 = j ∧ j < 30 := Cut.cut_at t.y 30 (by omega)
        obtain ⟨b, hbb⟩ : ∃ b : Nat, min (N : Int) ((a : Int) + 1 + (e : Int)) = (b : Int) := ⟨min N (a + 1 + e), by omega⟩
        have HAB := Lib.hid (show a < b ∧ b ≤ N from by omega)
        have v1 : IntKind.i64.wrap (r2 + N) = r2 + N := by have := HB.out; rw [IntKind.wrap_i64]; omega
        have v2 : IntKind.i64.wrap (r3 + 30) = r3 + 30 := by rw [IntKind.wrap_i64]; omega
        have v3 : IntKind.i64.wrap ((a : Int) + 1) = (a : Int) + 1 := by have := HB.out; rw [IntKind.wrap_i64]; omega
        have v4 : IntKind.i64.wrap ((a : Int) + 1 + (e : Int)) = (a : Int) + 1 + (e : Int) := by have := HB.out; rw [IntKind.wrap_i64]; omega
        have v5 : IntKind.i64.wrap ((1 : Int) + (j : Int)) = (1 : Int) + (j : Int) := by rw [IntKind.wrap_i64]; omega
        have hmin := run_min2 (x := (N : Int)) (y := (a : Int) + 1 + (e : Int))
        rw [hbb] at hmin
        have hgv := BI.give HBI.out (by omega) (by omega) (by have := HB.out; omega) (show (0 : Int) ≤ (a : Int) by omega) (show (a : Int) < (b : Int) by have := HAB.out; omega) (show (b : Int) ≤ (N : Int) by have := HAB.out; omega)
        have HGV := Lib.hid hgv
        have hgl : (giveS l a b o (1 + (j : Int))).length ≤ 200 := by
          have h1 := ok_ch HBI.out.ok
          rw [HBI.out.end_] at h1
          have := give_len (o := o) (e := 1 + (j : Int)) h1 (show (0 : Int) ≤ (a : Int) by omega) (show (a : Int) < (b : Int) by have := HAB.out; omega) (show (b : Int) ≤ (N : Int) by have := HAB.out; omega)
          have := HB.out
          omega
        have hG := fun w (h : RowL w L ln lc l) => give_any (a : Int) (b : Int) (o : Int) (1 + (j : Int)) h (by omega)
        rw [hgv.1] at hG
        have HG := fun w (h : RowL w L ln lc l) => Lib.hid (hG w h)
        clear hgv hG
        generalize giveS l a b o (1 + (j : Int)) = gl at *
        obtain ⟨gn, hgn⟩ : ∃ q, gl.length = q := ⟨_, rfl⟩
        rw [hgn] at hgl
        clear ht
        have A1 : Hid (Below wr.heap.size wr (wr.alloc (.cells #[.int .i64 t.x, .int .i64 t.y, .int .i64 t.z] 47))) := (Below.refl _ wr).alloc (Nat.le_refl _) _
        have B1 : Hid (Cells (wr.alloc (.cells #[.int .i64 t.x, .int .i64 t.y, .int .i64 t.z] 47)) wr.heap.size 47 #[.int .i64 t.x, .int .i64 t.y, .int .i64 t.z]) := Cells.new _ _ _
        have n0 : (wr.alloc (.cells #[.int .i64 t.x, .int .i64 t.y, .int .i64 t.z] 47)).cell? ⟨wr.heap.size, 0, none⟩ = some (.int .i64 t.x) := Cells.cell B1.out 0
        have n1 : (wr.alloc (.cells #[.int .i64 t.x, .int .i64 t.y, .int .i64 t.z] 47)).cell? ⟨wr.heap.size, 1, none⟩ = some (.int .i64 t.y) := Cells.cell B1.out 1
        have n2 : (wr.alloc (.cells #[.int .i64 t.x, .int .i64 t.y, .int .i64 t.z] 47)).cell? ⟨wr.heap.size, 2, none⟩ = some (.int .i64 t.z) := Cells.cell B1.out 2
        go_upto_region 13 with fail
        generalize wr.alloc (.cells #[.int .i64 t.x, .int .i64 t.y, .int .i64 t.z] 47) = w4 at *
        clear d0 d1 d2
        have L4 := Lib.hid (HBW.out.trans (A1.out.mono HBW.out.size))
        have R4 := Lib.hid (RowS.below HRL.out A1.out)
        have M4 := Lib.hid (Marks.below HMK.out A1.out)
        clear A1 HRL HMK HBW
        go_wp2_with fail
        refine (HG w4 R4.out).out.mono ?_
        rintro en w5 ⟨P, pc, rfl, hO, hb⟩
        have L5 := Lib.hid (L4.out.trans (hb.mono L4.out.size))
        have P5 := Lib.hid (OwnsL.row hO (by simp only; omega))
        have M5 := Lib.hid (Marks.below M4.out hb)
        simp only [hgn] at P5 ⊢
        have PL5 : Hid (∀ p o, P = some ⟨p, o, none⟩ → 0 < gn → p ≠ r) := by
          show ∀ _, _
          intro p o' hp h0 hpr
          have := OwnsL.lt hO p (by rw [hp]; rfl)
          have := M4.out.lt
          omega
        clear hb hO HG M4 R4 L4 n0 n1 n2 c1 c4 c5 e1 e4 e5 v1 v2 v3 v4 v5 hmin
        clear B1 c2 c3 c6 e2 e3 e6 hbb
        generalize wr = wq at *
        go_upto_region 20 with fail
        go_loopw [17] (fun s wx => ∃ v : Int, s = .int .i64 v ∧ (a : Int) ≤ v ∧ v ≤ (b : Int) ∧ Hid (Below w.heap.size w wx ∧ RowL wx P gn pc gl ∧ ∃ ks2, Marks wx r ks2 ∧ ks2.Nodup ∧ ∀ k, k ∈ ks2 ↔ k ∈ ks ∨ ((a : Int) ≤ k ∧ k < v))) (fun s _ => ((b : Int) - intOf s).toNat)
        case atStart => exact ⟨(a : Int), rfl, Int.le_refl _, by have := HAB.out; omega, L5.out, P5.out, ks, M5.out, HBI.out.nodup, fun k => ⟨.inl, fun h => h.resolve_right (by omega)⟩⟩
        case round =>
          obtain ⟨v, rfl, hv1, hv2, hH⟩ := hrel
          have hvw : IntKind.i64.wrap (v + 1) = v + 1 := by have := HB.out; have := HAB.out; rw [IntKind.wrap_i64]; omega
          rcases f2 : decide (v < (b : Int))
          · have hvb : v = (b : Int) := by have := of_decide_eq_false f2; omega
            have HF : Hid (GI w wr r N o (j + 1) P gn pc) := by
              obtain ⟨h1, h2, ks2, h3, h4, h5⟩ := hH.out
              refine ⟨h1, gl, ks2, h2, h3, ?_⟩
              rw [show ((j + 1 : Nat) : Int) = 1 + (j : Int) by omega]
              exact HGV.out.2 ks2 h4 (by rw [← hvb]; exact h5)
            clear hvb
            go_wp2_with fail
            go_roundw
            case rel => exact ⟨j + 1, P, gn, pc, by go_num, rfl, by omega, hgl, HF.out⟩
            case measure => simp [intOf]; omega
          · have hvb : v < (b : Int) := of_decide_eq_true f2
            obtain ⟨h1, h2, ks2, h3, h4, h5⟩ := hH.out
            have T1 := Lib.hid h1
            have T2 := Lib.hid h2
            have T3 := Lib.hid h3
            have T4 := Lib.hid (And.intro h4 h5)
            clear h1 h2 h3 h4 h5 hH
            go_wp2_with (refine wpList_mark rfl _ _ _ rfl T3.out rfl rfl rfl ?_
                         intro w' g1 g2
                         have U1 : Hid (Below w.heap.size w w') := T1.out.trans (But.below g2 T1.out.size HRG.out)
                         have U2 : Hid (RowL w' P gn pc gl) := RowS.keepBut T2.out PL5.out g2
                         have U3 := Lib.hid g1
                         clear g1 g2)
            go_roundw
            case rel =>
              refine ⟨_, _, _, _, _, _, _, _, ⟨v + 1, rfl, by omega, by omega, U1.out, U2.out, _, U3.out, mark_nodup T4.out.1 v, fun k => ?_⟩, rfl⟩
              rw [mark_mem, T4.out.2]
              constructor
              · rintro ((h | h) | h)
                · exact .inl h
                · exact .inr (by omega)
                · exact .inr (by omega)
              · rintro (h | h)
                · exact .inl (.inl h)
                · by_cases hk : k = v
                  · exact .inr hk
                  · exact .inl (.inr (by omega))
            case measure => simp [intOf]; omega
      · obtain ⟨hBW, l, ks, hRL, hMK, hBI⟩ := hH.out
        have L5 := Lib.hid hBW
        have R5 := Lib.hid hRL
        have M5 := Lib.hid hMK
        have HBI := Lib.hid hBI
        obtain ⟨K, hK⟩ : ∃ K, ks.length = K := ⟨_, rfl⟩
        have hoo : (0 : Int) ≤ (o : Int) := by omega
        have hcnt := hBI.count
        have hown := hBI.owned
        have hfre := hBI.free hoo
        have htak := hBI.taken
        have hEN := hBI.end_
        rw [hK] at hcnt hown hfre
        have HKB : Hid ((K : Int) ≤ (N : Int)) := hcnt
        have HOW := Lib.hid hown
        have hO1 := fun w (h : RowL w L ln lc l) => owned_any (o : Int) h
        have hO2 := fun w (h : RowL w L ln lc l) => owned_any (-1) h
        have hp1 : ownedP l (o : Int) = (K : Int) := by unfold ownedP; rw [hBI.ok, cond_true]; exact hown
        have hp2 : ownedP l (-1) = (N : Int) - (K : Int) := by unfold ownedP; rw [hBI.ok, cond_true]; exact hfre
        rw [hp1] at hO1
        rw [hp2] at hO2
        have HO1 := fun w (h : RowL w L ln lc l) => Lib.hid (hO1 w h)
        have HO2 := fun w (h : RowL w L ln lc l) => Lib.hid (hO2 w h)
        have hho : hostB (o : Int) = true := by have := HB.out; unfold hostB; rw [decide_eq_true hoo, decide_eq_true (by omega : (o : Int) < 8)]; rfl
        have htp : takeP l (o : Int) = ([⟨0, (N : Int), -1, 0⟩], wereS l (o : Int), 0) := by unfold takeP; rw [hBI.ok, hho, htak]; rfl
        have hT := fun w (h : RowL w L ln lc l) => take_any (o : Int) h (by omega)
        rw [htp] at hT
        have HT := fun w (h : RowL w L ln lc l) => Lib.hid (hT w h)
        have hwN : IntKind.i64.wrap ((N : Int) - (K : Int)) = (N : Int) - (K : Int) := by have := HB.out; have := HKB.out; rw [IntKind.wrap_i64]; omega
        have HSL := Lib.hid (sumLen_were l (o : Int))
        have HMC := Lib.hid (ok_ch hBI.ok)
        have HSB := Lib.hid (sumLen_take (l := wereS l (o : Int)) (fun s hs => (HMC.out.mem (List.mem_filter.1 hs).1).2.1))
        have HUL : Hid ((wereS l (o : Int)).length ≤ 200) := by
          show _ ≤ _
          have h1 := List.length_filter_le (fun s : Sp => s.own == (o : Int)) l
          have h2 := hBI.len
          have h3 := HB.out
          unfold wereS
          omega
        have HUO := Lib.hid (fun s (hs : s ∈ wereS l (o : Int)) => show s.own = (o : Int) by simpa using (List.mem_filter.1 hs).2)
        have HMI := Lib.hid (fun s (hs : s ∈ wereS l (o : Int)) k hk => hBI.mine hs (k := k) hk)
        clear hH hBW hRL hMK hBI hcnt hown hfre htak hO1 hO2 hp1 hp2 hho htp hT
        have HEN : Hid (endF 0 l = (N : Int)) := hEN
        have HULM : Hid (wereS l (o : Int) = l.filter (fun s => s.own == (o : Int))) := rfl
        generalize wereS l (o : Int) = ul at *
        obtain ⟨un, hun⟩ : ∃ q, ul.length = q := ⟨_, rfl⟩
        have hub : un ≤ 200 := by rw [← hun]; exact HUL.out
        have hull := Lib.hid hun
        generalize wr = w5 at *
        have hc5 := run_counted M5.out
        rw [hK] at hc5
        clear hc5
        go_wp2_with fail
        refine (HO1 w5 R5.out).out.mono ?_
        rintro en w6 ⟨rfl, hb⟩
        have L6 := Lib.hid (L5.out.trans (hb.mono L5.out.size))
        have R6 := Lib.hid (RowS.below R5.out hb)
        have M6 := Lib.hid (Marks.below M5.out hb)
        clear hb L5 R5 M5 HO1
        have hc6 := run_counted M6.out
        rw [hK] at hc6
        go_wp2_with fail
        refine (HO2 w6 R6.out).out.mono ?_
        rintro en w7 ⟨rfl, hb⟩
        have L7 := Lib.hid (L6.out.trans (hb.mono L6.out.size))
        have R7 := Lib.hid (RowS.below R6.out hb)
        have M7 := Lib.hid (Marks.below M6.out hb)
        clear hb L6 R6 M6 HO2 hc6
        have hc7 := run_counted M7.out
        rw [hK] at hc7
        go_wp2_with fail
        refine (HT w7 R7.out).out.mono ?_
        rintro en w8 ⟨T, tc, U, uc, rfl, hTT, hUU, hb⟩
        have L8 := Lib.hid (L7.out.trans (hb.mono L7.out.size))
        have M8 := Lib.hid (Marks.below M7.out hb)
        simp only [hun, List.length_cons, List.length_nil, Nat.zero_add] at hTT hUU ⊢
        have T8 := Lib.hid hTT
        have U8 := Lib.hid hUU
        clear hb hTT hUU HT L7 R7 M7 hc7
        go_wp2_with fail
        refine (HN w8).out.mono ?_
        rintro en w9 ⟨V, vc, rfl, hO, hb⟩
        have L9 := Lib.hid (L8.out.trans (hb.mono L8.out.size))
        have M9 := Lib.hid (Marks.below M8.out hb)
        have T9 := Lib.hid (RowS.below T8.out hb)
        have U9 := Lib.hid (RowS.below U8.out hb)
        have V9 := Lib.hid (OwnsL.row hO (by simp))
        clear hb hO HN M8 T8 U8 L8
        simp only [List.length_cons, List.length_nil, Nat.zero_add] at V9 ⊢
        have HSA := Lib.hid (same_any T9.out V9.out (by omega))
        go_wp2_with fail
        refine HSA.out.mono ?_
        rintro en w10 ⟨rfl, hb⟩
        have L10 := Lib.hid (L9.out.trans (hb.mono L9.out.size))
        have M10 := Lib.hid (Marks.below M9.out hb)
        have U10 := Lib.hid (RowS.below U9.out hb)
        clear hb HSA M9 T9 U9 V9 L9
        have hubig : un ≤ 140737488351232 := by omega
        go_wp2_with fail
        go_loopw [23, 25, 26, 137] (fun s _ _ i wr => ∃ (q : Nat) (u : Int), i = .int .i64 q ∧ s = .int .i64 u ∧ q ≤ un ∧ Hid (Below w10.heap.size w10 wr ∧ u = sumLen (ul.take q))) (fun _ _ _ i _ => un - (intOf i).toNat)
        case atStart => exact ⟨0, 0, rfl, rfl, by omega, Below.refl _ _, rfl⟩
        case round =>
          obtain ⟨q, u, rfl, rfl, hq, hH⟩ := hrel
          by_cases hlq : q < un
          · obtain ⟨x, hx⟩ := U10.out.get hlq
            obtain ⟨g, o3, hA3, d0, d1, d2, d3⟩ := RowS.span_at (U10.out.below hH.out.1) hx
            subst hA3
            have hk0 : (0 : Int) ≤ (q : Int) := by omega
            have hkn : (q : Int) < (un : Int) := by omega
            have HS1 : Hid (sumLen (ul.take (q + 1)) = u + (x.to - x.fr)) := by
              show _ = _
              rw [take_snoc hx, sumLen_snoc, ← hH.out.2]
            have hb1 := HSB.out q
            have hb2 := HSB.out (q + 1)
            rw [HS1.out] at hb2
            rw [← hH.out.2] at hb1
            rw [HSL.out, HOW.out] at hb1 hb2
            have HXM := Lib.hid (List.mem_of_getElem? hx)
            have hne : (x.own != (o : Int)) = false := by rw [HUO.out x HXM.out]; simp
            have HXL : Hid (0 ≤ x.fr ∧ x.fr < x.to ∧ x.to ≤ 200) := by
              show _ ∧ _
              have h1 := HMC.out.mem (List.mem_filter.1 (HULM.out ▸ List.mem_of_getElem? hx)).1
              have := HB.out
              have := HEN.out
              omega
            have HXB : Hid (0 ≤ u ∧ u ≤ 200 ∧ u + (x.to - x.fr) ≤ 200 ∧ 0 ≤ u + (x.to - x.fr)) := by
              show _ ∧ _
              have := HB.out
              have := HKB.out
              omega
            clear hx hb1 hb2
            have A1 : Hid (Below wr.heap.size wr (wr.alloc (.cells #[.int .i64 x.fr, .int .i64 x.to, .int .i64 x.own, .int .i64 x.ep] 32))) := (Below.refl _ wr).alloc (Nat.le_refl _) _
            have B1 : Hid (LBox (wr.alloc (.cells #[.int .i64 x.fr, .int .i64 x.to, .int .i64 x.own, .int .i64 x.ep] 32)) wr.heap.size x) := Cells.new _ _ _
            obtain ⟨n0, n1, n2, n3⟩ := LBox.cells B1.out
            go_upto_region 34 with fail
            generalize wr.alloc (.cells #[.int .i64 x.fr, .int .i64 x.to, .int .i64 x.own, .int .i64 x.ep] 32) = w11 at *
            have N11 := Lib.hid (hH.out.1.trans (A1.out.mono hH.out.1.size))
            have M11 := Lib.hid (Marks.below M10.out N11.out)
            clear d0 d1 d2 d3 hH A1
            obtain ⟨sb, hsb⟩ : ∃ sb, wr.heap.size = sb := ⟨_, rfl⟩
            rw [hsb] at n0 n1 n2 n3 B1
            (try simp only [hsb])
            clear hsb n3
            go_wp2_with fail
            generalize wr = wy at *
            go_loopw [23, 26] (fun s t wx => wx = w11 ∧ ∃ v y : Int, t = .int .i64 v ∧ s = .int .i64 y ∧ y = u + (v - x.fr) ∧ x.fr ≤ v ∧ v ≤ x.to) (fun _ t _ => (x.to - intOf t).toNat)
            case atStart => exact ⟨rfl, x.fr, u, rfl, rfl, by omega, Int.le_refl _, by have := HXL.out; omega⟩
            case round =>
              obtain ⟨hw, v, y, rfl, rfl, hy, hv1, hv2⟩ := hrel
              subst hw
              have hvw : IntKind.i64.wrap (v + 1) = v + 1 := by have := HXL.out; rw [IntKind.wrap_i64]; omega
              have hyw : IntKind.i64.wrap (y + 1) = y + 1 := by have := HXB.out; rw [IntKind.wrap_i64]; omega
              rcases f2 : decide (v < x.to)
              · have hvb : v = x.to := by have := of_decide_eq_false f2; omega
                have hyy : y = sumLen (ul.take (q + 1)) := by rw [HS1.out, hy, hvb]
                have HYY := Lib.hid hyy
                clear hvb hyy hy
                go_wp2_with fail
                go_roundw
                case rel => exact ⟨q + 1, y, by go_num, rfl, by omega, N11.out, HYY.out⟩
                case measure => simp [intOf]; omega
              · have hlk := run_asked M11.out (HMI.out x HXM.out v ⟨hv1, of_decide_eq_true f2⟩)
                have HY := Lib.hid hy
                clear hy
                go_wp2_with fail
                go_roundw
                case rel => exact ⟨by trivial, v + 1, y + 1, rfl, rfl, by have := HY.out; omega, by omega, by have := of_decide_eq_true f2; omega⟩
                case measure => simp [intOf]; have := of_decide_eq_true f2; omega
          · have hkn : ul.take q = ul := List.take_of_length_le (by have := hull.out; omega)
            have hu : u = (K : Int) := by rw [hH.out.2, hkn, HSL.out, HOW.out]
            subst hu
            have L12 := Lib.hid (L10.out.trans (hH.out.1.mono L10.out.size))
            have hc12 := run_counted (Marks.below M10.out hH.out.1)
            rw [hK] at hc12
            clear hkn hH
            go_wp2_with fail
            go_ret
            exact ⟨rfl, L12.out⟩
  · go_enter Try.func7, Try.ntmps7
    go_wp2_with fail
    refine (live_any w).mono ?_
    rintro en w1 ⟨rfl, hb⟩
    have L1 := Lib.hid hb
    clear hb
    go_wp2_with fail
    go_ret
    exact ⟨rfl, L1.out⟩
end Spa
end Go.Proofs.Ytjoemlifpbjdbaa
