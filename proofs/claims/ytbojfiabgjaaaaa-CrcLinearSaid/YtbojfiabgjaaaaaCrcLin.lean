/-
  CrcLinear: FOR EVERY THREE TEXTS, WHATEVER MEMORY THEY SHARE, THE LAW RETURNS TRUE (of texts as long as one another, the sums of three, put together bit by bit, are the sum of the three texts put together so) AND CHANGES NOTHING THAT WAS THERE.
  No condition beside the row's own (what can be read as data, within the model's reach).
-/
import Derived.Test.YtbojfiabgjaaaaaCrcLinOps
namespace Go.Proofs.Ytbojfiabgjaaaaa
open Go.ChangeShapes Go.WideShapes Go.ChangeAt Go.RowKit
namespace Crc

set_option maxRecDepth 100000 in
set_option maxHeartbeats 6400000 in
theorem crcLinear_walk (A1 : Option Addr) (n1 c1 : Nat) (l1 : List (BitVec 8)) (A2 : Option Addr) (n2 c2 : Nat) (l2 : List (BitVec 8)) (A3 : Option Addr) (n3 c3 : Nat) (l3 : List (BitVec 8)) (w : World)
    (h1 : LowBytes w w.heap.size A1 n1 l1) (h2 : LowBytes w w.heap.size A2 n2 l2) (h3 : LowBytes w w.heap.size A3 n3 l3) (k1 : n1 ≤ c1) (k2 : n2 ≤ c2) (k3 : n3 ≤ c3) :
    Calls Try.prog 7 #[.slice A1 n1 c1, .slice A2 n2 c2, .slice A3 n3 c3] w fun e w' => e = .returned (.bool true) ∧ Below w.heap.size w w' := by
  have H1 := Lib.hid h1
  have H2 := Lib.hid h2
  have H3 := Lib.hid h3
  clear h1 h2 h3
  have hmin := run_min3 (y := n2) (x := n1) (z := n3)
  have hmle : min (min n1 n2) n3 ≤ n1 ∧ min (min n1 n2) n3 ≤ n2 ∧ min (min n1 n2) n3 ≤ n3 := by omega
  have HMD : Hid (min (min n1 n2) n3 = min (min l1.length l2.length) l3.length) := by
    show _ = _
    rw [(H1.out.at_ (Nat.le_refl _)).1, (H2.out.at_ (Nat.le_refl _)).1, (H3.out.at_ (Nat.le_refl _)).1]
  generalize min (min n1 n2) n3 = m at *
  obtain ⟨m1, m2, m3⟩ := hmle
  by_cases t1 : 5000 < m
  · go_enter Try.func7, Try.ntmps7
    go_wp2_with (first
      | (go_at_call 8; refine (live_any _).mono ?_; rintro e w1 ⟨rfl, hb⟩; have HB := Lib.hid hb; clear hb))
    go_ret
    exact ⟨rfl, HB.out⟩
  · have t1' : m ≤ 5000 := by omega
    clear t1
    have hd5 : decide ((5000 : Int) < (m : Int)) = false := by simp; omega
    go_enter Try.func7, Try.ntmps7
    go_wp2_with (first
      | (go_at_call 8; refine (live_any _).mono ?_; rintro e w1 ⟨rfl, hb⟩; have HB := Lib.hid hb; clear hb))
    clear hmin
    go_loopw [9, 24] (fun x i wr => ∃ (k : Nat) (xv : Value), k ≤ m ∧ i = .int .i64 k ∧ x = xv ∧ wr.ownsRow w.heap.size 5 1 xv k (((zip3 l1 l2 l3).take k).map cell8) ∧ Below w.heap.size w wr) (fun _ i _ => m - (intOf i).toNat)
    case atStart => exact ⟨0, _, by omega, rfl, rfl, World.ownsRow_nil _ _ _ _, HB.out⟩
    case round =>
      obtain ⟨k, xv, hk, rfl, rfl, hO, hB⟩ := hrel
      have HO := Lib.hid hO
      have HBR := Lib.hid hB
      clear hO hB HB
      by_cases hlt : k < m
      · have hd : decide ((k : Int) < (m : Int)) = true := by simp; omega
        have L1 := H1.out.below HBR.out
        have L2 := H2.out.below HBR.out
        have L3 := H3.out.below HBR.out
        have e1 : l1.length = n1 := (L1.at_ (Nat.le_refl _)).1
        have e2 : l2.length = n2 := (L2.at_ (Nat.le_refl _)).1
        have e3 : l3.length = n3 := (L3.at_ (Nat.le_refl _)).1
        obtain ⟨b1, o1, rfl, q1, d1⟩ := L1.low (by omega)
        obtain ⟨b2, o2, rfl, q2, d2⟩ := L2.low (by omega)
        obtain ⟨b3, o3, rfl, q3, d3⟩ := L3.low (by omega)
        obtain ⟨x1, g1⟩ := get_some (l := l1) (k := k) (by omega)
        obtain ⟨x2, g2⟩ := get_some (l := l2) (k := k) (by omega)
        obtain ⟨x3, g3⟩ := get_some (l := l3) (k := k) (by omega)
        have f1 := d1 k _ g1
        have f2 := d2 k _ g2
        have f3 := d3 k _ g3
        have TK := Lib.hid (zip3_take' g1 g2 g3)
        have ag1 : some b1 ≠ u9.ownBlock := fun e => by have := (HO.out.lt _ e.symm).1; omega
        have ag2 : some b2 ≠ u9.ownBlock := fun e => by have := (HO.out.lt _ e.symm).1; omega
        have ag3 : some b3 ≠ u9.ownBlock := fun e => by have := (HO.out.lt _ e.symm).1; omega
        have AG1 := Lib.hid ag1
        have AG2 := Lib.hid ag2
        have AG3 := Lib.hid ag3
        clear d1 d2 d3 e1 e2 e3 L1 L2 L3 q1 q2 q3 g1 g2 g3 ag1 ag2 ag3
        have y1 := u_nonneg x1
        have y2 := u_nonneg x2
        have y3 := u_nonneg x3
        have hk1 : (k : Int) < (n1 : Int) := by omega
        have hk2 : (k : Int) < (n2 : Int) := by omega
        have hk3 : (k : Int) < (n3 : Int) := by omega
        have hk0 : (0 : Int) ≤ (k : Int) := by omega
        have z1 := xor_u x1 x2
        have z2 := xor_u (x1 ^^^ x2) x3
        obtain ⟨i0, hi0, hz0, hz1, hz2⟩ := info_parts info_byte
        have V1 : Hid (0 < 1) := Nat.one_pos
        have lb1 := World.block_lt_of_cell? wr _ f1
        have lb2 := World.block_lt_of_cell? wr _ f2
        have lb3 := World.block_lt_of_cell? wr _ f3
        have OA := Lib.hid ((HO.out.alloc (.cells #[.int .u8 (u (x1 ^^^ x2 ^^^ x3))] 5)).drew)
        have NW := Lib.hid (World.news_of_block (cs := #[.int .u8 (u (x1 ^^^ x2 ^^^ x3))]) (t := 5) (fr := (0, 0)) (heap_alloc_new wr (.cells #[.int .u8 (u (x1 ^^^ x2 ^^^ x3))] 5)))
        have V2 : Hid (∀ q ∈ [Value.int .u8 (u (x1 ^^^ x2 ^^^ x3))], q.oneCell' = true) := by
          show ∀ q ∈ _, _
          simp [Value.oneCell']
        have V3 : Hid (k + 1 ≤ maxLen) := by show _ ≤ _; unfold maxLen; omega
        have V4 : Hid ((k + 1) * 1 ≤ 140737488355328) := by show _ ≤ _; omega
        have V5 : Hid (w.heap.size ≤ (wr.alloc (.cells #[.int .u8 (u (x1 ^^^ x2 ^^^ x3))] 5)).drew.heap.size) := by
          have h5 := HBR.out.size
          show _ ≤ _
          simp
          omega
        have V6 : Hid ((wr.alloc (.cells #[.int .u8 (u (x1 ^^^ x2 ^^^ x3))] 5)).drew.heap.size = wr.heap.size + 1) := by show _ = _; simp
        go_wp2_with fail
        go_region_held3 (fun w' => w'.cell? ⟨b1, o1 + k, none⟩ = some (.int .u8 (u x1)) ∧ w'.cell? ⟨b2, o2 + k, none⟩ = some (.int .u8 (u x2)) ∧ w'.cell? ⟨b3, o3 + k, none⟩ = some (.int .u8 (u x3)))
          (first
            | go_keep
            | (go_split_ands
               refine ⟨?_, ?_, ?_⟩
               · exact hgrow.cell (by assumption) AG1.out
               · exact hgrow.cell (by assumption) AG2.out
               · exact hgrow.cell (by assumption) AG3.out))
          ((refine step_append_lies _ (by rfl) _ _ _ (by rfl) w.heap.size 5 i0 _ 1 1 Try.underlying24 hi0 hz0 hz1 hz2 rfl V1.out u9 k _ (by rfl) OA.out
              ⟨wr.heap.size, 0, none⟩ 1 1 [.int .u8 (u (x1 ^^^ x2 ^^^ x3))] (by rfl) (by rfl) NW.out V2.out
              V1.out V3.out V4.out V5.out (wr.heap.size + 1) V6.out ?_; intro gg cap w5 hown5 hgrow hat hlt))
        have NX : Hid (w5.ownsRow w.heap.size 5 1 (.slice (some ⟨gg, 0, none⟩) (k + 1) cap) (k + 1) (((zip3 l1 l2 l3).take (k + 1)).map cell8)) := by
          show World.ownsRow _ _ _ _ _ _ _
          rw [TK.out, List.map_append]
          exact hown5
        have NB : Hid (Below w.heap.size w w5) := (((HBR.out.alloc HBR.out.size (.cells #[.int .u8 (u (x1 ^^^ x2 ^^^ x3))] 5)).drew).grown hgrow (Nat.le_trans HBR.out.size (by simp)) (fun q hq => (HO.out.lt q hq).1))
        clear hown5 hgrow hat
        go_wp2
        go_roundw
        case rel => exact ⟨k + 1, _, by omega, by go_num, rfl, NX.out, NB.out⟩
        case measure => simp [intOf]; omega
      · have hkm : k = m := by omega
        subst hkm
        have hd : decide ((k : Int) < (k : Int)) = false := by simp
        have hz : (zip3 l1 l2 l3).take k = zip3 l1 l2 l3 := List.take_of_length_le (by rw [zip3_len]; have := HMD.out; omega)
        have HO2 := HO.out
        rw [hz] at HO2
        obtain ⟨A', c', rfl, hC⟩ := own_bytes HO2 (by omega)
        have PC := Lib.hid (hC.at_ (Nat.le_refl _))
        have P1 := Lib.hid (((H1.out.below HBR.out).at_ (g := wr.heap.size) HBR.out.size).cut m1)
        have P2 := Lib.hid (((H2.out.below HBR.out).at_ (g := wr.heap.size) HBR.out.size).cut m2)
        have P3 := Lib.hid (((H3.out.below HBR.out).at_ (g := wr.heap.size) HBR.out.size).cut m3)
        have E0 : v (goes 0#32 (zip3 l1 l2 l3)) = v (goes 0#32 (l1.take k) ^^^ goes 0#32 (l2.take k) ^^^ goes 0#32 (l3.take k)) := by rw [goes_zip3 l1 l2 l3 k HMD.out]
        have X1 := xor_v (goes 0#32 (l1.take k)) (goes 0#32 (l2.take k))
        have X2 := xor_v (goes 0#32 (l1.take k) ^^^ goes 0#32 (l2.take k)) (goes 0#32 (l3.take k))
        have k1' : (k : Int) ≤ (c1 : Int) := by omega
        have k2' : (k : Int) ≤ (c2 : Int) := by omega
        have k3' : (k : Int) ≤ (c3 : Int) := by omega
        clear hC HO2 hz
        go_wp2_with (first
            | (go_at_call 10; ((with_reducible refine (st_new rfl).mono ?_); rintro e w3 ⟨rfl, hM⟩; have S0 := Lib.hid hM; clear hM)))
        have K1 : k ≤ c1 := by omega
        have K2 : k ≤ c2 := by omega
        have K3 : k ≤ c3 := by omega
        (try clear H1); (try clear H2); (try clear H3); (try clear k1'); (try clear k2'); (try clear k3'); (try clear HO); (try clear HMD); (try clear hd); (try clear hd5); (try clear t1'); (try clear hlt); (try clear m1); (try clear m2); (try clear m3); (try clear k1); (try clear k2); (try clear k3); (try clear hk)
        refine Inv.wp_region_inv (by kernel_rfl) (J ⟨wr.heap.size, k, .slice A' k c', .slice A1 n1 c1, .slice A2 n2 c2, .slice A3 n3 c3, .slice A1 k c1, .slice A2 k c2, .slice A3 k c3, zip3 l1 l2 l3, l1.take k, l2.take k, l3.take k⟩ wr) (by kernel_rfl) ?h0 ?hstep ?hend
        case h0 =>
          refine ⟨rfl, rfl, rfl, rfl, rfl, rfl, rfl, rfl, rfl, fun i _ h => ?_, S0.out.drew.keep, 0, false, S0.out.drew.tab, Int.le_refl _, Int.le_trans (left_rep _) ?_⟩
          · simp [Array.getD] at h
          · show ((29 : Nat) : Int) ≤ 1000
            omega
        case hstep =>
          intro listed a w2 i o hsz hun ho hdep hJ K' hK
          have hi : i < 29 := (Array.getElem?_eq_some_iff.1 ho).1
          rcases i with _ | _ | _ | _ | _ | _ | _ | _ | _ | _ | _ | _ | _ | _ | _ | _ | _ | _ | _ | _ | _ | _ | _ | _ | _ | _ | _ | _ | _ | i
          all_goals first | (exfalso; omega) | (simp only [List.getElem?_toArray, List.getElem?_cons_zero, List.getElem?_cons_succ, Option.some.injEq] at ho; subst ho; clear hsz hi)
          · exact J.ifU rfl (J.step (i := 0) hJ (by decide) hun rfl (op_move rfl) hJ.t7 hK)
          · exact J.ifU rfl (J.step (i := 1) hJ (by decide) hun rfl (op_move rfl) (hJ.at_ 0 (by decide) (hdep ⟨0, .data⟩ (by simp) (by rfl))) hK)
          · exact hJ.ifG (hdep ⟨1, .guard⟩ (by simp) (by rfl)) rfl rfl (J.step (i := 2) hJ (by decide) hun rfl (op_move rfl) hJ.t11 hK)
          · exact hJ.ifG (hdep ⟨1, .guard⟩ (by simp) (by rfl)) rfl rfl (J.step (i := 3) hJ (by decide) hun rfl (op_move rfl) hJ.t9 hK)
          · exact hJ.ifG (hdep ⟨1, .guard⟩ (by simp) (by rfl)) rfl rfl (J.stepB (i := 4) hJ (by decide) hun rfl (op_build rfl (hJ.at_ 3 (by decide) (hdep ⟨3, .data⟩ (by simp) (by rfl)))) (hJ.piece PC.out) hK)
          · obtain ⟨b, eb, hp⟩ := (hJ.at_ 4 (by decide) (hdep ⟨4, .data⟩ (by simp) (by rfl)))
            exact hJ.ifG (hdep ⟨1, .guard⟩ (by simp) (by rfl)) rfl rfl (J.stepC (i := 5) hJ (by decide) hun rfl (op_call (i := .tmp 48) (j := .tmp 50) rfl rfl rfl (fun _ => rfl) (hJ.at_ 2 (by decide) (hdep ⟨2, .data⟩ (by simp) (by rfl))) eb) hp (fun _ => rfl) hK)
          · exact hJ.ifG (hdep ⟨1, .guard⟩ (by simp) (by rfl)) rfl rfl (J.step (i := 6) hJ (by decide) hun rfl (op_move rfl) hJ.t11 hK)
          · exact hJ.ifG (hdep ⟨1, .guard⟩ (by simp) (by rfl)) rfl rfl (J.step (i := 7) hJ (by decide) hun rfl (op_move rfl) hJ.t0 hK)
          · exact hJ.ifG (hdep ⟨1, .guard⟩ (by simp) (by rfl)) rfl rfl (J.step (i := 8) hJ (by decide) hun rfl (op_move rfl) hJ.t8 hK)
          · exact hJ.ifG (hdep ⟨1, .guard⟩ (by simp) (by rfl)) rfl rfl (J.step (i := 9) hJ (by decide) hun rfl (op_slice rfl (hJ.at_ 7 (by decide) (hdep ⟨7, .data⟩ (by simp) (by rfl))) (hJ.at_ 8 (by decide) (hdep ⟨8, .data⟩ (by simp) (by rfl))) K1) rfl hK)
          · exact hJ.ifG (hdep ⟨1, .guard⟩ (by simp) (by rfl)) rfl rfl (J.stepB (i := 10) hJ (by decide) hun rfl (op_build rfl (hJ.at_ 9 (by decide) (hdep ⟨9, .data⟩ (by simp) (by rfl)))) (hJ.piece P1.out) hK)
          · obtain ⟨b, eb, hp⟩ := (hJ.at_ 10 (by decide) (hdep ⟨10, .data⟩ (by simp) (by rfl)))
            exact hJ.ifG (hdep ⟨1, .guard⟩ (by simp) (by rfl)) rfl rfl (J.stepC (i := 11) hJ (by decide) hun rfl (op_call (i := .tmp 52) (j := .tmp 56) rfl rfl rfl (fun _ => rfl) (hJ.at_ 6 (by decide) (hdep ⟨6, .data⟩ (by simp) (by rfl))) eb) hp (fun _ => rfl) hK)
          · exact hJ.ifG (hdep ⟨1, .guard⟩ (by simp) (by rfl)) rfl rfl (J.step (i := 12) hJ (by decide) hun rfl (op_move rfl) hJ.t11 hK)
          · exact hJ.ifG (hdep ⟨1, .guard⟩ (by simp) (by rfl)) rfl rfl (J.step (i := 13) hJ (by decide) hun rfl (op_move rfl) hJ.t1 hK)
          · exact hJ.ifG (hdep ⟨1, .guard⟩ (by simp) (by rfl)) rfl rfl (J.step (i := 14) hJ (by decide) hun rfl (op_move rfl) hJ.t8 hK)
          · exact hJ.ifG (hdep ⟨1, .guard⟩ (by simp) (by rfl)) rfl rfl (J.step (i := 15) hJ (by decide) hun rfl (op_slice rfl (hJ.at_ 13 (by decide) (hdep ⟨13, .data⟩ (by simp) (by rfl))) (hJ.at_ 14 (by decide) (hdep ⟨14, .data⟩ (by simp) (by rfl))) K2) rfl hK)
          · exact hJ.ifG (hdep ⟨1, .guard⟩ (by simp) (by rfl)) rfl rfl (J.stepB (i := 16) hJ (by decide) hun rfl (op_build rfl (hJ.at_ 15 (by decide) (hdep ⟨15, .data⟩ (by simp) (by rfl)))) (hJ.piece P2.out) hK)
          · obtain ⟨b, eb, hp⟩ := (hJ.at_ 16 (by decide) (hdep ⟨16, .data⟩ (by simp) (by rfl)))
            exact hJ.ifG (hdep ⟨1, .guard⟩ (by simp) (by rfl)) rfl rfl (J.stepC (i := 17) hJ (by decide) hun rfl (op_call (i := .tmp 58) (j := .tmp 62) rfl rfl rfl (fun _ => rfl) (hJ.at_ 12 (by decide) (hdep ⟨12, .data⟩ (by simp) (by rfl))) eb) hp (fun _ => rfl) hK)
          · exact hJ.ifG (hdep ⟨1, .guard⟩ (by simp) (by rfl)) rfl rfl (J.step (i := 18) hJ (by decide) hun rfl (op_xor rfl (hJ.at_ 11 (by decide) (hdep ⟨11, .data⟩ (by simp) (by rfl))) (hJ.at_ 17 (by decide) (hdep ⟨17, .data⟩ (by simp) (by rfl)))) (congrArg (Value.int .u32) (xor_v _ _)) hK)
          · exact hJ.ifG (hdep ⟨1, .guard⟩ (by simp) (by rfl)) rfl rfl (J.step (i := 19) hJ (by decide) hun rfl (op_move rfl) hJ.t11 hK)
          · exact hJ.ifG (hdep ⟨1, .guard⟩ (by simp) (by rfl)) rfl rfl (J.step (i := 20) hJ (by decide) hun rfl (op_move rfl) hJ.t2 hK)
          · exact hJ.ifG (hdep ⟨1, .guard⟩ (by simp) (by rfl)) rfl rfl (J.step (i := 21) hJ (by decide) hun rfl (op_move rfl) hJ.t8 hK)
          · exact hJ.ifG (hdep ⟨1, .guard⟩ (by simp) (by rfl)) rfl rfl (J.step (i := 22) hJ (by decide) hun rfl (op_slice rfl (hJ.at_ 20 (by decide) (hdep ⟨20, .data⟩ (by simp) (by rfl))) (hJ.at_ 21 (by decide) (hdep ⟨21, .data⟩ (by simp) (by rfl))) K3) rfl hK)
          · exact hJ.ifG (hdep ⟨1, .guard⟩ (by simp) (by rfl)) rfl rfl (J.stepB (i := 23) hJ (by decide) hun rfl (op_build rfl (hJ.at_ 22 (by decide) (hdep ⟨22, .data⟩ (by simp) (by rfl)))) (hJ.piece P3.out) hK)
          · obtain ⟨b, eb, hp⟩ := (hJ.at_ 23 (by decide) (hdep ⟨23, .data⟩ (by simp) (by rfl)))
            exact hJ.ifG (hdep ⟨1, .guard⟩ (by simp) (by rfl)) rfl rfl (J.stepC (i := 24) hJ (by decide) hun rfl (op_call (i := .tmp 65) (j := .tmp 69) rfl rfl rfl (fun _ => rfl) (hJ.at_ 19 (by decide) (hdep ⟨19, .data⟩ (by simp) (by rfl))) eb) hp (fun _ => rfl) hK)
          · exact hJ.ifG (hdep ⟨1, .guard⟩ (by simp) (by rfl)) rfl rfl (J.step (i := 25) hJ (by decide) hun rfl (op_xor rfl (hJ.at_ 18 (by decide) (hdep ⟨18, .data⟩ (by simp) (by rfl))) (hJ.at_ 24 (by decide) (hdep ⟨24, .data⟩ (by simp) (by rfl)))) (congrArg (Value.int .u32) (xor_v _ _)) hK)
          · exact hJ.ifG (hdep ⟨1, .guard⟩ (by simp) (by rfl)) rfl rfl (J.step (i := 26) hJ (by decide) hun rfl (op_eql rfl (hJ.at_ 5 (by decide) (hdep ⟨5, .data⟩ (by simp) (by rfl))) (Eq.trans (hJ.at_ 25 (by decide) (hdep ⟨25, .data⟩ (by simp) (by rfl))) (congrArg (Value.int .u32) E0.symm))) rfl hK)
          · exact J.ifU rfl (J.step (i := 27) hJ (by decide) hun rfl (op_pick rfl (hJ.at_ 1 (by decide) (hdep ⟨1, .data⟩ (by simp) (by rfl))) (hJ.at_ 26 (by decide) (hdep ⟨26, .data⟩ (by simp) (by rfl)))) rfl hK)
          · exact J.ifU rfl (J.step (i := 28) hJ (by decide) hun rfl (op_assign rfl) (hJ.at_ 27 (by decide) (hdep ⟨27, .data⟩ (by simp) (by rfl))) hK)
        case hend =>
          intro listed a w2 hsz hall hJ
          have h6 : a.tmps.getD 6 undef = .bool true := hJ.at_ 28 (by decide) (by
            have h1 := hall 28
            have h2 : 28 < listed.size := by rw [hsz]; decide
            simp [Array.getD, h2] at h1 ⊢
            exact h1)
          have hd := hJ.defers
          obtain ⟨T, D⟩ := a
          dsimp only at h6 hd
          subst hd
          rename_i hret
          refine hret _ _ ?_
          refine wp_ret ?_
          go_ret
          exact ⟨by rw [h6], HBR.out.trans (hJ.keep.low HBR.out.size HBR.out.size)⟩

/-- A slice that can be read is no longer than its capacity. -/
theorem cap_of {H : Type} {enc : TypeId × Value → H} {W : World} {A : Option Addr} {n c : Nat} {d : DataW H} {p : List MemPlace} (h : DataW.Trod enc Try.prog W 0 (fun _ => true) true 24 (.slice A n c) d p) : n ≤ c := by
  obtain ⟨fuel, hf⟩ := h
  rcases open_ints Try.underlying24 Try.underlying5 (by kernel_rfl) hf with ⟨hcs, _⟩ | ⟨x, l, c', zs, hcs, _, hl, hm, hz, hx, hcell, hwz⟩
  · simp [Value.cells] at hcs
    omega
  · simp [Value.cells] at hcs
    omega

theorem crcLinear_says : Frame.Says Rows.crcLinearSpec 3 := by
  refine ⟨rfl, fun H ds h => ?_, fun H ds h => ?_, fun H ds h => ?_⟩ <;>
  · match ds, h with
    | [d1, d2, d3], _ => rfl

theorem crcLinear_walks : Frame.Walks 7 [24, 24, 24] := by
  intro H enc W args ds ps base hok hA hsz
  obtain ⟨v0, vs0, d0, ds0, p0, q0, hargs, rfl, rfl, h0, r0⟩ := trodAll_cons hA
  obtain ⟨v1, vs1, d1, ds1, p1, q1, rfl, rfl, rfl, h1, r1⟩ := trodAll_cons r0
  obtain ⟨v2, vs2, d2, ds2, p2, q2, rfl, rfl, rfl, h2, r2⟩ := trodAll_cons r1
  obtain ⟨rfl, rfl, rfl⟩ := trodAll_nil r2
  obtain rfl : args = #[v0, v1, v2] := by cases args; simp_all
  obtain ⟨A1, n1, c1, l1, rfl, e1⟩ := open_bytes (hok 0 _ v0 rfl rfl) h0 (sized_arg hsz (j := 0) rfl rfl)
  obtain ⟨A2, n2, c2, l2, rfl, e2⟩ := open_bytes (hok 1 _ v1 rfl rfl) h1 (sized_arg hsz (j := 1) rfl rfl)
  obtain ⟨A3, n3, c3, l3, rfl, e3⟩ := open_bytes (hok 2 _ v2 rfl rfl) h2 (sized_arg hsz (j := 2) rfl rfl)
  exact crcLinear_walk A1 n1 c1 l1 A2 n2 c2 l2 A3 n3 c3 l3 W e1 e2 e3 (cap_of h0) (cap_of h1) (cap_of h2)

theorem crcLinear_over : Rows.crcLinearRow.holds Try.pinned (OpenSpec.ofChange Rows.crcLinearSpec) :=
  OpenClaim.holds_of_wide 7 Try.f7 rfl rfl rfl rfl rfl rfl rfl ⟨rfl, rfl, rfl, rfl, rfl⟩ rfl rfl rfl rfl rfl (by kernel_rfl) Try.func7 (by kernel_rfl)
    (of_decide_eq_true (by kernel_rfl)) (by unfold Func.isWrapper; first | (rw [if_pos (by decide +kernel)]; kernel_rfl) | (rw [if_neg (by decide +kernel)]; exact ⟨rfl, rfl⟩))
    (fun os started H enc _ => Frame.lifted (started := started) Try.underlying4 (by kernel_rfl) Try.func7 (n := 3) (by rw [Try.params7]; rfl) crcLinear_says (by rw [Try.params7]; kernel_rfl) (by kernel_rfl)
      (ChangeSpec.witness6 (enc := enc) (C := Try.checked) false ⟨#[], #[.slice none 0 0, .slice none 0 0, .slice none 0 0], []⟩ 8 (by kernel_rfl) (by kernel_rfl) (by kernel_rfl) (by kernel_rfl))
      (by rw [Try.params7]; exact crcLinear_walks))
end Crc
/-- The given statement. -/
theorem crcLinear_holds : Rows.CrcLinearSaid := Crc.crcLinear_over
end Go.Proofs.Ytbojfiabgjaaaaa
